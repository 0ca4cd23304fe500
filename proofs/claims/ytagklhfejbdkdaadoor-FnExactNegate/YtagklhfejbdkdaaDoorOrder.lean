/-
  The model's l02Walk by its contract.
-/
import Derived.Test.YtagklhfejbdkdaaDoorNode
import Derived.Test.YtagklhfejbdkdaaDoorSv
import Derived.Maps.AppendAt
import Derived.Deep.AppendLies
import Derived.Deep.RegionWith
namespace Go.Proofs.YtagklhfejbdkdaaDoor
open Go.RowKit
set_option linter.unusedVariables false
set_option linter.unusedSimpArgs false

theorem hide {p : Prop} (h : p) : Hid p := h
theorem unhide {p : Prop} (h : Hid p) : p := h
/-- A slice of places, of the call's own. -/
def OwnsP (w : World) (base : Nat) (v : Value) (l : List Nat) : Prop := w.ownsRow base 2 1 v l.length (l.map fun (j : Nat) => Value.int .i64 (j : Int))
theorem Tryd.infoI : (Tryd.prog.info? 2).map (fun i => (i.zero, i.size, i.bytes)) = some (some (.int .i64 0), 1, 8) := by kernel_rfl
theorem Tryd.uIs : Tryd.prog.underlying 45 = some (.slice 2) := by kernel_rfl
/-- What a slice of places looks like. -/
theorem OwnsP.form {w : World} {base : Nat} {v : Value} {l : List Nat} (h : OwnsP w base v l) : ∃ a c, v = .slice a l.length c ∧ (0 < l.length → ∃ g, a = some ⟨g, 0, none⟩ ∧ base ≤ g ∧ g < w.heap.size ∧ ∀ j, j < l.length → w.cell? ⟨g, j, none⟩ = some (.int .i64 (l.getD j 0 : Nat))) := by
  rcases h.2 with ⟨hv, h0⟩ | ⟨g, cap, cur, hv, hb, hg, _⟩
  · exact ⟨none, 0, by rw [hv, h0], fun h => by omega⟩
  · refine ⟨some ⟨g, 0, none⟩, cap, hv, fun _ => ⟨g, rfl, hb, (Array.getElem?_eq_some_iff.1 hg).1, fun j hj => ?_⟩⟩
    have h1 := World.ownsRow.cells h (g := g) (by rw [hv]; rfl) j (.int .i64 (l.getD j 0 : Nat)) (by simp [hj, List.getD])
    rw [Addr.add_lit] at h1
    simpa using h1
theorem OwnsP.snoc {w : World} {base : Nat} {v : Value} {l : List Nat} {n : Nat} (h : w.ownsRow base 2 1 v (l.length + 1) ((l.map fun (j : Nat) => Value.int .i64 (j : Int)) ++ [.int .i64 (n : Int)])) : OwnsP w base v (l ++ [n]) := by
  simpa [OwnsP] using h
theorem arms_w (k : Int) (w : World) : Calls Tryd.prog 61 #[.int .i64 k] w fun e w' => e = .returned (.int .i64 (armsN k)) ∧ w = w' := (arms_any k w).mono fun _ _ h => ⟨h.1, h.2.symm⟩
/-- Is a place among those of a list, up to k? -/
def hasTo (l : List Nat) (i k : Nat) : Prop := ∀ j, j < k → l.getD j 0 ≠ i
theorem hasTo_all (l : List Nat) (i : Nat) (h : hasTo l i l.length) : i ∉ l := by
  intro hm
  obtain ⟨j, hj, e⟩ := List.getElem_of_mem hm
  exact h j hj (by simp [List.getD, hj, e])
theorem getD_mem (l : List Nat) (j : Nat) (hj : j < l.length) : l.getD j 0 ∈ l := by
  simp [List.getD, hj]

theorem walkF_in (f : List Nd) (n i : Nat) (l : List Nat) (h : i ∈ l) : walkF f (n + 1) i l = l := by simp [walkF, h]
theorem walkF_0 (f : List Nd) (n i : Nat) (l : List Nat) (h : i ∉ l) (ha : armsN (ndAt f i).k = 0) : walkF f (n + 1) i l = l ++ [i] := by simp [walkF, h, ha]
theorem walkF_1 (f : List Nd) (n i : Nat) (l : List Nat) (h : i ∉ l) (ha : armsN (ndAt f i).k = 1) : walkF f (n + 1) i l = walkF f n (ndAt f i).a.toNat l ++ [i] := by simp [walkF, h, ha]
theorem walkF_2 (f : List Nd) (n i : Nat) (l : List Nat) (h : i ∉ l) (ha : armsN (ndAt f i).k = 2) : walkF f (n + 1) i l = walkF f n (ndAt f i).b.toNat (walkF f n (ndAt f i).a.toNat l) ++ [i] := by simp [walkF, h, ha]
theorem armsN_012 (k : Int) : armsN k = 0 ∨ armsN k = 1 ∨ armsN k = 2 := by
  unfold armsN
  repeat' split
  all_goals omega

/-- What is known of the list as it goes. -/
structure PlacesOk (f : List Nd) (l : List Nat) : Prop where
  nd : l.Nodup
  lt : ∀ j ∈ l, j < f.length
theorem PlacesOk.walk {f : List Nd} {l : List Nat} (h : PlacesOk f l) {n i : Nat} (hd : downTo f (i + 1)) (hin : i < n) (hif : i < f.length) : PlacesOk f (walkF f n i l) :=
  ⟨walkF_nodup f n i l hd hin h.nd, walkF_lt f n i f.length l hd hin hif h.lt⟩
theorem PlacesOk.len {f : List Nd} {l : List Nat} (h : PlacesOk f l) : l.length ≤ f.length := nodup_len _ l h.nd h.lt

set_option maxRecDepth 20000 in
set_option maxHeartbeats 4000000 in
theorem walk_any (f : List Nd) (b cap base : Nat) (hbb : b < base) (hfl : f.length ≤ 64) : ∀ (n i : Nat) (l : List Nat) (v : Value) (w : World), i < n → i < f.length → downTo f (i + 1) → NodesAt w b f → base ≤ w.heap.size → PlacesOk f l → OwnsP w base v l →
    Calls Tryd.prog 49 #[.slice (some ⟨b, 0, none⟩) f.length cap, .int .i64 i, v] w fun e w' => ∃ v', e = .returned v' ∧ OwnsP w' base v' (walkF f n i l) ∧ Below base w w' := by
  intro n
  induction n with
  | zero => intro i l v w h; omega
  | succ n ih =>
    intro i l v w hin hif hd hN hbase hP hO
    have IH := hide ih
    clear ih
    obtain ⟨a, c, rfl, hform⟩ := hO.form
    have HO : Hid (OwnsP w base (.slice a l.length c) l) := hO
    clear hO
    have hll := hP.len
    have HP : Hid (PlacesOk f l) := hP
    have HF : Hid (0 < l.length → ∃ g, a = some ⟨g, 0, none⟩ ∧ base ≤ g ∧ g < w.heap.size ∧ ∀ j, j < l.length → w.cell? ⟨g, j, none⟩ = some (.int .i64 (l.getD j 0 : Nat))) := hform
    have HD : Hid (downTo f (i + 1)) := hd
    have HN : Hid (NodesAt w b f) := hN
    clear hform hd hP hN
    go_enter Tryd.func49, Tryd.ntmps49
    go_wp2_with fail
    go_loop [7] (fun t => ∃ k : Nat, k ≤ l.length ∧ t = .int .i64 k ∧ hasTo l i k) (fun t => l.length - (intOf t).toNat)
    case atStart => exact ⟨0, Nat.zero_le _, rfl, fun j h => by omega⟩
    case round =>
      obtain ⟨k, hk, rfl, hh⟩ := hrel
      have HH : Hid (hasTo l i k) := hh
      clear hh
      by_cases hlt : k < l.length
      · obtain ⟨g, rfl, hg1, hg2, hg3⟩ := HF.out (by omega)
        have hc := hg3 k hlt
        have HG3 : Hid (∀ j, j < l.length → w.cell? ⟨g, j, none⟩ = some (.int .i64 (l.getD j 0 : Nat))) := hg3
        clear hg3
        generalize hx : l.getD k 0 = x at hc
        have HX : Hid (l.getD k 0 = x) := hx
        clear hx
        by_cases hxi : x = i
        · subst hxi
          go_wp2_with fail
          go_ret
          have hm : x ∈ l := by rw [← HX.out]; exact getD_mem l k hlt
          exact ⟨_, rfl, by rw [walkF_in f n x l hm]; exact HO.out, Below.refl _ _⟩
        · have hne : ((x : Int) == (i : Int)) = false := by simp; omega
          go_wp2_with fail
          go_round
          case rel => exact ⟨k + 1, by omega, by go_num, fun j hj => by
            by_cases e : j = k
            · subst e; rw [HX.out]; exact hxi
            · exact HH.out j (by omega)⟩
          case measure => simp [intOf]; omega
      · have hk' : k = l.length := by omega
        have HM : Hid (i ∉ l) := hasTo_all l i (hk' ▸ HH.out)
        clear HH
        obtain ⟨c0, c1, c2, c3, c4, c5⟩ := HN.out.2 i hif
        clear c3 c4 c5
        obtain ⟨i0, hi, hz0, hz1, hz2⟩ := info_parts Tryd.infoI
        rcases armsN_012 (ndAt f i).k with ha | ha | ha
        · have HW : Hid (walkF f (n + 1) i l = l ++ [i]) := walkF_0 f n i l HM.out ha
          clear c1 c2
          go_wp2_with (first | (go_at_call 61; refine (arms_w _ _).mono ?_; rintro e w' ⟨rfl, rfl⟩) | (at_builtin; refine wpList_append_own _ rfl _ _ 45 rfl base 2 i0 (.int .i64 0) 1 8 Tryd.uIs hi hz0 hz1 hz2 rfl (by decide) _ _ _ rfl (HO.out.alloc _) ⟨w.heap.size, 0, none⟩ 1 1 [.int .i64 (i : Int)] rfl rfl (cell_one _ _ _) (by simp [Value.oneCell']) (by unfold maxLen; omega) (by omega) (by simp; omega) ?_; intro v' w2 hown' hgrow _))
          go_ret
          exact ⟨_, rfl, by rw [HW.out]; exact OwnsP.snoc hown', ((Below.refl base w).alloc hbase _).grown hgrow (by simp; omega) (fun k hk => (HO.out.lt k hk).1)⟩
        · obtain ⟨na, hna⟩ := Int.eq_ofNat_of_zero_le ((HD.out i (by omega)).1 (by omega)).1
          have hlt := ((HD.out i (by omega)).1 (by omega)).2
          have HW : Hid (walkF f (n + 1) i l = walkF f n na l ++ [i]) := by
            have := walkF_1 f n i l HM.out ha
            rw [hna, Int.toNat_natCast] at this
            exact this
          rw [hna] at c1 hlt
          have HC := (unhide IH na l _ w (by omega) (by omega) (fun j hj => HD.out j (by omega)) HN.out hbase HP.out HO.out)
          have hP1 : Hid (PlacesOk f (walkF f n na l)) := HP.out.walk (fun j hj => HD.out j (by omega)) (by omega) (by omega)
          have hl1 : (walkF f n na l).length ≤ f.length := hP1.out.len
          clear c2 hna
          generalize walkF f n na l = l1 at *
          have HC := hide HC
          go_wp2_with (first | (go_at_call 61; refine (arms_w _ _).mono ?_; rintro e w' ⟨rfl, rfl⟩) | (go_at_call 49; refine (unhide HC).mono ?_; rintro e w1 ⟨v1, rfl, hO1, hb1⟩; have hz1' := hb1.size; have hO1 := hide hO1; have hb1 := hide hb1) | (at_builtin; refine wpList_append_own _ rfl _ _ 45 rfl base 2 i0 (.int .i64 0) 1 8 Tryd.uIs hi hz0 hz1 hz2 rfl (by decide) _ _ _ rfl ((unhide hO1).alloc _) ⟨w1.heap.size, 0, none⟩ 1 1 [.int .i64 (i : Int)] rfl rfl (cell_one _ _ _) (by simp [Value.oneCell']) (by unfold maxLen; omega) (by omega) (by simp; omega) ?_; intro v' w2 hown' hgrow _))
          go_ret
          exact ⟨_, rfl, by rw [HW.out]; exact OwnsP.snoc hown', ((unhide hb1).alloc (by omega) _).grown hgrow (by simp; omega) (fun k hk => ((unhide hO1).lt k hk).1)⟩
        · have hx := HD.out i (by omega)
          obtain ⟨na, hna⟩ := Int.eq_ofNat_of_zero_le (hx.1 (by omega)).1
          obtain ⟨nb, hnb⟩ := Int.eq_ofNat_of_zero_le (hx.2 (by omega)).1
          have hlta := (hx.1 (by omega)).2
          have hltb := (hx.2 (by omega)).2
          clear hx
          have HW : Hid (walkF f (n + 1) i l = walkF f n nb (walkF f n na l) ++ [i]) := by
            have := walkF_2 f n i l HM.out ha
            rw [hna, hnb, Int.toNat_natCast, Int.toNat_natCast] at this
            exact this
          rw [hna] at c1 hlta
          rw [hnb] at c2 hltb
          have HC := hide (unhide IH na l _ w (by omega) (by omega) (fun j hj => HD.out j (by omega)) HN.out hbase HP.out HO.out)
          have hP1 : Hid (PlacesOk f (walkF f n na l)) := HP.out.walk (fun j hj => HD.out j (by omega)) (by omega) (by omega)
          have hP2 : Hid (PlacesOk f (walkF f n nb (walkF f n na l))) := hP1.out.walk (fun j hj => HD.out j (by omega)) (by omega) (by omega)
          have hl2 : (walkF f n nb (walkF f n na l)).length ≤ f.length := hP2.out.len
          have HD2 : Hid (downTo f (nb + 1)) := fun j hj => HD.out j (by omega)
          clear hna hnb HD
          generalize walkF f n na l = l1 at *
          generalize hl3 : walkF f n nb l1 = l2 at *
          have HL3 := hide hl3
          clear hl3
          go_wp2_with (first | (go_at_call 61; refine (arms_w _ _).mono ?_; rintro e w' ⟨rfl, rfl⟩) | (go_at_call_of 49 (na : Int); refine (unhide HC).mono ?_; rintro e w1 ⟨v1, rfl, hO1, hb1⟩; have hz1' := hb1.size; have c2' := (hb1.cell (p := ⟨b, i * 6 + 2, none⟩) hbb).trans c2; have hN1 := hide (HN.out.below hb1 hbb); have hO1 := hide hO1; have hb1 := hide hb1) | (go_at_call_of 49 (nb : Int); refine (unhide IH nb l1 _ w1 (by omega) (by omega) HD2.out (unhide hN1) (by omega) hP1.out (unhide hO1)).mono ?_; rw [unhide HL3]; rintro e w3 ⟨v3, rfl, hO3, hb3⟩; have hz3' := hb3.size; have hO3 := hide hO3; have hb3 := hide hb3) | (at_builtin; refine wpList_append_own _ rfl _ _ 45 rfl base 2 i0 (.int .i64 0) 1 8 Tryd.uIs hi hz0 hz1 hz2 rfl (by decide) _ _ _ rfl ((unhide hO3).alloc _) ⟨w3.heap.size, 0, none⟩ 1 1 [.int .i64 (i : Int)] rfl rfl (cell_one _ _ _) (by simp [Value.oneCell']) (by unfold maxLen; omega) (by omega) (by simp; omega) ?_; intro v' w2 hown' hgrow _))
          go_ret
          exact ⟨_, rfl, by rw [HW.out]; exact OwnsP.snoc hown', (((unhide hb1).trans (unhide hb3)).alloc (by omega) _).grown hgrow (by simp; omega) (fun k hk => ((unhide hO3).lt k hk).1)⟩
end Go.Proofs.YtagklhfejbdkdaaDoor
