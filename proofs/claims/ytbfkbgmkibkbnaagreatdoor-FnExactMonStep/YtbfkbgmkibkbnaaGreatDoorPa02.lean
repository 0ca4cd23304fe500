/-
  The model's l02Walk by its contract.
  Two nodes compared as wholes.
  The model's FormulaRight by its contract.
  TraceRight, the model's and the program's, by one contract.
  The model's l04In, l04Holds by their contracts.
-/
import Derived.Test.YtbfkbgmkibkbnaaGreatDoorPa01
import Derived.Test.YtbfkbgmkibkbnaaGreatDoorPa00
import Derived.Maps.AppendAt
import Derived.Deep.AppendLies
import Derived.Deep.RegionWith
import Derived.Laws.StructEq
import Derived.BigQuiet
import Derived.Deep.QuietTactic
import Derived.Lib.QuietBelow
namespace Go.Proofs.YtbfkbgmkibkbnaaGreatDoor
open Go.RowKit
set_option linter.unusedVariables false
set_option linter.unusedSimpArgs false

theorem hide {p : Prop} (h : p) : Hid p := h
theorem unhide {p : Prop} (h : Hid p) : p := h
/-- A slice of places, of the call's own. -/
def OwnsP (w : World) (base : Nat) (v : Value) (l : List Nat) : Prop := w.ownsRow base 2 1 v l.length (l.map fun (j : Nat) => Value.int .i64 (j : Int))
theorem Tryz.infoI : (Tryz.prog.info? 2).map (fun i => (i.zero, i.size, i.bytes)) = some (some (.int .i64 0), 1, 8) := by kernel_rfl
theorem Tryz.uIs : Tryz.prog.underlying 82 = some (.slice 2) := by kernel_rfl
/-- What a slice of places looks like. -/
theorem OwnsP.form {w : World} {base : Nat} {v : Value} {l : List Nat} (h : OwnsP w base v l) : ∃ a c, v = .slice a l.length c ∧ (0 < l.length → ∃ g, a = some ⟨g, 0, none⟩ ∧ base ≤ g ∧ g < w.heap.size ∧ ∀ j, j < l.length → w.cell? ⟨g, j, none⟩ = some (.int .i64 (l.getD j 0 : Nat))) := by
  rcases h.2 with ⟨hv, h0⟩ | ⟨g, cap, cur, hv, hb, hg, _⟩
  · exact ⟨none, 0, by rw [hv, h0], fun h => by omega⟩
  · refine ⟨some ⟨g, 0, none⟩, cap, hv, fun _ => ⟨g, rfl, hb, (Array.getElem?_eq_some_iff.1 hg).1, fun j hj => ?_⟩⟩
    have h1 := World.ownsRow.cells h (g := g) (by rw [hv]; rfl) j (.int .i64 (l.getD j 0 : Nat)) (by simp [hj, List.getD])
    rw [Addr.add_lit] at h1
    simpa using h1
theorem OwnsP.snoc {w : World} {base : Nat} {v : Value} {l : List Nat} {n : Nat} (h : w.ownsRow base 2 1 v (l.length + 1) ((l.map fun (j : Nat) => Value.int .i64 (j : Int)) ++ [.int .i64 (n : Int)])) : OwnsP w base v (l ++ [n]) := by
  simpa [OwnsP] using h
theorem arms_w (k : Int) (w : World) : Calls Tryz.prog 89 #[.int .i64 k] w fun e w' => e = .returned (.int .i64 (armsN k)) ∧ w = w' := (arms_any k w).mono fun _ _ h => ⟨h.1, h.2.symm⟩
/-- Is a place among those of a list, up to k? -/
def hasTo (l : List Nat) (i k : Nat) : Prop := ∀ j, j < k → l.getD j 0 ≠ i
theorem hasTo_all (l : List Nat) (i : Nat) (h : hasTo l i l.length) : i ∉ l := by
  intro hm
  obtain ⟨j, hj, e⟩ := List.getElem_of_mem hm
  exact h j hj (by simp [List.getD, hj, e])
theorem getD_mem (l : List Nat) (j : Nat) (hj : j < l.length) : l.getD j 0 ∈ l := by
  simp [List.getD, hj]

theorem walkF_in (f : List Nd) (n i : Nat) (l : List Nat) (h : i ∈ l) : walkF f (n + 1) i l = l := by simp [walkF, h]
theorem walkF_0 (f : List Nd) (n i : Nat) (l : List Nat) (h : i ∉ l) (ha : armsN (ndAt f i).k = 0) : walkF f (n + 1) i l = l ++ [i] := by simp [walkF, h, ha]
theorem walkF_1 (f : List Nd) (n i : Nat) (l : List Nat) (h : i ∉ l) (ha : armsN (ndAt f i).k = 1) : walkF f (n + 1) i l = walkF f n (ndAt f i).a.toNat l ++ [i] := by simp [walkF, h, ha]
theorem walkF_2 (f : List Nd) (n i : Nat) (l : List Nat) (h : i ∉ l) (ha : armsN (ndAt f i).k = 2) : walkF f (n + 1) i l = walkF f n (ndAt f i).b.toNat (walkF f n (ndAt f i).a.toNat l) ++ [i] := by simp [walkF, h, ha]
theorem armsN_012 (k : Int) : armsN k = 0 ∨ armsN k = 1 ∨ armsN k = 2 := by
  unfold armsN
  repeat' split
  all_goals omega

/-- What is known of the list as it goes. -/
structure PlacesOk (f : List Nd) (l : List Nat) : Prop where
  nd : l.Nodup
  lt : ∀ j ∈ l, j < f.length
theorem PlacesOk.walk {f : List Nd} {l : List Nat} (h : PlacesOk f l) {n i : Nat} (hd : downTo f (i + 1)) (hin : i < n) (hif : i < f.length) : PlacesOk f (walkF f n i l) :=
  ⟨walkF_nodup f n i l hd hin h.nd, walkF_lt f n i f.length l hd hin hif h.lt⟩
theorem PlacesOk.len {f : List Nd} {l : List Nat} (h : PlacesOk f l) : l.length ≤ f.length := nodup_len _ l h.nd h.lt

set_option maxRecDepth 20000 in
set_option maxHeartbeats 4000000 in
theorem walk_any (f : List Nd) (b cap base : Nat) (hbb : b < base) (hfl : f.length ≤ 24) : ∀ (n i : Nat) (l : List Nat) (v : Value) (w : World), i < n → i < f.length → downTo f (i + 1) → NodesAt w b f → base ≤ w.heap.size → PlacesOk f l → OwnsP w base v l →
    Calls Tryz.prog 48 #[.slice (some ⟨b, 0, none⟩) f.length cap, .int .i64 i, v] w fun e w' => ∃ v', e = .returned v' ∧ OwnsP w' base v' (walkF f n i l) ∧ Below base w w' := by
  intro n
  induction n with
  | zero => intro i l v w h; omega
  | succ n ih =>
    intro i l v w hin hif hd hN hbase hP hO
    have IH := hide ih
    clear ih
    obtain ⟨a, c, rfl, hform⟩ := hO.form
    have HO : Hid (OwnsP w base (.slice a l.length c) l) := hO
    clear hO
    have hll := hP.len
    have HP : Hid (PlacesOk f l) := hP
    have HF : Hid (0 < l.length → ∃ g, a = some ⟨g, 0, none⟩ ∧ base ≤ g ∧ g < w.heap.size ∧ ∀ j, j < l.length → w.cell? ⟨g, j, none⟩ = some (.int .i64 (l.getD j 0 : Nat))) := hform
    have HD : Hid (downTo f (i + 1)) := hd
    have HN : Hid (NodesAt w b f) := hN
    clear hform hd hP hN
    go_enter Tryz.func48, Tryz.ntmps48
    go_wp2_with fail
    go_loop [7] (fun t => ∃ k : Nat, k ≤ l.length ∧ t = .int .i64 k ∧ hasTo l i k) (fun t => l.length - (intOf t).toNat)
    case atStart => exact ⟨0, Nat.zero_le _, rfl, fun j h => by omega⟩
    case round =>
      obtain ⟨k, hk, rfl, hh⟩ := hrel
      have HH : Hid (hasTo l i k) := hh
      clear hh
      by_cases hlt : k < l.length
      · obtain ⟨g, rfl, hg1, hg2, hg3⟩ := HF.out (by omega)
        have hc := hg3 k hlt
        have HG3 : Hid (∀ j, j < l.length → w.cell? ⟨g, j, none⟩ = some (.int .i64 (l.getD j 0 : Nat))) := hg3
        clear hg3
        generalize hx : l.getD k 0 = x at hc
        have HX : Hid (l.getD k 0 = x) := hx
        clear hx
        by_cases hxi : x = i
        · subst hxi
          go_wp2_with fail
          go_ret
          have hm : x ∈ l := by rw [← HX.out]; exact getD_mem l k hlt
          exact ⟨_, rfl, by rw [walkF_in f n x l hm]; exact HO.out, Below.refl _ _⟩
        · have hne : ((x : Int) == (i : Int)) = false := by simp; omega
          go_wp2_with fail
          go_round
          case rel => exact ⟨k + 1, by omega, by go_num, fun j hj => by
            by_cases e : j = k
            · subst e; rw [HX.out]; exact hxi
            · exact HH.out j (by omega)⟩
          case measure => simp [intOf]; omega
      · have hk' : k = l.length := by omega
        have HM : Hid (i ∉ l) := hasTo_all l i (hk' ▸ HH.out)
        clear HH
        obtain ⟨c0, c1, c2, c3, c4, c5⟩ := HN.out.2 i hif
        clear c3 c4 c5
        obtain ⟨i0, hi, hz0, hz1, hz2⟩ := info_parts Tryz.infoI
        rcases armsN_012 (ndAt f i).k with ha | ha | ha
        · have HW : Hid (walkF f (n + 1) i l = l ++ [i]) := walkF_0 f n i l HM.out ha
          clear c1 c2
          go_wp2_with (first | (go_at_call 89; refine (arms_w _ _).mono ?_; rintro e w' ⟨rfl, rfl⟩) | (at_builtin; refine wpList_append_own _ rfl _ _ 82 rfl base 2 i0 (.int .i64 0) 1 8 Tryz.uIs hi hz0 hz1 hz2 rfl (by decide) _ _ _ rfl (HO.out.alloc _) ⟨w.heap.size, 0, none⟩ 1 1 [.int .i64 (i : Int)] rfl rfl (cell_one _ _ _) (by simp [Value.oneCell']) (by unfold maxLen; omega) (by omega) (by simp; omega) ?_; intro v' w2 hown' hgrow _))
          go_ret
          exact ⟨_, rfl, by rw [HW.out]; exact OwnsP.snoc hown', ((Below.refl base w).alloc hbase _).grown hgrow (by simp; omega) (fun k hk => (HO.out.lt k hk).1)⟩
        · obtain ⟨na, hna⟩ := Int.eq_ofNat_of_zero_le ((HD.out i (by omega)).1 (by omega)).1
          have hlt := ((HD.out i (by omega)).1 (by omega)).2
          have HW : Hid (walkF f (n + 1) i l = walkF f n na l ++ [i]) := by
            have := walkF_1 f n i l HM.out ha
            rw [hna, Int.toNat_natCast] at this
            exact this
          rw [hna] at c1 hlt
          have HC := (unhide IH na l _ w (by omega) (by omega) (fun j hj => HD.out j (by omega)) HN.out hbase HP.out HO.out)
          have hP1 : Hid (PlacesOk f (walkF f n na l)) := HP.out.walk (fun j hj => HD.out j (by omega)) (by omega) (by omega)
          have hl1 : (walkF f n na l).length ≤ f.length := hP1.out.len
          clear c2 hna
          generalize walkF f n na l = l1 at *
          have HC := hide HC
          go_wp2_with (first | (go_at_call 89; refine (arms_w _ _).mono ?_; rintro e w' ⟨rfl, rfl⟩) | (go_at_call 48; refine (unhide HC).mono ?_; rintro e w1 ⟨v1, rfl, hO1, hb1⟩; have hz1' := hb1.size; have hO1 := hide hO1; have hb1 := hide hb1) | (at_builtin; refine wpList_append_own _ rfl _ _ 82 rfl base 2 i0 (.int .i64 0) 1 8 Tryz.uIs hi hz0 hz1 hz2 rfl (by decide) _ _ _ rfl ((unhide hO1).alloc _) ⟨w1.heap.size, 0, none⟩ 1 1 [.int .i64 (i : Int)] rfl rfl (cell_one _ _ _) (by simp [Value.oneCell']) (by unfold maxLen; omega) (by omega) (by simp; omega) ?_; intro v' w2 hown' hgrow _))
          go_ret
          exact ⟨_, rfl, by rw [HW.out]; exact OwnsP.snoc hown', ((unhide hb1).alloc (by omega) _).grown hgrow (by simp; omega) (fun k hk => ((unhide hO1).lt k hk).1)⟩
        · have hx := HD.out i (by omega)
          obtain ⟨na, hna⟩ := Int.eq_ofNat_of_zero_le (hx.1 (by omega)).1
          obtain ⟨nb, hnb⟩ := Int.eq_ofNat_of_zero_le (hx.2 (by omega)).1
          have hlta := (hx.1 (by omega)).2
          have hltb := (hx.2 (by omega)).2
          clear hx
          have HW : Hid (walkF f (n + 1) i l = walkF f n nb (walkF f n na l) ++ [i]) := by
            have := walkF_2 f n i l HM.out ha
            rw [hna, hnb, Int.toNat_natCast, Int.toNat_natCast] at this
            exact this
          rw [hna] at c1 hlta
          rw [hnb] at c2 hltb
          have HC := hide (unhide IH na l _ w (by omega) (by omega) (fun j hj => HD.out j (by omega)) HN.out hbase HP.out HO.out)
          have hP1 : Hid (PlacesOk f (walkF f n na l)) := HP.out.walk (fun j hj => HD.out j (by omega)) (by omega) (by omega)
          have hP2 : Hid (PlacesOk f (walkF f n nb (walkF f n na l))) := hP1.out.walk (fun j hj => HD.out j (by omega)) (by omega) (by omega)
          have hl2 : (walkF f n nb (walkF f n na l)).length ≤ f.length := hP2.out.len
          have HD2 : Hid (downTo f (nb + 1)) := fun j hj => HD.out j (by omega)
          clear hna hnb HD
          generalize walkF f n na l = l1 at *
          generalize hl3 : walkF f n nb l1 = l2 at *
          have HL3 := hide hl3
          clear hl3
          go_wp2_with (first | (go_at_call 89; refine (arms_w _ _).mono ?_; rintro e w' ⟨rfl, rfl⟩) | (go_at_call_of 48 (na : Int); refine (unhide HC).mono ?_; rintro e w1 ⟨v1, rfl, hO1, hb1⟩; have hz1' := hb1.size; have c2' := (hb1.cell (p := ⟨b, i * 6 + 2, none⟩) hbb).trans c2; have hN1 := hide (HN.out.below hb1 hbb); have hO1 := hide hO1; have hb1 := hide hb1) | (go_at_call_of 48 (nb : Int); refine (unhide IH nb l1 _ w1 (by omega) (by omega) HD2.out (unhide hN1) (by omega) hP1.out (unhide hO1)).mono ?_; rw [unhide HL3]; rintro e w3 ⟨v3, rfl, hO3, hb3⟩; have hz3' := hb3.size; have hO3 := hide hO3; have hb3 := hide hb3) | (at_builtin; refine wpList_append_own _ rfl _ _ 82 rfl base 2 i0 (.int .i64 0) 1 8 Tryz.uIs hi hz0 hz1 hz2 rfl (by decide) _ _ _ rfl ((unhide hO3).alloc _) ⟨w3.heap.size, 0, none⟩ 1 1 [.int .i64 (i : Int)] rfl rfl (cell_one _ _ _) (by simp [Value.oneCell']) (by unfold maxLen; omega) (by omega) (by simp; omega) ?_; intro v' w2 hown' hgrow _))
          go_ret
          exact ⟨_, rfl, by rw [HW.out]; exact OwnsP.snoc hown', (((unhide hb1).trans (unhide hb3)).alloc (by omega) _).grown hgrow (by simp; omega) (fun k hk => ((unhide hO3).lt k hk).1)⟩
end Go.Proofs.YtbfkbgmkibkbnaaGreatDoor
namespace Go.Proofs.YtbfkbgmkibkbnaaGreatDoor
open Go.RowKit
theorem nd_ext (x y : Nd) : x = y ↔ x.k = y.k ∧ x.a = y.a ∧ x.b = y.b ∧ x.lo = y.lo ∧ x.hi = y.hi ∧ x.nm = y.nm := by
  obtain ⟨a1, a2, a3, a4, a5, a6⟩ := x
  obtain ⟨b1, b2, b3, b4, b5, b6⟩ := y
  simp [Nd.k, Nd.a, Nd.b, Nd.lo, Nd.hi, Nd.nm]
theorem str_eq (a b : ByteArray) : a = b ↔ a.toList = b.toList := by
  rw [ByteArray.toList_eq, ByteArray.toList_eq]
  obtain ⟨⟨x⟩⟩ := a
  obtain ⟨⟨y⟩⟩ := b
  simp
theorem Tryz.uNd : Tryz.prog.underlying 81 = some (.struct (Tryz.prog.fieldsOf 81)) := by kernel_rfl
theorem Tryz.sNd : Tryz.prog.stoodInHeld 81 = false := by kernel_rfl
set_option linter.unusedSimpArgs false
set_option maxHeartbeats 1000000 in
theorem equalIn_node (x y : Nd) (w : World) : (Op.equalIn 10000 81 (ndV x) (ndV y)).run Tryz.prog w = .ok (decide (x = y)) w := by
  unfold ndV
  rw [show (10000 : Nat) = 9999 + 1 from rfl, run_equalIn_struct w 9999 _ _ _ Tryz.uNd Tryz.sNd]
  simp only [nd_ext, str_eq]
  by_cases h1 : x.k = y.k
  · by_cases h2 : x.a = y.a
    · by_cases h3 : x.b = y.b
      · by_cases h4 : x.lo = y.lo
        · by_cases h5 : x.hi = y.hi
          · by_cases h6 : x.nm.toList = y.nm.toList
            · simp [go_sem, h1, h2, h3, h4, h5, h6]
            · simp [go_sem, h1, h2, h3, h4, h5, h6]
          · simp [go_sem, h1, h2, h3, h4, h5]
        · simp [go_sem, h1, h2, h3, h4]
      · simp [go_sem, h1, h2, h3]
    · simp [go_sem, h1, h2]
  · simp [go_sem, h1]
theorem eql_node (x y : Nd) (w : World) : (binOp .eql 81 (ndV x) (ndV y)).run Tryz.prog w = .ok (.bool (decide (x = y))) w := by
  have h := equalIn_node x y w
  unfold ndV at h ⊢
  simp only [binOp]
  simp [Op.equal, Op.maxDepth, h]
theorem neq_node (x y : Nd) (w : World) : (binOp .neq 81 (ndV x) (ndV y)).run Tryz.prog w = .ok (.bool (!decide (x = y))) w := by
  have h := equalIn_node x y w
  unfold ndV at h ⊢
  simp only [binOp]
  simp [Op.equal, Op.maxDepth, h]
end Go.Proofs.YtbfkbgmkibkbnaaGreatDoor
namespace Go.Proofs.YtbfkbgmkibkbnaaGreatDoor
open Go.RowKit
set_option linter.unusedVariables false
set_option linter.unusedSimpArgs false

set_option maxHeartbeats 1000000 in
theorem specNode_bad (k a b lo hi : Int) (nm : ByteArray) (i : Nat) (w : World) (h : isB k 1 9 = false) :
    Calls Tryz.prog 47 #[.agg #[.int .i64 k, .int .i64 a, .int .i64 b, .int .i64 lo, .int .i64 hi, .string nm], .int .i64 i] w fun e w' => e = .returned (.bool false) ∧ Below w.heap.size w w' := by
  go_enter Tryz.func47, Tryz.ntmps47
  go_wp2_with (first | (go_at_call 60; refine (is_any _ _ _ _).mono ?_; rintro e w' ⟨rfl, rfl⟩))
  go_ret
  exact ⟨rfl, (Below.refl _ _).alloc (Nat.le_refl _) _⟩
theorem specNode_any (x : Nd) (hs : x.nm.size ≤ maxLen) (i : Nat) (hi' : i < 1000) (w : World) :
    Calls Tryz.prog 47 #[ndV x, .int .i64 i] w fun e w' => e = .returned (.bool (nodeB x i)) ∧ Below w.heap.size w w' := by
  obtain ⟨k, a, b, lo, hi, nm⟩ := x
  show Calls Tryz.prog 47 #[.agg #[.int .i64 k, .int .i64 a, .int .i64 b, .int .i64 lo, .int .i64 hi, .string nm], .int .i64 i] w _
  rcases Bool.eq_false_or_eq_true (isB k 1 9) with h | h
  · have hk : k = 1 ∨ k = 2 ∨ k = 3 ∨ k = 4 ∨ k = 5 ∨ k = 6 ∨ k = 7 ∨ k = 8 ∨ k = 9 := by simp [isB] at h; omega
    rcases hk with rfl | rfl | rfl | rfl | rfl | rfl | rfl | rfl | rfl
    · exact specNode1 a b lo hi nm hs i hi' w
    · exact specNode2 a b lo hi nm hs i hi' w
    · exact specNode3 a b lo hi nm hs i hi' w
    · exact specNode4 a b lo hi nm hs i hi' w
    · exact specNode5 a b lo hi nm hs i hi' w
    · exact specNode6 a b lo hi nm hs i hi' w
    · exact specNode7 a b lo hi nm hs i hi' w
    · exact specNode8 a b lo hi nm hs i hi' w
    · exact specNode9 a b lo hi nm hs i hi' w
  · rw [node_kind (k, a, b, lo, hi, nm) i h]
    exact specNode_bad k a b lo hi nm i w h

theorem rightB_len (f : List Nd) (h : ¬ (1 ≤ f.length ∧ f.length ≤ 24)) : rightB f = false := by simp [rightB, h]
theorem rightB_good (f : List Nd) (k : Nat) (hk : k < f.length) (h : goodTo f (k + 1) = false) : rightB f = false := by
  simp [rightB, goodTo_false f k f.length hk h]
theorem rightB_eq (f : List Nd) (h1 : 1 ≤ f.length) (h2 : f.length ≤ 24) (h : goodTo f f.length = true) : rightB f = (walkF f f.length (f.length - 1) [] == List.range f.length) := by
  simp [rightB, h1, h2, h]
theorem goodTo_node (f : List Nd) (k : Nat) (h : nodeB (ndAt f k) k = false) : goodTo f (k + 1) = false := by
  rw [goodTo_succ, h]; simp
theorem goodTo_alike (f : List Nd) (k j : Nat) (hj : j < k) (h : ndAt f j = ndAt f k) : goodTo f (k + 1) = false := by
  rw [goodTo_succ]
  have : ((List.range k).all fun j => decide (ndAt f j ≠ ndAt f k)) = false := by
    simp only [List.all_eq_false, List.mem_range]
    exact ⟨j, hj, by simp [h]⟩
  rw [this]; simp
theorem goodTo_step (f : List Nd) (k : Nat) (h : goodTo f k = true) (hn : nodeB (ndAt f k) k = true) (hd : ∀ j, j < k → ndAt f j ≠ ndAt f k) : goodTo f (k + 1) = true := by
  rw [goodTo_succ, h, hn]
  simp only [Bool.true_and, List.all_eq_true, List.mem_range]
  intro j hj
  simp [hd j hj]
theorem range_false (l : List Nat) (n j : Nat) (hj : j < l.length) (h : l.getD j 0 ≠ j) : (l == List.range n) = false := by
  rw [beq_eq_false_iff_ne]
  intro e
  subst e
  simp at hj
  simp [List.getD, hj] at h
theorem range_true (l : List Nat) (n : Nat) (h : ∀ j, j < l.length → l.getD j 0 = j) : (l == List.range n) = ((l.length : Int) == (n : Int)) := by
  have hl : l = List.range l.length := by
    apply List.ext_getElem (by simp)
    intro j h1 h2
    have := h j h1
    simp [List.getD, h1] at this
    simp [this]
  rw [Bool.eq_iff_iff]
  simp only [beq_iff_eq]
  constructor
  · intro e; rw [e]; simp
  · intro e
    have : l.length = n := by omega
    rw [hl, this]

set_option maxRecDepth 20000 in
set_option maxHeartbeats 4000000 in
theorem specRight_any (f : List Nd) (b cap : Nat) (w : World) (hN : NodesAt w b f) (hs : ∀ i, i < f.length → (ndAt f i).nm.size ≤ maxLen) (hlen : f.length ≤ maxLen) :
    Calls Tryz.prog 10 #[.slice (some ⟨b, 0, none⟩) f.length cap] w fun e w' => e = .returned (.bool (rightB f)) ∧ Below w.heap.size w w' := by
  unfold maxLen at hlen
  by_cases h1 : f.length < 1
  · have HR : Hid (rightB f = false) := rightB_len f (by omega)
    clear hN hs
    go_enter Tryz.func10, Tryz.ntmps10
    go_wp2
    go_ret
    exact ⟨ret_bool HR.out.symm, Below.refl _ _⟩
  by_cases h2 : 24 < f.length
  · have HR : Hid (rightB f = false) := rightB_len f (by omega)
    clear hN hs
    go_enter Tryz.func10, Tryz.ntmps10
    go_wp2
    go_ret
    exact ⟨ret_bool HR.out.symm, Below.refl _ _⟩
  have HN := hide hN
  have HS := hide hs
  have hb := hN.1
  clear hN hs
  go_enter Tryz.func10, Tryz.ntmps10
  go_wp2_with fail
  go_loopw [3] (fun t wr => ∃ k : Nat, k ≤ f.length ∧ t = .int .i64 k ∧ goodTo f k = true ∧ Below w.heap.size w wr) (fun t _ => f.length - (intOf t).toNat)
  case atStart => exact ⟨0, Nat.zero_le _, rfl, rfl, Below.refl _ _⟩
  case round =>
    obtain ⟨k, hk, rfl, hg, hbel⟩ := hrel
    have HG := hide hg
    have HB := hide hbel
    have hsz := hbel.size
    clear hg
    have hNr := HN.out.below hbel hb
    clear hbel
    by_cases hlt : k < f.length
    · obtain ⟨c0, c1, c2, c3, c4, c5⟩ := hNr.2 k hlt
      have HNr := hide hNr
      clear hNr
      rcases Bool.eq_false_or_eq_true (nodeB (ndAt f k) k) with hn | hn
      · go_wp2_with (go_at_call 47; refine (specNode_any (ndAt f k) (unhide HS k hlt) k (by omega) _).mono ?_; rintro e w1 ⟨rfl, hb1⟩; have HNk := hide ((unhide HNr).below hb1 (by omega)); have HB1 := hide hb1; clear hb1)
        go_loopw [4] (fun t wj => ∃ j : Nat, j ≤ k ∧ t = .int .i64 j ∧ (∀ q, q < j → ndAt f q ≠ ndAt f k) ∧ ∃ nd, wj = w1.drewN nd) (fun t _ => k - (intOf t).toNat)
        case atStart => exact ⟨0, Nat.zero_le _, rfl, fun q h => by omega, 0, rfl⟩
        case round =>
          obtain ⟨j, hj, rfl, hq, nd, rfl⟩ := hrel
          have HQ := hide hq
          clear hq c0 c1 c2 c3 c4 c5
          by_cases hjk : j < k
          · obtain ⟨d0, d1, d2, d3, d4, d5⟩ := HNk.out.2 j (by omega)
            obtain ⟨e0, e1, e2, e3, e4, e5⟩ := HNk.out.2 k (by omega)
            by_cases hxy : ndAt f j = ndAt f k
            · have HR := hide (rightB_good f k hlt (goodTo_alike f k j hjk hxy))
              have heq : ∀ w', Sem.run Tryz.prog (binOp .eql 81 (.agg #[.int .i64 (ndAt f j).k, .int .i64 (ndAt f j).a, .int .i64 (ndAt f j).b, .int .i64 (ndAt f j).lo, .int .i64 (ndAt f j).hi, .string (ndAt f j).nm]) (.agg #[.int .i64 (ndAt f k).k, .int .i64 (ndAt f k).a, .int .i64 (ndAt f k).b, .int .i64 (ndAt f k).lo, .int .i64 (ndAt f k).hi, .string (ndAt f k).nm])) w' = .ok (.bool true) w' := fun w' => by
                have := eql_node (ndAt f j) (ndAt f k) w'
                simpa [ndV, hxy] using this
              clear hxy
              go_wp2
              go_quiet (fail)
              go_wp2
              go_ret
              exact ⟨ret_bool HR.out.symm, below_drewN (below_drewN (HB.out.trans (HB1.out.mono hsz)) _) _⟩
            · have HX := hide hxy
              have heq : ∀ w', Sem.run Tryz.prog (binOp .eql 81 (.agg #[.int .i64 (ndAt f j).k, .int .i64 (ndAt f j).a, .int .i64 (ndAt f j).b, .int .i64 (ndAt f j).lo, .int .i64 (ndAt f j).hi, .string (ndAt f j).nm]) (.agg #[.int .i64 (ndAt f k).k, .int .i64 (ndAt f k).a, .int .i64 (ndAt f k).b, .int .i64 (ndAt f k).lo, .int .i64 (ndAt f k).hi, .string (ndAt f k).nm])) w' = .ok (.bool false) w' := fun w' => by
                have := eql_node (ndAt f j) (ndAt f k) w'
                rw [decide_eq_false hxy] at this
                exact this
              clear hxy
              go_wp2
              go_quiet (fail)
              go_wp2
              go_roundw
              case rel => exact ⟨j + 1, by omega, by go_num, fun q hq => by
                by_cases e : q = j
                · subst e; exact HX.out
                · exact HQ.out q (by omega), _, rfl⟩
              case measure => simp [intOf]; omega
          · have hjk' : j = k := by omega
            subst hjk'
            have HG1 := hide (goodTo_step f j HG.out hn HQ.out)
            clear HQ HG hn
            go_wp2_with fail
            go_roundw
            case rel => exact ⟨j + 1, by omega, by go_num, HG1.out, below_drewN (HB.out.trans (HB1.out.mono hsz)) _⟩
            case measure => simp [intOf]; omega
      · have HR := hide (rightB_good f k hlt (goodTo_node f k hn))
        go_wp2_with (go_at_call 47; refine (specNode_any (ndAt f k) (unhide HS k hlt) k (by omega) _).mono ?_; rintro e w1 ⟨rfl, hb1⟩; have HB1 := hide hb1; clear hb1)
        go_ret
        exact ⟨ret_bool HR.out.symm, HB.out.trans (HB1.out.mono hsz)⟩
    · have hk' : k = f.length := by omega
      subst hk'
      have HR := hide (rightB_eq f (by omega) (by omega) HG.out)
      have HD : Hid (downTo f f.length) := goodTo_down f _ HG.out
      have HP : Hid (PlacesOk f []) := ⟨List.nodup_nil, fun j h => by cases h⟩
      have HP1 : Hid (PlacesOk f (walkF f f.length (f.length - 1) [])) := HP.out.walk (fun j hj => HD.out j (by omega)) (by omega) (by omega)
      have hwl := HP1.out.len
      clear HG
      have HNr := hide hNr
      clear hNr
      have hcast : ((f.length : Nat) : Int) - 1 = ((f.length - 1 : Nat) : Int) := by omega
      go_wp2_with fail
      refine (walk_any f b cap wr.heap.size (by omega) (by omega) f.length (f.length - 1) [] _ _ (by omega) (by omega) (fun j hj => HD.out j (by omega)) HNr.out (Nat.le_refl _) HP.out (World.ownsRow_nil _ _ _ _)).mono ?_
      rintro e w1 ⟨v1, rfl, hO1, hb1⟩
      generalize walkF f f.length (f.length - 1) [] = l at *
      obtain ⟨a, c, rfl, hform⟩ := hO1.form
      have HF := hide hform
      have HB1 := hide hb1
      clear hO1 hform hb1 hcast
      go_wp2_with fail
      go_loop [6] (fun t => ∃ j : Nat, j ≤ l.length ∧ t = .int .i64 j ∧ ∀ q, q < j → l.getD q 0 = q) (fun t => l.length - (intOf t).toNat)
      case atStart => exact ⟨0, Nat.zero_le _, rfl, fun q h => by omega⟩
      case round =>
        obtain ⟨j, hj, rfl, hq⟩ := hrel
        have HQ := hide hq
        clear hq
        by_cases hjl : j < l.length
        · obtain ⟨g, rfl, hg1, hg2, hg3⟩ := HF.out (by omega)
          have hc := hg3 j hjl
          clear hg3
          generalize hx : l.getD j 0 = x at hc
          have HX := hide hx
          clear hx
          by_cases hxj : x = j
          · subst hxj
            go_wp2_with fail
            go_round
            case rel => exact ⟨x + 1, by omega, by go_num, fun q hq => by
              by_cases e : q = x
              · subst e; exact HX.out
              · exact HQ.out q (by omega)⟩
            case measure => simp [intOf]; omega
          · have hne : ((x : Int) != (j : Int)) = true := by simp; omega
            have HR2 := hide (range_false l f.length j hjl (by rw [HX.out]; exact hxj))
            go_wp2_with fail
            go_ret
            exact ⟨ret_bool (by rw [HR.out, HR2.out]), HB.out.trans (HB1.out.mono hsz)⟩
        · have hjl' : j = l.length := by omega
          have HR2 := hide (range_true l f.length (hjl' ▸ HQ.out))
          go_wp2_with fail
          go_ret
          exact ⟨ret_bool (by rw [HR.out, HR2.out]), HB.out.trans (HB1.out.mono hsz)⟩
end Go.Proofs.YtbfkbgmkibkbnaaGreatDoor
namespace Go.Proofs.YtbfkbgmkibkbnaaGreatDoor
open Go.RowKit
set_option linter.unusedVariables false
set_option linter.unusedSimpArgs false
def evR (e : Evt) : Bool := evB e.1 e.2
/-- The first events may stand in a trace. -/
def trTo (E : List Evt) (k : Nat) : Bool := (List.range k).all fun i => evR (evAt E i) && (i == 0 || decide ((evAt E (i - 1)).1 ≤ (evAt E i).1))
def trB (E : List Evt) : Bool := decide (E.length ≤ 60) && trTo E E.length
theorem trTo_succ (E : List Evt) (k : Nat) : trTo E (k + 1) = (trTo E k && (evR (evAt E k) && (k == 0 || decide ((evAt E (k - 1)).1 ≤ (evAt E k).1)))) := by
  simp [trTo, List.range_succ]
theorem trTo_false (E : List Evt) (k m : Nat) (hm : k < m) (h : trTo E (k + 1) = false) : trTo E m = false := by
  simp only [trTo, List.all_eq_false, List.mem_range] at h ⊢
  obtain ⟨i, hi, h⟩ := h
  exact ⟨i, by omega, h⟩
theorem trB_long (E : List Evt) (h : 60 < E.length) : trB E = false := by simp [trB]; omega
theorem trB_no (E : List Evt) (k : Nat) (hm : k < E.length) (h : trTo E (k + 1) = false) : trB E = false := by simp [trB, trTo_false E k _ hm h]
theorem trB_yes (E : List Evt) (h8 : E.length ≤ 60) (h : trTo E E.length = true) : trB E = true := by simp [trB, h8, h]
theorem trTo_ev (E : List Evt) (k m : Nat) (hk : k < m) (h : trTo E m = true) : evR (evAt E k) = true ∧ (0 < k → (evAt E (k - 1)).1 ≤ (evAt E k).1) := by
  simp only [trTo, List.all_eq_true, List.mem_range, Bool.and_eq_true, Bool.or_eq_true, beq_iff_eq, decide_eq_true_eq] at h
  have := h k hk
  exact ⟨this.1, fun h0 => this.2.resolve_left (by omega)⟩
theorem evR_time (e : Evt) (h : evR e = true) : 0 ≤ e.1 ∧ e.1 ≤ 1000000 := by
  simp only [evR, evB, Bool.and_eq_true, decide_eq_true_eq] at h
  exact h.1
theorem specEvent_is (T : Evt) (v : Bool) (hv : evR T = v) (hok : EvOk T) (a : Option Addr) (c : Nat) (w : World) (hA : TsAt w a T.2) :
    Calls Tryz.prog 49 #[.agg #[.int .i64 T.1, .slice a T.2.length c]] w fun e w' => e = .returned (.bool v) ∧ Below w.heap.size w w' := by
  subst hv
  exact specEvent_any T.1 T.2 _ rfl a c hok.2.1 hok.2.2 w hA
set_option maxRecDepth 20000 in
set_option maxHeartbeats 2000000 in
theorem specTrace_any (E : List Evt) (n : Nat) (hn : E.length = n) (a : Option Addr) (c : Nat) (hs : ∀ i, i < E.length → EvOk (evAt E i)) (hl : n ≤ maxLen) (w : World) (hA : EsAt w a E) :
    Calls Tryz.prog 11 #[.slice a n c] w fun e w' => e = .returned (.bool (trB E)) ∧ Below w.heap.size w w' := by
  unfold maxLen at hl
  subst hn
  have HS := hid hs
  have HA := hid hA
  clear hs hA
  by_cases h8 : 60 < E.length
  · have HN := hid (trB_long E h8)
    go_enter Tryz.func11, Tryz.ntmps11
    go_wp2_with fail
    go_ret
    exact ⟨ret_bool HN.out.symm, Below.refl _ _⟩
  go_enter Tryz.func11, Tryz.ntmps11
  go_wp2_with fail
  go_loopw [3] (fun t wr => ∃ k : Nat, k ≤ E.length ∧ t = .int .i64 k ∧ trTo E k = true ∧ Below w.heap.size w wr) (fun t _ => E.length - (intOf t).toNat)
  case atStart => exact ⟨0, Nat.zero_le _, rfl, rfl, Below.refl _ _⟩
  case round =>
    obtain ⟨k, hk, rfl, hg, hbel⟩ := hrel
    have HG := hid hg
    have HB := hid hbel
    clear hg hbel
    by_cases hlt : k < E.length
    · have HS1 := hid (trTo_succ E k)
      have HNo := hid (trB_no E k hlt)
      rcases HA.out with h0 | ⟨b, rfl, hb, hc⟩
      · omega
      obtain ⟨d0, a1, c1, d1, hT⟩ := (hc k hlt).below HB.out hb
      have HT := hid hT
      have HX := hid (HS.out k hlt)
      have hbl : b < wr.heap.size := Nat.lt_of_lt_of_le hb HB.out.size
      clear hT
      cases k with
      | zero =>
        generalize evAt E 0 = T at *
        clear hc
        rcases Bool.eq_false_or_eq_true (evR T) with hw | hw
        · have HW := hid hw
          clear hw
          have HC := hid (fun d os => Calls.regrown_of (specEvent_is T true HW.out HX.out a1 c1 (Sort.grow (redrawn wr d) os) (HT.out.below (below_regrown wr d os))))
          have d0' := cell_regrown d0
          have d1' := cell_regrown d1
          go_wp2_with fail
          refine wp_region_quiet_below (by kernel_rfl) (by kernel_rfl) ?_
          repeat (go_big_quiet_step (exact HC.out _ _))
          refine wpQuiet_nil ?_
          intro _ hw'
          obtain ⟨⟨dq, osq⟩, hw''⟩ := hw'
          subst hw''
          have HB1 := hid (HB.out.trans ((below_regrown wr dq osq).mono HB.out.size))
          go_wp2_with fail
          go_roundw
          case rel => exact ⟨1, by omega, by go_num, by rw [HS1.out, HG.out, HW.out]; rfl, HB1.out⟩
          case measure => simp [intOf]; omega
        · have HW := hid hw
          clear hw
          have HC := hid (fun d os => Calls.regrown_of (specEvent_is T false HW.out HX.out a1 c1 (Sort.grow (redrawn wr d) os) (HT.out.below (below_regrown wr d os))))
          have d0' := cell_regrown d0
          have d1' := cell_regrown d1
          go_wp2_with fail
          refine wp_region_quiet_below (by kernel_rfl) (by kernel_rfl) ?_
          repeat (go_big_quiet_step (exact HC.out _ _))
          refine wpQuiet_nil ?_
          intro _ hw'
          obtain ⟨⟨dq, osq⟩, hw''⟩ := hw'
          subst hw''
          have HB1 := hid (HB.out.trans ((below_regrown wr dq osq).mono HB.out.size))
          go_wp2_with fail
          go_ret
          exact ⟨ret_bool (HNo.out (by rw [HS1.out, HW.out]; simp)).symm, HB1.out⟩
      | succ j =>
        obtain ⟨p0, _⟩ := (hc j (by omega)).below HB.out hb
        simp only [Nat.add_sub_cancel] at HS1
        generalize evAt E (j + 1) = T at *
        generalize evAt E j = U at *
        clear hc
        rcases Bool.eq_false_or_eq_true (evR T) with hw | hw
        · have HW := hid hw
          clear hw
          by_cases hx : U.1 ≤ T.1
          · have HC := hid (fun d os => Calls.regrown_of (specEvent_is T true HW.out HX.out a1 c1 (Sort.grow (redrawn wr d) os) (HT.out.below (below_regrown wr d os))))
            have d0' := cell_regrown d0
            have d1' := cell_regrown d1
            have p0' := cell_regrown p0
            go_wp2_with fail
            refine wp_region_quiet_below (by kernel_rfl) (by kernel_rfl) ?_
            repeat (go_big_quiet_step (exact HC.out _ _))
            refine wpQuiet_nil ?_
            intro _ hw'
            obtain ⟨⟨dq, osq⟩, hw''⟩ := hw'
            subst hw''
            have HB1 := hid (HB.out.trans ((below_regrown wr dq osq).mono HB.out.size))
            go_wp2_with fail
            go_roundw
            case rel => exact ⟨j + 2, by omega, by go_num, by rw [HS1.out, HG.out, HW.out]; simp [hx], HB1.out⟩
            case measure => simp [intOf]; omega
          · have HC := hid (fun d os => Calls.regrown_of (specEvent_is T true HW.out HX.out a1 c1 (Sort.grow (redrawn wr d) os) (HT.out.below (below_regrown wr d os))))
            have d0' := cell_regrown d0
            have d1' := cell_regrown d1
            have p0' := cell_regrown p0
            go_wp2_with fail
            refine wp_region_quiet_below (by kernel_rfl) (by kernel_rfl) ?_
            repeat (go_big_quiet_step (exact HC.out _ _))
            refine wpQuiet_nil ?_
            intro _ hw'
            obtain ⟨⟨dq, osq⟩, hw''⟩ := hw'
            subst hw''
            have HB1 := hid (HB.out.trans ((below_regrown wr dq osq).mono HB.out.size))
            go_wp2_with fail
            go_ret
            exact ⟨ret_bool (HNo.out (by rw [HS1.out, HW.out]; simp; omega)).symm, HB1.out⟩
        · have HW := hid hw
          clear hw
          have HC := hid (fun d os => Calls.regrown_of (specEvent_is T false HW.out HX.out a1 c1 (Sort.grow (redrawn wr d) os) (HT.out.below (below_regrown wr d os))))
          have d0' := cell_regrown d0
          have d1' := cell_regrown d1
          go_wp2_with fail
          refine wp_region_quiet_below (by kernel_rfl) (by kernel_rfl) ?_
          repeat (go_big_quiet_step (exact HC.out _ _))
          refine wpQuiet_nil ?_
          intro _ hw'
          obtain ⟨⟨dq, osq⟩, hw''⟩ := hw'
          subst hw''
          have HB1 := hid (HB.out.trans ((below_regrown wr dq osq).mono HB.out.size))
          go_wp2_with fail
          go_ret
          exact ⟨ret_bool (HNo.out (by rw [HS1.out, HW.out]; simp)).symm, HB1.out⟩
    · have hk' : k = E.length := by omega
      subst hk'
      have HN := hid (trB_yes E (by omega) HG.out)
      go_wp2_with fail
      go_ret
      exact ⟨ret_bool HN.out.symm, HB.out⟩
/-- The latest Time of the first k. -/
def lastTr (E : List Evt) (k : Nat) : Int := if k = 0 then 0 else (evAt E (k - 1)).1
theorem lastTr_le (E : List Evt) (k : Nat) (h : evR (evAt E k) = true) : (k == 0 || decide ((evAt E (k - 1)).1 ≤ (evAt E k).1)) = decide (lastTr E k ≤ (evAt E k).1) := by
  have := (evR_time _ h).1
  unfold lastTr
  by_cases e : k = 0
  · subst e; simp; omega
  · simp [e]
theorem implEvent_is (T : Evt) (v : Bool) (hv : evR T = v) (hok : EvOk T) (a : Option Addr) (c : Nat) (w : World) (hA : TsAt w a T.2) (hkw : Kw w) (hgl : 1 < w.heap.size) :
    Calls Tryz.prog 54 #[.agg #[.int .i64 T.1, .slice a T.2.length c]] w fun e w' => e = .returned (.bool v) ∧ Below w.heap.size w w' := by
  subst hv
  exact implEvent_any T.1 T.2 _ rfl a c hok.2.1 hok.2.2 w hA hkw hgl
set_option maxRecDepth 20000 in
set_option maxHeartbeats 2000000 in
theorem implTrace_any (E : List Evt) (n : Nat) (hn : E.length = n) (a : Option Addr) (c : Nat) (hs : ∀ i, i < E.length → EvOk (evAt E i)) (hl : n ≤ maxLen) (w : World) (hA : EsAt w a E) (hkw : Kw w) (hgl : 1 < w.heap.size) :
    Calls Tryz.prog 45 #[.slice a n c] w fun e w' => e = .returned (.bool (trB E)) ∧ Below w.heap.size w w' := by
  unfold maxLen at hl
  subst hn
  have HS := hid hs
  have HA := hid hA
  have HK := hid hkw
  clear hs hA hkw
  by_cases h8 : 60 < E.length
  · have HN := hid (trB_long E h8)
    go_enter Tryz.func45, Tryz.ntmps45
    go_wp2_with fail
    go_ret
    exact ⟨ret_bool HN.out.symm, Below.refl _ _⟩
  go_enter Tryz.func45, Tryz.ntmps45
  go_wp2_with fail
  go_loopw [3, 11] (fun s t wr => ∃ k : Nat, k ≤ E.length ∧ t = .int .i64 k ∧ s = .int .i64 (lastTr E k) ∧ trTo E k = true ∧ Below w.heap.size w wr) (fun _ t _ => E.length - (intOf t).toNat)
  case atStart => exact ⟨0, Nat.zero_le _, rfl, rfl, rfl, Below.refl _ _⟩
  case round =>
    obtain ⟨k, hk, rfl, rfl, hg, hbel⟩ := hrel
    have HG := hid hg
    have HB := hid hbel
    clear hg hbel
    by_cases hlt : k < E.length
    · have HS1 := hid (trTo_succ E k)
      have HNo := hid (trB_no E k hlt)
      have HLe := hid (lastTr_le E k)
      have HL1 : Hid (lastTr E (k + 1) = (evAt E k).1) := by show lastTr E (k + 1) = _; simp [lastTr]
      rcases HA.out with h0 | ⟨b, rfl, hb, hc⟩
      · omega
      obtain ⟨d0, a1, c1, d1, hT⟩ := (hc k hlt).below HB.out hb
      have HX := hid (HS.out k hlt)
      have hbl : b < wr.heap.size := Nat.lt_of_lt_of_le hb HB.out.size
      have hgr : 1 < wr.heap.size := Nat.lt_of_lt_of_le hgl HB.out.size
      have HK1 := hid (HK.out.below HB.out hgl)
      have HT := hid hT
      clear hT hc
      generalize evAt E k = T at *
      have HB2 := hid ((Below.refl wr.heap.size wr).alloc (Nat.le_refl _) (.cells #[.int .i64 T.1, .slice a1 T.2.length c1] 41))
      have HX2 := hid (BoxE.new wr T.1 (.slice a1 T.2.length c1) 41)
      have HT2 := hid (HT.out.below HB2.out)
      generalize lastTr E k = last at *
      rcases Bool.eq_false_or_eq_true (evR T) with hw | hw
      · have HW := hid hw
        clear hw
        by_cases hx : last ≤ T.1
        · go_wp2_with (go_at_call 54; refine (implEvent_is T true HW.out HX.out a1 c1 _ HT2.out (HK1.out.below HB2.out hgr) (Nat.lt_of_lt_of_le hgr HB2.out.size)).mono ?_; rintro e w1 ⟨rfl, hb1⟩; have HB1 : Hid (Below w.heap.size w w1) := (HB.out.trans (HB2.out.mono HB.out.size)).trans (hb1.mono (Nat.le_trans HB.out.size HB2.out.size)); obtain ⟨hq, x0, x1⟩ := HX2.out.below hb1; clear hb1)
          go_roundw
          case rel => exact ⟨k + 1, by omega, by go_num, by rw [HL1.out], by rw [HS1.out, HG.out, HW.out, HLe.out HW.out]; simp [hx], HB1.out⟩
          case measure => simp [intOf]; omega
        · go_wp2_with (go_at_call 54; refine (implEvent_is T true HW.out HX.out a1 c1 _ HT2.out (HK1.out.below HB2.out hgr) (Nat.lt_of_lt_of_le hgr HB2.out.size)).mono ?_; rintro e w1 ⟨rfl, hb1⟩; have HB1 : Hid (Below w.heap.size w w1) := (HB.out.trans (HB2.out.mono HB.out.size)).trans (hb1.mono (Nat.le_trans HB.out.size HB2.out.size)); obtain ⟨hq, x0, x1⟩ := HX2.out.below hb1; clear hb1)
          go_ret
          exact ⟨ret_bool (HNo.out (by rw [HS1.out, HW.out, HLe.out HW.out]; simp; omega)).symm, HB1.out⟩
      · have HW := hid hw
        clear hw
        go_wp2_with (go_at_call 54; refine (implEvent_is T false HW.out HX.out a1 c1 _ HT2.out (HK1.out.below HB2.out hgr) (Nat.lt_of_lt_of_le hgr HB2.out.size)).mono ?_; rintro e w1 ⟨rfl, hb1⟩; have HB1 : Hid (Below w.heap.size w w1) := (HB.out.trans (HB2.out.mono HB.out.size)).trans (hb1.mono (Nat.le_trans HB.out.size HB2.out.size)); obtain ⟨hq, x0, x1⟩ := HX2.out.below hb1; clear hb1)
        go_ret
        exact ⟨ret_bool (HNo.out (by rw [HS1.out, HW.out]; simp)).symm, HB1.out⟩
    · have hk' : k = E.length := by omega
      subst hk'
      have HN := hid (trB_yes E (by omega) HG.out)
      generalize lastTr E E.length = q
      go_wp2_with fail
      go_ret
      exact ⟨ret_bool HN.out.symm, HB.out⟩
end Go.Proofs.YtbfkbgmkibkbnaaGreatDoor
namespace Go.Proofs.YtbfkbgmkibkbnaaGreatDoor
open Go.RowKit
set_option linter.unusedVariables false
set_option linter.unusedSimpArgs false
theorem specIn_any (lo hi n : Int) (w : World) :
    Calls Tryz.prog 121 #[.int .i64 lo, .int .i64 hi, .int .i64 n] w fun e w' => e = .returned (.bool (inB lo hi n)) ∧ w' = w := by
  by_cases h1 : lo ≤ n <;> by_cases h2 : hi = -1 <;> by_cases h3 : n ≤ hi
  all_goals
    first
    | subst h2
      go_enter Tryz.func121, Tryz.ntmps121
      go_wp2
      go_ret
      exact ⟨ret_bool (by simp [inB]; omega), rfl⟩
    | have h2' : (hi == -1) = false := by simpa using h2
      go_enter Tryz.func121, Tryz.ntmps121
      go_wp2
      go_ret
      exact ⟨ret_bool (by simp [inB, h2]; omega), rfl⟩
theorem specIn_is (lo hi n : Int) (v : Bool) (hv : inB lo hi n = v) (w : World) :
    Calls Tryz.prog 121 #[.int .i64 lo, .int .i64 hi, .int .i64 n] w fun e w' => e = .returned (.bool v) ∧ w' = w := by
  subst hv
  exact specIn_any lo hi n w
/-- The first k rows of a table lie at a slice. -/
def TabAt (w : World) (a : Option Addr) (k len : Nat) (T : Nat → Nat → Bool) : Prop := k = 0 ∨ ∃ b, a = some ⟨b, 0, none⟩ ∧ b < w.heap.size ∧ ∀ m, m < k → ∃ rb rc, w.cell? ⟨b, m, none⟩ = some (.slice (some ⟨rb, 0, none⟩) len rc) ∧ rb < w.heap.size ∧ ∀ j, j < len → w.cell? ⟨rb, j, none⟩ = some (.bool (T m j))
theorem TabAt.below {w w' : World} {a : Option Addr} {k len : Nat} {T : Nat → Nat → Bool} (h : TabAt w a k len T) (hb : Below w.heap.size w w') : TabAt w' a k len T :=
  h.imp id (fun ⟨b, e, h1, h2⟩ => ⟨b, e, Nat.lt_of_lt_of_le h1 hb.size, fun m hm => by
    obtain ⟨rb, rc, q1, q2, q3⟩ := h2 m hm
    exact ⟨rb, rc, (hb.cell (p := ⟨b, m, none⟩) h1).trans q1, Nat.lt_of_lt_of_le q2 hb.size, fun j hj => (hb.cell (p := ⟨rb, j, none⟩) q2).trans (q3 j hj)⟩⟩)
structure HoldIn (w : World) (f : List Nd) (L : List Evt) (n i fb eb : Nat) (ta : Option Addr) : Prop where
  nodes : NodesAt w fb f
  evs : EvsAt w eb L
  tab : TabAt w ta n L.length (hv f L)
  hn : n < f.length
  hi : i < L.length
  fl : f.length ≤ 24
  ll : L.length ≤ 60
  arms : armsOk (ndAt f n) n
  times : ∀ j, j < L.length → 0 ≤ (evAt L j).1 ∧ (evAt L j).1 ≤ 1000000
  nms : ∀ j, j < L.length → (evAt L j).2.length ≤ maxLen
theorem HoldIn.below {w w' : World} {f : List Nd} {L : List Evt} {n i fb eb : Nat} {ta : Option Addr} (h : HoldIn w f L n i fb eb ta) (hb : Below w.heap.size w w') : HoldIn w' f L n i fb eb ta :=
  ⟨h.nodes.below hb h.nodes.1, h.evs.below hb, h.tab.below hb, h.hn, h.hi, h.fl, h.ll, h.arms, h.times, h.nms⟩
theorem arms_a {x : Nd} {n : Nat} (h : armsOk x n) (hk : 0 < armsN x.k) : ∃ p : Nat, x.a = p ∧ p < n := by
  obtain ⟨h1, h2⟩ := h.1 hk
  exact ⟨x.a.toNat, by omega, by omega⟩
theorem arms_b {x : Nd} {n : Nat} (h : armsOk x n) (hk : 1 < armsN x.k) : ∃ p : Nat, x.b = p ∧ p < n := by
  obtain ⟨h1, h2⟩ := h.2 hk
  exact ⟨x.b.toNat, by omega, by omega⟩
/-- A cell of the table. -/
theorem TabAt.get {w : World} {a : Option Addr} {k len : Nat} {T : Nat → Nat → Bool} (h : TabAt w a k len T) {m : Nat} (hm : m < k) : ∃ b rb rc, a = some ⟨b, 0, none⟩ ∧ b < w.heap.size ∧ rb < w.heap.size ∧ w.cell? ⟨b, m, none⟩ = some (.slice (some ⟨rb, 0, none⟩) len rc) ∧ ∀ j, j < len → w.cell? ⟨rb, j, none⟩ = some (.bool (T m j)) := by
  rcases h with h | ⟨b, e, h1, h2⟩
  · omega
  · obtain ⟨rb, rc, q1, q2, q3⟩ := h2 m hm
    exact ⟨b, rb, rc, e, h1, q2, q1, q3⟩
/-! ### What a node means, kind by kind -/
section
variable (f : List Nd) (L : List Evt) (n i : Nat) (hd : armsOk (ndAt f n) n)
include hd
theorem hv1 (hk : (ndAt f n).k = 1) : hv f L n i = true := by rw [hv_eq f L n i hd]; simp [holdB, hk]
theorem hv2 (hk : (ndAt f n).k = 2) : hv f L n i = nhTo (evAt L i).2 (ndAt f n).nm (evAt L i).2.length := by rw [hv_eq f L n i hd]; simp [holdB, hk]
theorem hv3 (hk : (ndAt f n).k = 3) (p : Nat) (hp : (ndAt f n).a = p) : hv f L n i = !hv f L p i := by rw [hv_eq f L n i hd]; simp [holdB, hk, hp]
theorem hv4 (hk : (ndAt f n).k = 4) (p : Nat) (hp : (ndAt f n).a = p) (q : Nat) (hq : (ndAt f n).b = q) : hv f L n i = (hv f L p i && hv f L q i) := by rw [hv_eq f L n i hd]; simp [holdB, hk, hp, hq]
theorem hv5 (hk : (ndAt f n).k = 5) (p : Nat) (hp : (ndAt f n).a = p) (q : Nat) (hq : (ndAt f n).b = q) : hv f L n i = (hv f L p i || hv f L q i) := by rw [hv_eq f L n i hd]; simp [holdB, hk, hp, hq]
theorem hv6 (hk : (ndAt f n).k = 6) (p : Nat) (hp : (ndAt f n).a = p) : hv f L n i = (decide (0 < i) && (gapB (ndAt f n) L (i - 1) i && hv f L p (i - 1))) := by rw [hv_eq f L n i hd]; simp [holdB, hk, hp]
theorem hv7 (hk : (ndAt f n).k = 7) (p : Nat) (hp : (ndAt f n).a = p) : hv f L n i = onceTo (ndAt f n) L i (hv f L p) (i + 1) := by rw [hv_eq f L n i hd]; simp [holdB, hk, hp]
theorem hv8 (hk : (ndAt f n).k = 8) (p : Nat) (hp : (ndAt f n).a = p) : hv f L n i = !onceTo (ndAt f n) L i (fun j => !hv f L p j) (i + 1) := by rw [hv_eq f L n i hd]; simp [holdB, hk, hp]
theorem hv9 (hk : (ndAt f n).k = 9) (p : Nat) (hp : (ndAt f n).a = p) (q : Nat) (hq : (ndAt f n).b = q) : hv f L n i = sinceTo (ndAt f n) L i (hv f L p) (hv f L q) (i + 1) := by rw [hv_eq f L n i hd]; simp [holdB, hk, hp, hq]
end
set_option maxRecDepth 20000 in
set_option maxHeartbeats 1000000 in
theorem specHold1 (f : List Nd) (L : List Evt) (n i fb eb : Nat) (ta : Option Addr) (fc tc ec : Nat) (w : World) (h : HoldIn w f L n i fb eb ta) (hk : (ndAt f n).k = 1) :
    Calls Tryz.prog 87 #[.slice (some ⟨fb, 0, none⟩) f.length fc, .slice ta n tc, .int .i64 n, .slice (some ⟨eb, 0, none⟩) L.length ec, .int .i64 i] w fun e w' => e = .returned (.bool (hv f L n i)) ∧ Below w.heap.size w w' := by
  obtain ⟨c0, c1, c2, c3, c4, c5⟩ := h.nodes.2 n h.hn
  have hn := h.hn
  have hfl := h.fl
  have HV := hid (hv1 f L n i h.arms hk)
  rw [hk] at c0
  have HK := hid hk
  clear h hk
  generalize ndAt f n = x at *
  go_enter Tryz.func87, Tryz.ntmps87
  go_wp2_with fail
  go_ret
  exact ⟨ret_bool HV.out.symm, (Below.refl _ _).alloc (Nat.le_refl _) _⟩
set_option maxRecDepth 20000 in
set_option maxHeartbeats 1000000 in
theorem specHold3 (f : List Nd) (L : List Evt) (n i fb eb : Nat) (ta : Option Addr) (fc tc ec : Nat) (w : World) (h : HoldIn w f L n i fb eb ta) (hk : (ndAt f n).k = 3) :
    Calls Tryz.prog 87 #[.slice (some ⟨fb, 0, none⟩) f.length fc, .slice ta n tc, .int .i64 n, .slice (some ⟨eb, 0, none⟩) L.length ec, .int .i64 i] w fun e w' => e = .returned (.bool (hv f L n i)) ∧ Below w.heap.size w w' := by
  obtain ⟨c0, c1, c2, c3, c4, c5⟩ := h.nodes.2 n h.hn
  have hn := h.hn
  have hi := h.hi
  have hfl := h.fl
  have hll := h.ll
  obtain ⟨p, hp, hpn⟩ := arms_a h.arms (by simp [armsN, hk])
  have HV := hid (hv3 f L n i h.arms hk p hp)
  obtain ⟨tb, rb, rc, rfl, htb, hrb, t0, t1⟩ := h.tab.get hpn
  have t2 := t1 i hi
  rw [hk] at c0
  rw [hp] at c1
  clear h hk t1 hp
  generalize ndAt f n = x at *
  generalize hv f L p i = g at *
  go_enter Tryz.func87, Tryz.ntmps87
  go_wp2_with fail
  go_ret
  exact ⟨ret_bool HV.out.symm, (Below.refl _ _).alloc (Nat.le_refl _) _⟩
set_option maxRecDepth 20000 in
set_option maxHeartbeats 1000000 in
theorem specHold4 (f : List Nd) (L : List Evt) (n i fb eb : Nat) (ta : Option Addr) (fc tc ec : Nat) (w : World) (h : HoldIn w f L n i fb eb ta) (hk : (ndAt f n).k = 4) :
    Calls Tryz.prog 87 #[.slice (some ⟨fb, 0, none⟩) f.length fc, .slice ta n tc, .int .i64 n, .slice (some ⟨eb, 0, none⟩) L.length ec, .int .i64 i] w fun e w' => e = .returned (.bool (hv f L n i)) ∧ Below w.heap.size w w' := by
  obtain ⟨c0, c1, c2, c3, c4, c5⟩ := h.nodes.2 n h.hn
  have hn := h.hn
  have hi := h.hi
  have hfl := h.fl
  have hll := h.ll
  obtain ⟨p, hp, hpn⟩ := arms_a h.arms (by simp [armsN, hk])
  obtain ⟨q, hq, hqn⟩ := arms_b h.arms (by simp [armsN, hk])
  have HV := hid (hv4 f L n i h.arms hk p hp q hq)
  obtain ⟨tb, rb, rc, rfl, htb, hrb, t0, t1⟩ := h.tab.get hpn
  obtain ⟨tb', rb', rc', e, _, hrb', s0, s1⟩ := h.tab.get hqn
  injection e with e; injection e with e; subst e
  have t2 := t1 i hi
  have s2 := s1 i hi
  rw [hk] at c0
  rw [hp] at c1
  rw [hq] at c2
  clear h hk t1 s1 hp hq
  generalize ndAt f n = x at *
  generalize hv f L p i = g at *
  generalize hv f L q i = g' at *
  cases g
  all_goals
    go_enter Tryz.func87, Tryz.ntmps87
    go_wp2_with fail
    go_ret
    exact ⟨ret_bool HV.out.symm, (Below.refl _ _).alloc (Nat.le_refl _) _⟩
set_option maxRecDepth 20000 in
set_option maxHeartbeats 1000000 in
theorem specHold5 (f : List Nd) (L : List Evt) (n i fb eb : Nat) (ta : Option Addr) (fc tc ec : Nat) (w : World) (h : HoldIn w f L n i fb eb ta) (hk : (ndAt f n).k = 5) :
    Calls Tryz.prog 87 #[.slice (some ⟨fb, 0, none⟩) f.length fc, .slice ta n tc, .int .i64 n, .slice (some ⟨eb, 0, none⟩) L.length ec, .int .i64 i] w fun e w' => e = .returned (.bool (hv f L n i)) ∧ Below w.heap.size w w' := by
  obtain ⟨c0, c1, c2, c3, c4, c5⟩ := h.nodes.2 n h.hn
  have hn := h.hn
  have hi := h.hi
  have hfl := h.fl
  have hll := h.ll
  obtain ⟨p, hp, hpn⟩ := arms_a h.arms (by simp [armsN, hk])
  obtain ⟨q, hq, hqn⟩ := arms_b h.arms (by simp [armsN, hk])
  have HV := hid (hv5 f L n i h.arms hk p hp q hq)
  obtain ⟨tb, rb, rc, rfl, htb, hrb, t0, t1⟩ := h.tab.get hpn
  obtain ⟨tb', rb', rc', e, _, hrb', s0, s1⟩ := h.tab.get hqn
  injection e with e; injection e with e; subst e
  have t2 := t1 i hi
  have s2 := s1 i hi
  rw [hk] at c0
  rw [hp] at c1
  rw [hq] at c2
  clear h hk t1 s1 hp hq
  generalize ndAt f n = x at *
  generalize hv f L p i = g at *
  generalize hv f L q i = g' at *
  cases g
  all_goals
    go_enter Tryz.func87, Tryz.ntmps87
    go_wp2_with fail
    go_ret
    exact ⟨ret_bool HV.out.symm, (Below.refl _ _).alloc (Nat.le_refl _) _⟩
end Go.Proofs.YtbfkbgmkibkbnaaGreatDoor
