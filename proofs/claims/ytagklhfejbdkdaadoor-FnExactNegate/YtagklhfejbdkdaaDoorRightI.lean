/-
  The program's FormulaRight by its contract.
-/
import Derived.Test.YtagklhfejbdkdaaDoorOrderI
import Derived.Test.YtagklhfejbdkdaaDoorNr
namespace Go.Proofs.YtagklhfejbdkdaaDoor
open Go.RowKit
set_option linter.unusedVariables false
set_option linter.unusedSimpArgs false
theorem ndAt_take (f : List Nd) (k j : Nat) (h : j < k) : ndAt (f.take k) j = ndAt f j := by
  simp [ndAt, List.getD, List.getElem?_take, h]
theorem take_ndAt (f : List Nd) (k : Nat) (h : k < f.length) : f.take (k + 1) = f.take k ++ [ndAt f k] := by
  rw [List.take_succ_eq_append_getElem h]
  simp [ndAt, List.getD, h]
theorem upFrom_pair (l : List Nat) : upFrom l 0 ↔ l.Pairwise (· ≤ ·) := by
  constructor
  · intro h
    rw [List.pairwise_iff_getElem]
    intro i j hi hj hij
    have key : ∀ d, ∀ i, i + d < l.length → l.getD i 0 ≤ l.getD (i + d) 0 := by
      intro d
      induction d with
      | zero => intro i hi; exact Nat.le_refl _
      | succ d ih => intro i hi; exact Nat.le_trans (ih i (by omega)) (h (i + d) (Nat.zero_le _) (by omega))
    have := key (j - i) i (by omega)
    rw [show i + (j - i) = j by omega] at this
    simpa [List.getD, hi, hj] using this
  · intro h j _ hj
    have := (List.pairwise_iff_getElem.1 h) j (j + 1) (by omega) hj (by omega)
    simpa [List.getD, hj, show j < l.length by omega] using this
theorem range_sorted (n : Nat) : (List.range n).Pairwise (· ≤ ·) := List.pairwise_le_range
theorem range_bool (l : List Nat) (n : Nat) (hd : l.Nodup) (hlt : ∀ j ∈ l, j < n) (r : Bool) (hr : r = true ↔ upFrom l 0) : (l == List.range n) = (((l.length : Int) == (n : Int)) && r) := by
  rw [Bool.eq_iff_iff]
  simp only [beq_iff_eq, Bool.and_eq_true]
  constructor
  · intro e
    rw [hr, upFrom_pair]
    exact ⟨by rw [e]; simp, e ▸ range_sorted n⟩
  · rintro ⟨h1, h2⟩
    exact sorted_range n l hd hlt (by omega) ((upFrom_pair l).1 (hr.1 h2))
theorem goodTo_kind (f : List Nd) (n : Nat) (h : goodTo f n = true) : ∀ i, i < n → isB (ndAt f i).k 1 9 = true := fun i hi => by
  have := (goodTo_at f i n hi h).1
  simp only [nodeB, Bool.and_eq_true] at this
  exact this.1
theorem find_dup (f : List Nd) (k : Nat) (hg : goodTo f k = true) : (∃ j, j < k ∧ ndAt f j = ndAt f k ∧ ∀ i, j < i → i < k → ndAt f i ≠ ndAt f k) ∨ ∀ j, j < k → ndAt f j ≠ ndAt f k := by
  by_cases h : ∃ j, j < k ∧ ndAt f j = ndAt f k
  · obtain ⟨j, hj, e⟩ := h
    refine Or.inl ⟨j, hj, e, fun i h1 h2 e2 => ?_⟩
    exact (goodTo_at f i k h2 hg).2 j h1 (e.trans e2.symm)
  · exact Or.inr fun j hj e => h ⟨j, hj, e⟩
set_option maxRecDepth 20000 in
set_option maxHeartbeats 4000000 in
theorem implRight_any (f : List Nd) (b cap : Nat) (w : World) (hN : NodesAt w b f) (hok : ∀ i, i < f.length → ndOk (ndAt f i)) (hlen : f.length ≤ maxLen) (hkw : Kw w) (hg : 1 < w.heap.size) :
    Calls Tryd.prog 51 #[.slice (some ⟨b, 0, none⟩) f.length cap] w fun e w' => e = .returned (.bool (rightB f)) ∧ Below w.heap.size w w' := by
  unfold maxLen at hlen
  have HK := hid hkw
  clear hkw
  by_cases h1 : f.length < 1
  · have HR : Hid (rightB f = false) := rightB_len f (by omega)
    clear hN hok
    go_enter Tryd.func51, Tryd.ntmps51
    go_wp2
    go_ret
    exact ⟨ret_bool HR.out.symm, Below.refl _ _⟩
  by_cases h2 : 24 < f.length
  · have HR : Hid (rightB f = false) := rightB_len f (by omega)
    clear hN hok
    go_enter Tryd.func51, Tryd.ntmps51
    go_wp2
    go_ret
    exact ⟨ret_bool HR.out.symm, Below.refl _ _⟩
  have HN := hid hN
  have HOK := hid hok
  have hb := hN.1
  have hnn : ∀ w : World, Sem.run Tryd.prog (binOp .neq 62 .nilIface .nilIface) w = .ok (.bool false) w := fun _ => by kernel_rfl
  clear hN hok
  go_enter Tryd.func51, Tryd.ntmps51
  go_wp2_with (go_at_call 52; refine (newStore_any _).mono ?_; rintro e w0 ⟨sb, mb, rfl, hs1, hs2, hS0, hb0⟩; have HS0 := hid hS0; have HB0 := hid hb0; clear hS0 hb0)
  go_loopw [21] (fun t wr => ∃ k : Nat, k ≤ f.length ∧ t = .int .i64 k ∧ goodTo f k = true ∧ (∃ v, StoreAt wr sb mb w0.heap.size v (f.take k)) ∧ Below w.heap.size w wr) (fun t _ => f.length - (intOf t).toNat)
  case atStart => exact ⟨0, Nat.zero_le _, rfl, rfl, ⟨_, HS0.out⟩, HB0.out⟩
  case round =>
    clear HS0 HB0
    obtain ⟨k, hk, rfl, hgd, ⟨v, hS⟩, hbel⟩ := hrel
    have HG := hid hgd
    have HB := hid hbel
    have hsz := hbel.size
    clear hgd
    have hNr := HN.out.below hbel hb
    have HNr := hid hNr
    have HKr := hid (HK.out.below hbel hg)
    clear hbel hNr
    by_cases hlt : k < f.length
    · have htl : (f.take k).length = k := by simp; omega
      have HS := hid hS
      have hwz := hS.ltb
      have hsb := hS.lts
      have hmb := hS.ltm
      clear hS
      obtain ⟨c0, c1, c2, c3, c4, c5⟩ := HNr.out.2 k hlt
      have HX := hid (HOK.out k hlt)
      have HSA := hid (HS.out.save (S := fun _ => False) ((Save.refl wr _).alloc (.cells #[.int .i64 (ndAt f k).k, .int .i64 (ndAt f k).a, .int .i64 (ndAt f k).b, .int .i64 (ndAt f k).lo, .int .i64 (ndAt f k).hi, .string (ndAt f k).nm] 46)) (fun _ _ h => h))
      have HBX := hid (box_node wr (ndAt f k) 46)
      rcases find_dup f k HG.out with ⟨j, hj, hje, hju⟩ | hno
      · have HR := hid (rightB_good f k hlt (goodTo_alike f k j hj hje))
        have HC := hid (add_old (ndAt f k) HX.out (f.take k) sb mb w0.heap.size v _ HSA.out j (by omega) (by rw [ndAt_take f k j hj]; exact hje) (fun i h1 h2 => by rw [htl] at h2; rw [ndAt_take f k i h2]; exact hju i h1 h2))
        have hjk : ((j : Int) != (k : Int)) = true := by simp; omega
        clear hje hju
        go_wp2_with fail
        refine HC.out.mono ?_
        rintro e w1 ⟨rfl, hb1⟩
        have HB1 := hid hb1
        clear hb1
        go_wp2_with fail
        go_ret
        exact ⟨ret_bool HR.out.symm, (HB.out.alloc hsz _).trans (HB1.out.mono (by simp; omega))⟩
      · have HC := hid (add_new (ndAt f k) HX.out (f.take k) sb mb w0.heap.size v _ HSA.out (by omega) (fun i h2 => by rw [htl] at h2; rw [ndAt_take f k i h2]; exact hno i h2))
        rw [htl] at HC
        have HNO := hid hno
        have hnb : Hid (¬ StoreS sb mb v wr.heap.size) := by
          rintro (e | e | e)
          · omega
          · omega
          · have := (World.ownsRow.lt HS.out.own _ e).2; omega
        clear hno
        go_wp2_with fail
        refine HC.out.mono ?_
        rintro e w1 ⟨rfl, v1, hS1, hv1, ho1⟩
        have HS1 := hid hS1
        have hz1 := hv1.size
        simp at hz1
        have HN1 := hid (hv1.node HBX.out (by simp) hnb.out)
        have HB1 : Hid (Below w.heap.size w w1) := (HB.out.alloc hsz _).trans (hv1.below (by simp; omega) (fun j h => by
          rcases h with rfl | rfl | h
          · exact hs1
          · exact hs2
          · have := (World.ownsRow.lt HS.out.own _ h).1; have := hs1; omega))
        have HK1 := hid (HK.out.below HB1.out hg)
        obtain ⟨d0, d1, d2, d3, d4, d5⟩ := (show NodeAt w1 wr.heap.size 0 ((ndAt f k).k, (ndAt f k).a, (ndAt f k).b, (ndAt f k).lo, (ndAt f k).hi, (ndAt f k).nm) from HN1.out).zero
        clear hS1 hv1 ho1 c0 c1 c2 c3 c4 c5
        rcases Bool.eq_false_or_eq_true (nodeB (ndAt f k) k) with hn | hn
        · have HGN := hid (goodTo_step f k HG.out hn HNO.out)
          go_wp2_with (go_at_call 68; refine (implNode_any (ndAt f k) HX.out.2.2.2.2.2 k (by omega) _ HK1.out (by omega)).mono ?_; rintro e w2 ⟨rfl, hb2⟩; have HB2 := hid hb2; clear hb2)
          go_roundw
          case rel => exact ⟨k + 1, by omega, by go_num, HGN.out, ⟨v1, by rw [take_ndAt f k hlt]; exact HS1.out.save (S := fun _ => False) (Save.of_below HB2.out _ (fun j h1 h2 => by omega)) (fun _ _ h => h)⟩, HB1.out.trans (HB2.out.mono (by omega))⟩
          case measure => simp [intOf]; omega
        · have HR := hid (rightB_good f k hlt (goodTo_node f k hn))
          go_wp2_with (go_at_call 68; refine (implNode_any (ndAt f k) HX.out.2.2.2.2.2 k (by omega) _ HK1.out (by omega)).mono ?_; rintro e w2 ⟨rfl, hb2⟩; have HB2 := hid hb2; clear hb2)
          go_ret
          exact ⟨ret_bool HR.out.symm, HB1.out.trans (HB2.out.mono (by omega))⟩
    · have hk' : k = f.length := by omega
      subst hk'
      have HR := hid (rightB_eq f (by omega) (by omega) HG.out)
      have HD : Hid (downTo f f.length) := goodTo_down f _ HG.out
      have HP : Hid (PlacesOk f (walkF f f.length (f.length - 1) [])) := PlacesOk.walk ⟨List.nodup_nil, fun j h => by cases h⟩ (fun j hj => HD.out j (by omega)) (by omega) (by omega)
      have hwl := HP.out.len
      have HKD := hid (goodTo_kind f _ HG.out)
      clear HG hS
      have hcast : ((f.length : Nat) : Int) - 1 = ((f.length - 1 : Nat) : Int) := by omega
      go_wp2_with fail
      refine (orderOf_any f b cap (f.length - 1) _ HNr.out (by omega) HKD.out (fun j hj => HD.out j (by omega)) (by omega)).mono ?_
      rintro e w1 ⟨v1, rfl, hO1, hb1⟩
      have hz1 := hb1.size
      generalize walkF f f.length (f.length - 1) [] = l at *
      have HO1 := hid hO1
      obtain ⟨a, c, rfl, hform⟩ := hO1.form
      have HB1 := hid (HB.out.trans (hb1.mono hsz))
      clear hO1 hform hb1 hcast
      by_cases hll : l.length = f.length
      · have hbq : (((l.length : Nat) : Int) == ((f.length : Nat) : Int)) = true := by simp [hll]
        clear hll
        go_wp2_with (go_at_call 70; refine (isSorted_any l _ _ _ HO1.out (by omega)).mono ?_; rintro e w2 ⟨r, rfl, hr, hb2⟩; have HRR := hid hr; have HB2 := hid hb2; clear hr hb2)
        have HE : Hid (rightB f = r) := by
          show rightB f = r
          rw [HR.out, range_bool l f.length HP.out.nd HP.out.lt r HRR.out, hbq, Bool.true_and]
        have HZ : Hid (Below w.heap.size w w2) := HB1.out.trans (HB2.out.mono (by have := HB1.out.size; omega))
        go_ret
        exact ⟨ret_bool HE.out.symm, HZ.out⟩
      · have hbq : (((l.length : Nat) : Int) == ((f.length : Nat) : Int)) = false := by simp; omega
        have HR2 : Hid ((l == List.range f.length) = false) := by
          rw [Hid, beq_eq_false_iff_ne]
          intro e; apply hll; rw [e]; simp
        clear hll
        go_wp2_with fail
        go_ret
        exact ⟨ret_bool (by rw [HR.out, HR2.out]), HB1.out⟩
end Go.Proofs.YtagklhfejbdkdaaDoor
