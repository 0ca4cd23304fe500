/-
  The program's formulasCode, by its contract.
-/
import Derived.Test.YtagklhfejbdkdaaDoorInN
namespace Go.Proofs.YtagklhfejbdkdaaDoor
open Go.RowKit
set_option linter.unusedVariables false
set_option linter.unusedSimpArgs false
def longTo (L : Nat → List Nd) (k : Nat) : Bool := (List.range k).any fun i => decide (400 < (L i).length)
def rightTo (L : Nat → List Nd) (k : Nat) : Bool := (List.range k).all fun i => rightB (L i)
def codeTo (L : Nat → List Nd) (m : Nat) : Int := if longTo L m then 2 else if rightTo L m then 0 else 1
theorem longTo_succ (L : Nat → List Nd) (k : Nat) : longTo L (k + 1) = (longTo L k || decide (400 < (L k).length)) := by simp [longTo, List.range_succ]
theorem longTo_yes (L : Nat → List Nd) (k m : Nat) (hk : k < m) (h : 400 < (L k).length) : longTo L m = true := by
  simp only [longTo, List.any_eq_true, List.mem_range]
  exact ⟨k, hk, by simpa using h⟩
theorem rightTo_succ (L : Nat → List Nd) (k : Nat) : rightTo L (k + 1) = (rightTo L k && rightB (L k)) := by simp [rightTo, List.range_succ]
theorem rightTo_no (L : Nat → List Nd) (k m : Nat) (hk : k < m) (h : rightB (L k) = false) : rightTo L m = false := by
  simp only [rightTo, List.all_eq_false, List.mem_range]
  exact ⟨k, hk, by simp [h]⟩
/-- A list of rows of nodes. -/
structure FsAt (w : World) (b : Nat) (m : Nat) (L : Nat → List Nd) (A C : Nat → Nat) : Prop where
  lt : b < w.heap.size
  cell : ∀ j, j < m → w.cell? ⟨b, j, none⟩ = some (.slice (some ⟨A j, 0, none⟩) (L j).length (C j))
  nodes : ∀ j, j < m → NodesAt w (A j) (L j)
theorem FsAt.on {w w' : World} {b m : Nat} {L : Nat → List Nd} {A C : Nat → Nat} (h : FsAt w b m L A C) (hb : Below w.heap.size w w') : FsAt w' b m L A C :=
  ⟨Nat.lt_of_lt_of_le h.lt hb.size, fun j hj => (hb.cell (p := ⟨b, j, none⟩) h.lt).trans (h.cell j hj), fun j hj => (h.nodes j hj).below hb (h.nodes j hj).1⟩
set_option maxRecDepth 20000 in
set_option maxHeartbeats 2000000 in
theorem codes_any (m : Nat) (hm : m ≤ 1000) (L : Nat → List Nd) (A C : Nat → Nat) (b c : Nat) (hok : ∀ j, j < m → (∀ i, i < (L j).length → ndOk (ndAt (L j) i)) ∧ (L j).length ≤ 1048576) (code : Int) (hcode : codeTo L m = code) (w : World) (hF : FsAt w b m L A C) (hkw : Kw w) (hg : 1 < w.heap.size) :
    Calls Tryd.prog 30 #[.slice (some ⟨b, 0, none⟩) m c] w fun e w' => e = .returned (.int .i64 code) ∧ Below w.heap.size w w' := by
  have HF := hid hF
  have HK := hid hkw
  have HOk := hid hok
  have HC : Hid (code = if longTo L m then 2 else if rightTo L m then 0 else 1) := hcode.symm
  clear hF hkw hok hcode
  go_enter Tryd.func30, Tryd.ntmps30
  go_wp2_with fail
  go_loop [9] (fun i => ∃ k : Nat, k ≤ m ∧ i = .int .i64 k ∧ longTo L k = false) (fun i => m - (intOf i).toNat)
  case atStart => exact ⟨0, Nat.zero_le _, rfl, rfl⟩
  case round =>
    obtain ⟨k, hk, rfl, hg'⟩ := hrel
    have HG := hid hg'
    clear hg'
    by_cases hlt : k < m
    · have d0 := HF.out.cell k hlt
      have hb0 := HF.out.lt
      have hl1 := (HOk.out k hlt).2
      by_cases h4 : 400 < (L k).length
      · have HE : Hid (code = 2) := by show code = 2; rw [HC.out, if_pos (longTo_yes L k m hlt h4)]
        go_wp2_with fail
        go_ret
        exact ⟨ret_int HE.out.symm, Below.refl _ _⟩
      · have HS : Hid (longTo L (k + 1) = false) := by show longTo L (k + 1) = false; rw [longTo_succ, HG.out]; simp; omega
        go_wp2_with fail
        go_round
        case rel => exact ⟨k + 1, by omega, by go_num, HS.out⟩
        case measure => simp [intOf]; omega
    · have hk' : k = m := by omega
      subst hk'
      have HC2 : Hid (code = if rightTo L k then 0 else 1) := by show code = _; rw [HC.out, HG.out]; rfl
      clear HC HG hk hlt
      go_wp2_with fail
      go_loopw [19] (fun i wr => ∃ k' : Nat, k' ≤ k ∧ i = .int .i64 k' ∧ rightTo L k' = true ∧ Below w.heap.size w wr) (fun i _ => k - (intOf i).toNat)
      case atStart => exact ⟨0, Nat.zero_le _, rfl, rfl, Below.refl _ _⟩
      case round =>
        obtain ⟨j, hj, rfl, hr, hbel⟩ := hrel
        have HR := hid hr
        have HB := hid hbel
        have hz := hbel.size
        clear hr hbel
        by_cases hlt : j < k
        · have HFr := hid (HF.out.on HB.out)
          have d0 := HFr.out.cell j hlt
          have hb0 := HFr.out.lt
          have HRi : Hid (∀ v, rightB (L j) = v → Calls Tryd.prog 51 #[.slice (some ⟨A j, 0, none⟩) (L j).length (C j)] wr fun e w' => e = .returned (.bool v) ∧ Below wr.heap.size wr w') := fun v hv => by subst hv; exact implRight_any (L j) (A j) (C j) wr (HFr.out.nodes j hlt) (HOk.out j hlt).1 (by have := (HOk.out j hlt).2; unfold maxLen; omega) (HK.out.below HB.out hg) (by omega)
          rcases Bool.eq_false_or_eq_true (rightB (L j)) with hv | hv
          · have HS : Hid (rightTo L (j + 1) = true) := by show rightTo L (j + 1) = true; rw [rightTo_succ, HR.out, hv]; rfl
            have HRv := hid (HRi.out true hv)
            clear HRi hv
            go_wp2_with (go_at_call 51; refine HRv.out.mono ?_; rintro e w1 ⟨rfl, hb1⟩; have HB1 := hid (HB.out.trans (hb1.mono HB.out.size)); clear hb1)
            go_roundw
            case rel => exact ⟨j + 1, by omega, by go_num, HS.out, HB1.out⟩
            case measure => simp [intOf]; omega
          · have HE : Hid (code = 1) := by show code = 1; rw [HC2.out, rightTo_no L j k hlt hv]; rfl
            have HRv := hid (HRi.out false hv)
            clear HRi hv
            go_wp2_with (go_at_call 51; refine HRv.out.mono ?_; rintro e w1 ⟨rfl, hb1⟩; have HB1 := hid (HB.out.trans (hb1.mono HB.out.size)); clear hb1)
            go_ret
            exact ⟨ret_int HE.out.symm, HB1.out⟩
        · have hj' : j = k := by omega
          subst hj'
          have HE : Hid (code = 0) := by show code = 0; rw [HC2.out, HR.out]; rfl
          go_wp2_with fail
          go_ret
          exact ⟨ret_int HE.out.symm, HB.out⟩
end Go.Proofs.YtagklhfejbdkdaaDoor
