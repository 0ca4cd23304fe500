/-
  The model's l06Cell, by its contract.
-/
import Derived.Test.YtbfkbgmkibkbnaaGreatDoorPa36
import Derived.Test.YtbfkbgmkibkbnaaGreatDoorPa37
import Derived.Test.YtbfkbgmkibkbnaaGreatDoorPa38
import Derived.Test.YtbfkbgmkibkbnaaGreatDoorPa39
namespace Go.Proofs.YtbfkbgmkibkbnaaGreatDoor
open Go.RowKit
set_option linter.unusedVariables false
set_option linter.unusedSimpArgs false
theorem cellS_is (f : List Nd) (fb fc : Nat) (cnt now : Int) (h0 : 0 ≤ cnt) (C : List Cl) (cb co cc : Nat) (i : Nat) (hi : i < f.length) (hi2 : i < C.length) (hl : C.length ≤ 1048576) (hlf : f.length ≤ 1048576) (hlt : (clAt C i).ts.length ≤ 2000000) (v : Bool) (hv : cellB cnt now (ndAt f i) (clAt C i) = v) (w : World) (hN : NodeAt w fb (i * 6) (ndAt f i)) (hfb : fb < w.heap.size) (hC : CkAt w cb (co + i * 4) (clAt C i)) (hcb : cb < w.heap.size) :
    Calls Tryz.prog 103 #[.agg #[.slice (some ⟨fb, 0, none⟩) f.length fc, .int .i64 cnt, .int .i64 now, .slice (some ⟨cb, co, none⟩) C.length cc], .int .i64 i] w fun e w' => e = .returned (.bool v) ∧ Below w.heap.size w w' := by
  rcases Bool.eq_false_or_eq_true (wasB cnt (ndAt f i) (clAt C i).was) with hw | hw
  · rcases Bool.eq_false_or_eq_true (keepsK (ndAt f i).k) with hk | hk
    · rw [cellB_keeps cnt now _ _ hk, hw] at hv
      rcases Bool.eq_false_or_eq_true (krB (clAt C i).lo (clAt C i).hi (clAt C i).ts) with hkr | hkr
      · rcases Bool.eq_false_or_eq_true ((clAt C i).lo == (ndAt f i).lo) with e1 | e1
        · rcases Bool.eq_false_or_eq_true ((clAt C i).hi == (ndAt f i).hi) with e2 | e2
          · rw [hkr, e1, e2] at hv
            by_cases hn0 : (clAt C i).ts.length = 0
            · obtain rfl : true = v := by rw [← hv]; simp [hn0]
              exact cellS_6 f fb fc cnt now h0 C cb co cc i hi hi2 hl hlf hlt hw hk hkr e1 e2 hn0 w hN hfb hC hcb
            · by_cases hc : cnt = 0
              · obtain rfl : false = v := by rw [← hv]; simp [hn0, hc]
                exact cellS_7 f fb fc cnt now h0 C cb co cc i hi hi2 hl hlf hlt hw hk hkr e1 e2 (by omega) hc w hN hfb hC hcb
              · have hv2 : decide (lastT (clAt C i).ts ≤ now) = v := by rw [← hv]; simp [hn0, show 0 < cnt by omega]
                exact cellS_8 f fb fc cnt now h0 C cb co cc i hi hi2 hl hlf hlt hw hk hkr e1 e2 (by omega) (by omega) v hv2 w hN hfb hC hcb
          · obtain rfl : false = v := by rw [← hv, e2]; simp
            exact cellS_5 f fb fc cnt now h0 C cb co cc i hi hi2 hl hlf hlt hw hk hkr e1 e2 w hN hfb hC hcb
        · obtain rfl : false = v := by rw [← hv, e1]; simp
          exact cellS_4 f fb fc cnt now h0 C cb co cc i hi hi2 hl hlf hlt hw hk hkr e1 w hN hfb hC hcb
      · obtain rfl : false = v := by rw [← hv, hkr]; rfl
        exact cellS_3 f fb fc cnt now h0 C cb co cc i hi hi2 hl hlf hlt hw hk hkr w hN hfb hC hcb
    · rw [cellB_not cnt now _ _ hk, hw, Bool.true_and] at hv
      exact cellS_2 f fb fc cnt now h0 C cb co cc i hi hi2 hl hlf hlt hw hk v hv w hN hfb hC hcb
  · obtain rfl : false = v := by rw [← hv]; unfold cellB; rw [hw]; rfl
    exact cellS_1 f fb fc cnt now h0 C cb co cc i hi hi2 hl hlf hlt hw w hN hfb hC hcb
end Go.Proofs.YtbfkbgmkibkbnaaGreatDoor
