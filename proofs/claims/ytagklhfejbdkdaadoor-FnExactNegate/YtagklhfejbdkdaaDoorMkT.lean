/-
  The laws' marks: markText by its contract.
-/
import Derived.Test.YtagklhfejbdkdaaDoorSv
import Derived.Laws.IdiomStrings
namespace Go.Proofs.YtagklhfejbdkdaaDoor
open Go.RowKit
set_option linter.unusedVariables false
set_option linter.unusedSimpArgs false
def mtL : Nat → Nat → List UInt8 → List UInt8
  | 0, _, o => o
  | n + 1, j, o => if j = 0 then o else mtL n (j / 10) (UInt8.ofNat (48 + j % 10) :: o)
theorem mtL_fuel : ∀ (n m j : Nat) (o : List UInt8), j ≤ n → j ≤ m → mtL n j o = mtL m j o := by
  intro n
  induction n with
  | zero =>
    intro m j o h1 _
    obtain rfl : j = 0 := by omega
    cases m with
    | zero => rfl
    | succ m => simp [mtL]
  | succ n ih =>
    intro m j o h1 h2
    cases m with
    | zero =>
      obtain rfl : j = 0 := by omega
      simp [mtL]
    | succ m =>
      unfold mtL
      split
      · rfl
      · exact ih m (j / 10) _ (by omega) (by omega)
theorem mtL_step (j : Nat) (o : List UInt8) (h : 0 < j) : mtL j j o = mtL (j / 10) (j / 10) (UInt8.ofNat (48 + j % 10) :: o) := by
  obtain ⟨n, rfl⟩ : ∃ n, j = n + 1 := ⟨j - 1, by omega⟩
  conv => lhs; unfold mtL
  rw [if_neg (by omega)]
  exact mtL_fuel _ _ _ _ (by omega) (Nat.le_refl _)
/-- The text of a mark. -/
def mtS (k : Nat) : ByteArray := ⟨((109 : UInt8) :: mtL k k []).toArray⟩
set_option maxRecDepth 20000 in
set_option maxHeartbeats 1000000 in
theorem markText_any (k : Nat) (hk : 0 < k) (hk2 : k ≤ 1000000000) (w : World) :
    Calls Tryd.prog 40 #[.int .i64 k] w fun e w' => e = .returned (.string (mtS k)) ∧ Below w.heap.size w w' := by
  go_enter Tryd.func40, Tryd.ntmps40
  go_wp2_with fail
  go_loopw [0, 3] (fun t s wr => ∃ (j : Nat) (o : List UInt8), t = .int .i64 j ∧ s = .string ⟨o.toArray⟩ ∧ j ≤ 1000000000 ∧ o.length + j ≤ 1000000000 + 20 ∧ mtL j j o = mtL k k [] ∧ Below w.heap.size w wr) (fun t _ _ => (intOf t).toNat)
  case atStart => exact ⟨k, [], rfl, rfl, hk2, by simp; omega, rfl, Below.refl _ _⟩
  case round =>
    obtain ⟨j, o, rfl, rfl, hj, ho, hm, hbel⟩ := hrel
    have HM := hid hm
    have HB := hid hbel
    have hsz := hbel.size
    clear hm hbel
    by_cases hj0 : 0 < j
    · have hcv := run_convert_bytes_back (P := Tryd.prog) (wr.alloc (.cells #[.int .u8 (48 + (j : Int) % 10)] 5)) 84 9 5 ⟨wr.heap.size, 0, none⟩ 1 [UInt8.ofNat (48 + j % 10)] (by kernel_rfl) (by kernel_rfl) (by kernel_rfl) (by
        intro i hi
        have hi0 : i = 0 := by simpa using hi
        subst hi0
        have hb : (UInt8.ofNat (48 + j % 10)).toNat = 48 + j % 10 := by
          rw [UInt8.toNat_ofNat']
          omega
        have hc0 : (wr.alloc (.cells #[.int .u8 (48 + (j : Int) % 10)] 5)).cell? ((⟨wr.heap.size, 0, none⟩ : Addr).add 0) = some (.int .u8 (48 + (j : Int) % 10)) := by
          exact cell_one _ _ _ 0 _ (by simp)
        rw [hc0]
        simp only [List.getElem_cons_zero, hb]
        push_cast
        rfl)
      simp only [List.length_cons, List.length_nil] at hcv
      go_wp2_with fail
      refine ⟨⟨j / 10, UInt8.ofNat (48 + j % 10) :: o, by simp, ?_, by omega, by simp; omega, by rw [← mtL_step j o hj0]; exact HM, HB.alloc hsz _⟩, by simp [intOf]; omega⟩
      simp only [Value.string.injEq]
      apply ByteArray.ext
      simp
    · obtain rfl : j = 0 := by omega
      go_wp2_with fail
      refine bodyPost_ret (v := .string (⟨#[109]⟩ ++ ⟨o.toArray⟩)) (by simp [results, Tryd.results40, go_sem]) rfl ⟨?_, HB⟩
      have HM' : o = mtL k k [] := HM
      simp only [Ending.returned.injEq, Value.string.injEq, mtS, ← HM']
      apply ByteArray.ext
      simp
theorem markText_int (v : Int) (k : Nat) (hv : v = k) (hk : 0 < k) (hk2 : k ≤ 1000000000) (w : World) :
    Calls Tryd.prog 40 #[.int .i64 v] w fun e w' => e = .returned (.string (mtS k)) ∧ Below w.heap.size w w' := by
  subst hv
  exact markText_any k hk hk2 w
end Go.Proofs.YtagklhfejbdkdaaDoor
