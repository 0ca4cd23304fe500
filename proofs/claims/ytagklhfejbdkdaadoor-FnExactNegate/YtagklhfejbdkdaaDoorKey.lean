/-
  Nodes as keys of a map; a map of the places of a row of nodes.
-/
import Derived.Test.YtagklhfejbdkdaaDoorLaidOut
import Derived.Test.YtagklhfejbdkdaaDoorEql
import Derived.Maps.OwnSet
import Derived.Maps.OwnOps
import Derived.DeepKeys4
import Derived.MapViews
import Derived.Deep.Draws
namespace Go.Proofs.YtagklhfejbdkdaaDoor
open Go.RowKit
set_option linter.unusedVariables false
set_option linter.unusedSimpArgs false
theorem Tryd.rowNd : 46 < Tryd.prog.types.size := of_decide_eq_true (by kernel_rfl)
theorem Tryd.keyNd : Maps.Keyed Tryd.prog 46 := Maps.Keyed.of_law (deep_law_laid Tryd.laidOut (m := 3) (by omega) Tryd.rowNd (by kernel_rfl) (by rw [Tryd.uNd]))
def keyL (x : Nd) : Lit := .string (keyBytes [.int .i64 x.k, .int .i64 x.a, .int .i64 x.b, .int .i64 x.lo, .int .i64 x.hi, .string x.nm.data.toList])
theorem wf64 {n : Int} (h : -9223372036854775808 ≤ n ∧ n ≤ 9223372036854775807) : (Lit.int .i64 n).wf = true := by
  simpa [Lit.wf, IntKind.min, IntKind.max, IntKind.signed, IntKind.bits] using h
theorem Tryd.cNd : Tryd.prog.cellsOf 46 = 6 := by kernel_rfl
theorem Tryd.cI64 : Tryd.prog.cellsOf 2 = 1 := by kernel_rfl
theorem Tryd.cSt : Tryd.prog.cellsOf 9 = 1 := by kernel_rfl
theorem Tryd.ktNd : Tryd.prog.keyType 46 = true := by kernel_rfl
theorem keyInt (d : Nat) {n : Int} (h : (Lit.int .i64 n).wf = true) : Tryd.prog.keyLits (d + 1) 2 [.int .i64 n] = some [.int .i64 n] := by
  simp [Program.keyLits, Tryd.underlying2, h]
theorem keyStr (d : Nat) {s : ByteArray} (h : s.size ≤ maxLen) : Tryd.prog.keyLits (d + 1) 9 [.string s] = some [.string s.data.toList] := by
  simp [Program.keyLits, Tryd.underlying9, h]
theorem keyLits_nd (d : Nat) (x : Nd) (h : ndOk x) : Tryd.prog.keyLits (d + 2) 46 [.int .i64 x.k, .int .i64 x.a, .int .i64 x.b, .int .i64 x.lo, .int .i64 x.hi, .string x.nm] = some [.int .i64 x.k, .int .i64 x.a, .int .i64 x.b, .int .i64 x.lo, .int .i64 x.hi, .string x.nm.data.toList] := by
  obtain ⟨h1, h2, h3, h4, h5, h6⟩ := h
  unfold Program.keyLits
  rw [Tryd.underlying46]
  simp [Tryd.cNd, Tryd.cI64, Tryd.cSt, keyInt d (wf64 h1), keyInt d (wf64 h2), keyInt d (wf64 h3), keyInt d (wf64 h4), keyInt d (wf64 h5), keyStr d h6]
theorem keyOf_nd (x : Nd) (h : ndOk x) : keyOf Tryd.prog 46 (ndV x) = some (keyL x) := by
  unfold keyOf
  rw [Tryd.underlying46]
  have hf : (ndV x).formed Tryd.prog 46 = true := by simp [ndV, Value.formed, Tryd.underlying46, Tryd.cNd]
  obtain ⟨d, hd⟩ : ∃ d, Tryd.prog.types.size + 1 = d + 2 := ⟨Tryd.prog.types.size - 1, by have := Tryd.rowNd; omega⟩
  have hk := keyLits_nd d x h
  rw [← hd] at hk
  have hc : (ndV x).cells.toList = [.int .i64 x.k, .int .i64 x.a, .int .i64 x.b, .int .i64 x.lo, .int .i64 x.hi, .string x.nm] := by simp [ndV, Value.cells]
  simp only [Tryd.ktNd, hf, Bool.and_self, if_true, hc, hk, Option.map_some, keyL]
theorem keyL_inj {x y : Nd} (hx : ndOk x) (hy : ndOk y) (h : keyL x = keyL y) : x = y := by
  have h1 := keyOf_nd x hx
  have h2 := keyOf_nd y hy
  rw [← h] at h2
  have := Tryd.keyNd.inj h1 h2
  simp [ndV] at this
  rw [nd_ext]
  exact this
theorem keyL_key (x : Nd) : WideAt.IsKeyLit (keyL x) := trivial
/-- What a map of the places of the first k nodes reads as. -/
def placesD (f : List Nd) : Nat → DataW Unit
  | 0 => .map []
  | k + 1 => (placesD f k).put (keyL (ndAt f k)) (.lit (.int .i64 k))
theorem placesD_isMap (f : List Nd) (k : Nat) : Maps.IsMap (placesD f k) := by
  induction k with
  | zero => exact Maps.isMap_empty
  | succ k ih => exact ih.put _ _
theorem placesD_none (f : List Nd) (x : Nd) (hx : ndOk x) : ∀ k, (∀ i, i < k → ndOk (ndAt f i)) → (∀ i, i < k → ndAt f i ≠ x) → Maps.has (placesD f k) (keyL x) = false := by
  intro k
  induction k with
  | zero => intro _ _; rfl
  | succ k ih =>
    intro h1 h2
    unfold placesD
    rw [Maps.has_put_other (fun e => h2 k (by omega) (keyL_inj hx (h1 k (by omega)) e).symm)]
    exact ih (fun i hi => h1 i (by omega)) (fun i hi => h2 i (by omega))
theorem placesD_some (f : List Nd) (x : Nd) (hx : ndOk x) (j : Nat) (hj : ndAt f j = x) : ∀ k, j < k → (∀ i, i < k → ndOk (ndAt f i)) → (∀ i, j < i → i < k → ndAt f i ≠ x) → Maps.has (placesD f k) (keyL x) = true ∧ ∀ z, (placesD f k).atKey (keyL x) z = .lit (.int .i64 j) := by
  intro k
  induction k with
  | zero => intro h; omega
  | succ k ih =>
    intro h1 h2 h3
    unfold placesD
    by_cases e : j = k
    · subst e
      rw [hj]
      exact ⟨Maps.has_put_same (placesD_isMap f j) (keyL_key x) _, fun z => Maps.atKey_put_same (placesD_isMap f j) (keyL_key x) _ z⟩
    · have hne : keyL x ≠ keyL (ndAt f k) := fun e' => h3 k (by omega) (by omega) (keyL_inj hx (h2 k (by omega)) e').symm
      obtain ⟨i1, i2⟩ := ih (by omega) (fun i hi => h2 i (by omega)) (fun i a b => h3 i a (by omega))
      exact ⟨by rw [Maps.has_put_other hne]; exact i1, fun z => by rw [Maps.atKey_put_other hne]; exact i2 z⟩
end Go.Proofs.YtagklhfejbdkdaaDoor
