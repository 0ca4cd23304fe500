/-
  Two nodes compared as wholes.
-/
import Derived.Test.YtagklhfejbdkdaaDoorForm
import Derived.Laws.StructEq
namespace Go.Proofs.YtagklhfejbdkdaaDoor
open Go.RowKit
theorem nd_ext (x y : Nd) : x = y ↔ x.k = y.k ∧ x.a = y.a ∧ x.b = y.b ∧ x.lo = y.lo ∧ x.hi = y.hi ∧ x.nm = y.nm := by
  obtain ⟨a1, a2, a3, a4, a5, a6⟩ := x
  obtain ⟨b1, b2, b3, b4, b5, b6⟩ := y
  simp [Nd.k, Nd.a, Nd.b, Nd.lo, Nd.hi, Nd.nm]
theorem str_eq (a b : ByteArray) : a = b ↔ a.toList = b.toList := by
  rw [ByteArray.toList_eq, ByteArray.toList_eq]
  obtain ⟨⟨x⟩⟩ := a
  obtain ⟨⟨y⟩⟩ := b
  simp
theorem Tryd.uNd : Tryd.prog.underlying 46 = some (.struct (Tryd.prog.fieldsOf 46)) := by kernel_rfl
theorem Tryd.sNd : Tryd.prog.stoodInHeld 46 = false := by kernel_rfl
set_option linter.unusedSimpArgs false
set_option maxHeartbeats 1000000 in
theorem equalIn_node (x y : Nd) (w : World) : (Op.equalIn 10000 46 (ndV x) (ndV y)).run Tryd.prog w = .ok (decide (x = y)) w := by
  unfold ndV
  rw [show (10000 : Nat) = 9999 + 1 from rfl, run_equalIn_struct w 9999 _ _ _ Tryd.uNd Tryd.sNd]
  simp only [nd_ext, str_eq]
  by_cases h1 : x.k = y.k
  · by_cases h2 : x.a = y.a
    · by_cases h3 : x.b = y.b
      · by_cases h4 : x.lo = y.lo
        · by_cases h5 : x.hi = y.hi
          · by_cases h6 : x.nm.toList = y.nm.toList
            · simp [go_sem, h1, h2, h3, h4, h5, h6]
            · simp [go_sem, h1, h2, h3, h4, h5, h6]
          · simp [go_sem, h1, h2, h3, h4, h5]
        · simp [go_sem, h1, h2, h3, h4]
      · simp [go_sem, h1, h2, h3]
    · simp [go_sem, h1, h2]
  · simp [go_sem, h1]
theorem eql_node (x y : Nd) (w : World) : (binOp .eql 46 (ndV x) (ndV y)).run Tryd.prog w = .ok (.bool (decide (x = y))) w := by
  have h := equalIn_node x y w
  unfold ndV at h ⊢
  simp only [binOp]
  simp [Op.equal, Op.maxDepth, h]
theorem neq_node (x y : Nd) (w : World) : (binOp .neq 46 (ndV x) (ndV y)).run Tryd.prog w = .ok (.bool (!decide (x = y))) w := by
  have h := equalIn_node x y w
  unfold ndV at h ⊢
  simp only [binOp]
  simp [Op.equal, Op.maxDepth, h]
end Go.Proofs.YtagklhfejbdkdaaDoor
