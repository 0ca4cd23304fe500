/-
  What a cell of a monitor must be: plain facts for the model's l06Cell.
-/
import Derived.Test.YtljhokoojodjnaaGreatDoorMnR
namespace Go.Proofs.YtljhokoojodjnaaGreatDoor
open Go.RowKit
set_option linter.unusedVariables false
set_option linter.unusedSimpArgs false
theorem cellB_keeps (cnt now : Int) (x : Nd) (c : Cl) (hk : keepsK x.k = true) : cellB cnt now x c = (wasB cnt x c.was && (krB c.lo c.hi c.ts && ((c.lo == x.lo) && ((c.hi == x.hi) && (decide (c.ts.length = 0) || (decide (0 < cnt) && decide (lastT c.ts ≤ now))))))) := by
  simp [cellB, keptB, bareLo, bareHi, hk]
theorem cellB_not (cnt now : Int) (x : Nd) (c : Cl) (hk : keepsK x.k = false) : cellB cnt now x c = (wasB cnt x c.was && ((c.lo == 0) && ((c.hi == 0) && decide (c.ts.length = 0)))) := by
  simp only [cellB, keptB, bareLo, bareHi, hk, Bool.false_eq_true, if_false, Bool.false_and, Bool.or_false]
  by_cases h1 : c.lo = 0
  · by_cases h2 : c.hi = 0
    · by_cases h3 : c.ts.length = 0
      · simp [h1, h2, h3, kr0 h3]
      · cases krB c.lo c.hi c.ts <;> simp [h3]
    · cases krB c.lo c.hi c.ts <;> simp [h2]
  · cases krB c.lo c.hi c.ts <;> simp [h1]
theorem wasB_is (cnt : Int) (h0 : 0 ≤ cnt) (x : Nd) (was : Bool) : wasB cnt x was = !(was && ((x.k != 6) || (cnt == 0))) := by
  have hd : decide (0 < cnt) = !(cnt == 0) := by
    by_cases h : cnt = 0
    · subst h; rfl
    · have h1 : 0 < cnt := by omega
      simp [h1, h]
  unfold wasB
  rw [hd]
  cases was <;> cases h : (x.k == 6) <;> cases h' : (cnt == 0) <;> simp [bne, h]
theorem wasB_ways {cnt : Int} (h0 : 0 ≤ cnt) {x : Nd} {was : Bool} (h : wasB cnt x was = true) : was = false ∨ (was = true ∧ (x.k != 6) = false ∧ (cnt == 0) = false) := by
  rw [wasB_is cnt h0] at h
  revert h
  cases was <;> cases (x.k != 6) <;> cases (cnt == 0) <;> simp
theorem wasB_nots {cnt : Int} (h0 : 0 ≤ cnt) {x : Nd} {was : Bool} (h : wasB cnt x was = false) : was = true ∧ ((x.k != 6) = true ∨ ((x.k != 6) = false ∧ (cnt == 0) = true)) := by
  rw [wasB_is cnt h0] at h
  revert h
  cases was <;> cases (x.k != 6) <;> cases (cnt == 0) <;> simp
/-- The boxes of l06Cell, behind its first step. -/
structure CkBox (W : World) (q qc qx : Nat) (cnt now : Int) (x : Nd) (c : Cl) (a : Option Addr) (cap : Nat) : Prop where
  l0 : q < W.heap.size
  l1 : qc < W.heap.size
  l2 : qx < W.heap.size
  m1 : W.cell? ⟨q, 1, none⟩ = some (.int .i64 cnt)
  m2 : W.cell? ⟨q, 2, none⟩ = some (.int .i64 now)
  x0 : W.cell? ⟨qx, 0, none⟩ = some (.int .i64 x.k)
  x3 : W.cell? ⟨qx, 3, none⟩ = some (.int .i64 x.lo)
  x4 : W.cell? ⟨qx, 4, none⟩ = some (.int .i64 x.hi)
  k0 : W.cell? ⟨qc, 0, none⟩ = some (.int .i64 c.lo)
  k1 : W.cell? ⟨qc, 1, none⟩ = some (.int .i64 c.hi)
  k2 : W.cell? ⟨qc, 2, none⟩ = some (.slice a c.ts.length cap)
  k3 : W.cell? ⟨qc, 3, none⟩ = some (.bool c.was)
theorem ckbox_a (w : World) (mf : Value) (cnt now : Int) (mc : Value) (x : Nd) (c : Cl) (a : Option Addr) (cap : Nat) (t1 t2 t3 : TypeId) : CkBox (((w.alloc (.cells #[mf, .int .i64 cnt, .int .i64 now, mc] t1)).alloc (.cells #[.int .i64 c.lo, .int .i64 c.hi, .slice a c.ts.length cap, .bool c.was] t2)).alloc (.cells #[.int .i64 x.k, .int .i64 x.a, .int .i64 x.b, .int .i64 x.lo, .int .i64 x.hi, .string x.nm] t3)).drew w.heap.size (w.heap.size + 1) (w.heap.size + 1 + 1) cnt now x c a cap :=
  ⟨by simp; omega, by simp, by simp, by simp [go_sem], by simp [go_sem], by simp [go_sem], by simp [go_sem], by simp [go_sem], by simp [go_sem], by simp [go_sem], by simp [go_sem], by simp [go_sem]⟩
theorem ckbox_b (w : World) (mf : Value) (cnt now : Int) (mc : Value) (x : Nd) (c : Cl) (a : Option Addr) (cap : Nat) (t1 t2 t3 : TypeId) : CkBox (((w.alloc (.cells #[mf, .int .i64 cnt, .int .i64 now, mc] t1)).alloc (.cells #[.int .i64 x.k, .int .i64 x.a, .int .i64 x.b, .int .i64 x.lo, .int .i64 x.hi, .string x.nm] t3)).alloc (.cells #[.int .i64 c.lo, .int .i64 c.hi, .slice a c.ts.length cap, .bool c.was] t2)).drew w.heap.size (w.heap.size + 1 + 1) (w.heap.size + 1) cnt now x c a cap :=
  ⟨by simp; omega, by simp, by simp, by simp [go_sem], by simp [go_sem], by simp [go_sem], by simp [go_sem], by simp [go_sem], by simp [go_sem], by simp [go_sem], by simp [go_sem], by simp [go_sem]⟩
theorem bb3 (w : World) (o1 o2 o3 : Obj) : Below w.heap.size w (((w.alloc o1).alloc o2).alloc o3).drew := below_drew (bbelow3 w o1 o2 o3)
end Go.Proofs.YtljhokoojodjnaaGreatDoor
