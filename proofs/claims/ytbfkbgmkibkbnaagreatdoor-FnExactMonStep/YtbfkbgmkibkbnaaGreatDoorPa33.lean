/-
  The program's goThrough, by its contract.
-/
import Derived.Test.YtbfkbgmkibkbnaaGreatDoorPa31
import Derived.Deep.RegionHeld3
namespace Go.Proofs.YtbfkbgmkibkbnaaGreatDoor
open Go.RowKit
set_option linter.unusedVariables false
set_option linter.unusedSimpArgs false
/-- A row of cells of which k are laid, their times each owned, in rising blocks. -/
structure CkO (w : World) (cb m : Nat) (D : List Cl) (V : Nat → Value) (z : Nat → Value) (k : Nat) : Prop where
  row : w.rowIs cb 96 m (rowC D V z k)
  own : ∀ i, i < k → OwnI w (cb + 1) (V i) (clAt D i).ts
  rise : ∀ i j, i < j → j < k → ∀ p q, (V i).ownBlock = some p → (V j).ownBlock = some q → p < q
theorem CkO.save {w w' : World} {cb m : Nat} {D : List Cl} {V z : Nat → Value} {k : Nat} {S : Nat → Prop} (h : CkO w cb m D V z k) (hs : Save w w' S) (h0 : ¬ S cb) (h1 : ∀ j, cb < j → ¬ S j) : CkO w' cb m D V z k :=
  ⟨h.row.of_block (hs.block cb h.row.lt h0), fun i hi => (h.own i hi).save hs (fun k e => h1 k (by have := ((h.own i hi).lt k e).1; omega)), h.rise⟩
def boolsTo (g : Nat → Bool) (k j : Nat) : Value := if j < k then .bool (g j) else .bool false
theorem boolsTo_step (g : Nat → Bool) (k j : Nat) : boolsTo g (k + 1) j = if j = k then .bool (g k) else boolsTo g k j := by
  unfold boolsTo
  by_cases h : j = k
  · subst h; rw [if_pos (by omega), if_pos rfl]
  · rw [if_neg h]
    by_cases h2 : j < k
    · rw [if_pos (by omega), if_pos h2]
    · rw [if_neg (by omega), if_neg h2]
theorem zC_at (k : Nat) : zC (k * 4) = .int .i64 0 ∧ zC (k * 4 + 1) = .int .i64 0 ∧ zC (k * 4 + 2) = .slice none 0 0 ∧ zC (k * 4 + 3) = .bool false := by
  have e : ∀ r, r < 4 → (k * 4 + r) % 4 = r := fun r h => by omega
  unfold zC
  refine ⟨?_, ?_, ?_, ?_⟩
  · have := e 0 (by omega); rw [Nat.add_zero] at this; rw [this]; rfl
  · rw [e 1 (by omega)]; rfl
  · rw [e 2 (by omega)]; rfl
  · rw [e 3 (by omega)]; rfl
theorem rowC_rest (C : List Cl) (V : Nat → Value) (z : Nat → Value) (k j : Nat) (h : k * 4 ≤ j) : rowC C V z k j = z j := by
  unfold rowC
  rw [if_neg (by omega)]
/-- The table of steps, as it lies. -/
theorem steps_at (w : World) (t : TypeId) (k : Nat) (h1 : 1 ≤ k) (h9 : k ≤ 9) : (w.alloc (.cells #[.nilFunc, .func (.func 126) #[] #[], .func (.func 127) #[] #[], .func (.func 128) #[] #[], .func (.func 129) #[] #[], .func (.func 130) #[] #[], .func (.func 131) #[] #[], .func (.func 132) #[] #[], .func (.func 133) #[] #[], .func (.func 134) #[] #[]] t)).cell? ⟨w.heap.size, k, none⟩ = some (.func (.func (stepF (k : Int))) #[] #[]) := by
  have hk : k = 1 ∨ k = 2 ∨ k = 3 ∨ k = 4 ∨ k = 5 ∨ k = 6 ∨ k = 7 ∨ k = 8 ∨ k = 9 := by omega
  rcases hk with rfl | rfl | rfl | rfl | rfl | rfl | rfl | rfl | rfl <;> simp [go_sem, stepF]
/-- What region 6 reads. -/
structure GtS (W : World) (q s b wb o : Nat) (wf : Option Addr) (wn wc : Nat) (cnt now tm : Int) (na : Option Addr) (nn nc ab an ac : Nat) (kk : Nat) (F : Nat) (x : Nd) (lo hi : Int) (a : Option Addr) (n c : Nat) (was : Bool) : Prop where
  w0 : W.cell? ⟨q, 0, none⟩ = some (.slice wf wn wc)
  w1 : W.cell? ⟨q, 1, none⟩ = some (.int .i64 cnt)
  w2 : W.cell? ⟨q, 2, none⟩ = some (.int .i64 now)
  w3 : W.cell? ⟨q, 3, none⟩ = some (.int .i64 tm)
  w4 : W.cell? ⟨q, 4, none⟩ = some (.slice na nn nc)
  w5 : W.cell? ⟨q, 5, none⟩ = some (.slice (some ⟨ab, 0, none⟩) an ac)
  x0 : W.cell? ⟨b, 0, none⟩ = some (.int .i64 kk)
  x1 : W.cell? ⟨b, 1, none⟩ = some (.int .i64 x.a)
  x2 : W.cell? ⟨b, 2, none⟩ = some (.int .i64 x.b)
  x3 : W.cell? ⟨b, 3, none⟩ = some (.int .i64 x.lo)
  x4 : W.cell? ⟨b, 4, none⟩ = some (.int .i64 x.hi)
  x5 : W.cell? ⟨b, 5, none⟩ = some (.string x.nm)
  st : W.cell? ⟨s, kk, none⟩ = some (.func (.func F) #[] #[])
  c0 : W.cell? ⟨wb, o, none⟩ = some (.int .i64 lo)
  c1 : W.cell? ⟨wb, o + 1, none⟩ = some (.int .i64 hi)
  c2 : W.cell? ⟨wb, o + 2, none⟩ = some (.slice a n c)
  c3 : W.cell? ⟨wb, o + 3, none⟩ = some (.bool was)
theorem GtS.save {W W' : World} {q s b wb o : Nat} {wf : Option Addr} {wn wc : Nat} {cnt now tm : Int} {na : Option Addr} {nn nc ab an ac kk F : Nat} {x : Nd} {lo hi : Int} {a : Option Addr} {n c : Nat} {was : Bool} {S : Nat → Prop} (h : GtS W q s b wb o wf wn wc cnt now tm na nn nc ab an ac kk F x lo hi a n c was) (hs : Save W W' S) (lq : q < W.heap.size) (ls : s < W.heap.size) (lb : b < W.heap.size) (lw : wb < W.heap.size) (nq : ¬ S q) (ns : ¬ S s) (nb : ¬ S b) (nw : ¬ S wb) : GtS W' q s b wb o wf wn wc cnt now tm na nn nc ab an ac kk F x lo hi a n c was :=
  ⟨(hs.cell (p := ⟨q, _, none⟩) lq nq).trans h.w0, (hs.cell (p := ⟨q, _, none⟩) lq nq).trans h.w1, (hs.cell (p := ⟨q, _, none⟩) lq nq).trans h.w2, (hs.cell (p := ⟨q, _, none⟩) lq nq).trans h.w3, (hs.cell (p := ⟨q, _, none⟩) lq nq).trans h.w4, (hs.cell (p := ⟨q, _, none⟩) lq nq).trans h.w5,
   (hs.cell (p := ⟨b, _, none⟩) lb nb).trans h.x0, (hs.cell (p := ⟨b, _, none⟩) lb nb).trans h.x1, (hs.cell (p := ⟨b, _, none⟩) lb nb).trans h.x2, (hs.cell (p := ⟨b, _, none⟩) lb nb).trans h.x3, (hs.cell (p := ⟨b, _, none⟩) lb nb).trans h.x4, (hs.cell (p := ⟨b, _, none⟩) lb nb).trans h.x5,
   (hs.cell (p := ⟨s, _, none⟩) ls ns).trans h.st, (hs.cell (p := ⟨wb, _, none⟩) lw nw).trans h.c0, (hs.cell (p := ⟨wb, _, none⟩) lw nw).trans h.c1, (hs.cell (p := ⟨wb, _, none⟩) lw nw).trans h.c2, (hs.cell (p := ⟨wb, _, none⟩) lw nw).trans h.c3⟩
end Go.Proofs.YtbfkbgmkibkbnaaGreatDoor
