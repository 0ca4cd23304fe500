/-
  Rows of numbers that a call owns.
-/
import Derived.Test.YtfafeomegoikkaaKpA
namespace Go.Proofs.Ytfafeomegoikkaa
open Go.RowKit
set_option linter.unusedVariables false
set_option linter.unusedSimpArgs false
/-- A row of numbers that the call owns. -/
def OwnI (w : World) (base : Nat) (v : Value) (Z : List Int) : Prop := w.ownsRow base 2 1 v Z.length (Z.map (Value.int .i64))
theorem OwnI.save {w w' : World} {base : Nat} {v : Value} {Z : List Int} {S : Nat → Prop} (h : OwnI w base v Z) (hs : Save w w' S) (hS : ∀ k, v.ownBlock = some k → ¬ S k) : OwnI w' base v Z := by
  refine ⟨h.1, ?_⟩
  rcases h.2 with hn | ⟨b, cap, cur, rfl, hb, hg, rest⟩
  · exact .inl hn
  · refine .inr ⟨b, cap, cur, rfl, hb, ?_, rest⟩
    rw [hs.block b (Array.getElem?_eq_some_iff.1 hg).1 (hS b rfl)]
    exact hg
theorem OwnI.low {w : World} {base base' : Nat} {v : Value} {Z : List Int} (h : OwnI w base v Z) (hb : base' ≤ base) : OwnI w base' v Z := by
  refine ⟨h.1, ?_⟩
  rcases h.2 with hn | ⟨b, cap, cur, rfl, h1, rest⟩
  · exact .inl hn
  · exact .inr ⟨b, cap, cur, rfl, by omega, rest⟩
theorem OwnI.nil (w : World) (base : Nat) : OwnI w base (.slice none 0 0) [] := World.ownsRow_nil _ _ _ _
theorem OwnI.lt {w : World} {base : Nat} {v : Value} {Z : List Int} (h : OwnI w base v Z) : ∀ k, v.ownBlock = some k → base ≤ k ∧ k < w.heap.size := World.ownsRow.lt h
theorem OwnI.on {w w' : World} {base : Nat} {v : Value} {Z : List Int} (h : OwnI w base v Z) (hb : Below w.heap.size w w') : OwnI w' base v Z :=
  h.save (S := fun _ => False) (Save.of_below hb _ (fun j h1 h2 => absurd h1 (by omega))) (fun _ _ h => h)
theorem OwnI.form {w : World} {base : Nat} {v : Value} {Z : List Int} (h : OwnI w base v Z) : ∃ a c, v = .slice a Z.length c ∧ ArgI w a Z ∧ RowIs w a Z.length ∧ ∀ q, a = some q → base ≤ q.block ∧ q.block < w.heap.size := by
  rcases h.2 with ⟨hv, h0⟩ | ⟨g, cap, cur, hv, hb, hg, h1, h2, h3, h4⟩
  · exact ⟨none, 0, by rw [hv, h0], Or.inl h0, Or.inl h0, fun b e => (by cases e)⟩
  · have hlt := (Array.getElem?_eq_some_iff.1 hg).1
    refine ⟨some ⟨g, 0, none⟩, cap, hv, Or.inr ⟨g, 0, rfl, hlt, fun i hi => ?_⟩, Or.inr ⟨g, fun j => cur.getD j undef, cap, rfl, h1, ⟨cur, hg, by omega, fun i hi => ?_⟩⟩, fun b e => (by injection e with e1; subst e1; exact ⟨hb, hlt⟩)⟩
    · have h5 := World.ownsRow.cells h (g := g) (by rw [hv]; rfl) i (.int .i64 (zAt Z i)) (by simp [zAt, hi])
      rw [Addr.add_lit] at h5
      exact h5
    · have hi' : i < cur.size := by omega
      simp [hi']
theorem OwnI.arg {w : World} {base : Nat} {a : Option Addr} {n c : Nat} {Z : List Int} (h : OwnI w base (.slice a n c) Z) : ArgI w a Z := by
  obtain ⟨a', c', e, h1, _⟩ := h.form
  injection e with e1 e2 e3
  subst e1
  exact h1
theorem Save.over {a b c : World} {S T : Nat → Prop} (h : Save a b S) (k : Save b c T) (hT : ∀ j, j < a.heap.size → T j → S j) : Save a c S :=
  ⟨k.os.trans h.os, k.tape.trans h.tape, k.output.trans h.output, Nat.le_trans h.size k.size, fun j hj hs => (k.block j (Nat.lt_of_lt_of_le hj h.size) (fun t => hs (hT j hj t))).trans (h.block j hj hs)⟩
theorem ints_one (Z : List Int) : ∀ u ∈ Z.map (Value.int .i64), u.oneCell' = true := by
  intro u hu
  obtain ⟨b, _, rfl⟩ := List.mem_map.1 hu
  rfl
theorem ints_cells {W : World} {b off : Nat} {Z : List Int} (h : ∀ j, j < Z.length → W.cell? ⟨b, off + j, none⟩ = some (.int .i64 (zAt Z j))) : ∀ j u, (Z.map (Value.int .i64))[j]? = some u → W.cell? ((⟨b, off, none⟩ : Addr).add j) = some u := by
  intro j u hu
  have hj : j < Z.length := by simpa using (List.getElem?_eq_some_iff.1 hu).1
  rw [Addr.add_lit, h j hj]
  simp [hj] at hu
  simp [zAt, List.getD, hj, hu]
theorem own_none (w : World) (base : Nat) (hb : base ≤ w.heap.size) : OwnI (w.alloc (.cells #[] 2)) base (.slice (some ⟨w.heap.size, 0, none⟩) 0 0) [] :=
  World.ownsRow_made w #[] 0 hb (by simp [maxLen]) (by simp)
theorem cell_one' (w : World) (q : Nat) (hq : w.heap.size = q) (x : Value) (t : TypeId) : ∀ j u, [x][j]? = some u → (w.alloc (.cells #[x] t)).cell? ((⟨q, 0, none⟩ : Addr).add j) = some u := by
  subst hq; exact cell_one w x t
/-- A slice of numbers that a call made. -/
structure NumsOut (w w' : World) (a : Option Addr) (Y : List Int) : Prop where
  arg : ArgI w' a Y
  mu : RowIs w' a Y.length
  fresh : ∀ q, a = some q → w.heap.size ≤ q.block ∧ q.block < w'.heap.size
  bel : Below w.heap.size w w'
theorem OwnI.out {w w' : World} {base : Nat} {v : Value} {Y : List Int} (h : OwnI w' base v Y) (hb : w.heap.size ≤ base) (hbel : Below w.heap.size w w') : ∃ a c, v = .slice a Y.length c ∧ NumsOut w w' a Y := by
  obtain ⟨a, c, e, h1, h2, h3⟩ := h.form
  exact ⟨a, c, e, h1, h2, fun q hq => by have := h3 q hq; omega, hbel⟩
theorem OwnI.snoc {w : World} {base : Nat} {v : Value} {D : List Int} {x : Int} (h : w.ownsRow base 2 1 v (D.length + 1) (D.map (Value.int .i64) ++ [.int .i64 x])) : OwnI w base v (D ++ [x]) := by
  show w.ownsRow _ _ _ _ _ _
  simpa using h
end Go.Proofs.Ytfafeomegoikkaa
