/-
  A row of nodes that the call owns.
-/
import Derived.Test.YtagklhfejbdkdaaDoorKey
import Derived.Test.YtagklhfejbdkdaaDoorSv
namespace Go.Proofs.YtagklhfejbdkdaaDoor
open Go.RowKit
set_option linter.unusedVariables false
set_option linter.unusedSimpArgs false
theorem Save.node {a b : World} {S : Nat → Prop} (h : Save a b S) {c o : Nat} {x : Nd} (hn : NodeAt a c o x) (hp : c < a.heap.size) (hs : ¬ S c) : NodeAt b c o x :=
  ⟨(h.cell (p := ⟨c, _, none⟩) hp hs).trans hn.c0, (h.cell (p := ⟨c, _, none⟩) hp hs).trans hn.c1, (h.cell (p := ⟨c, _, none⟩) hp hs).trans hn.c2, (h.cell (p := ⟨c, _, none⟩) hp hs).trans hn.c3, (h.cell (p := ⟨c, _, none⟩) hp hs).trans hn.c4, (h.cell (p := ⟨c, _, none⟩) hp hs).trans hn.c5⟩
theorem Save.nodes {a b : World} {S : Nat → Prop} (h : Save a b S) {c : Nat} {f : List Nd} (hn : NodesAt a c f) (hs : ¬ S c) : NodesAt b c f :=
  ⟨Nat.lt_of_lt_of_le hn.1 h.size, fun i hi => h.node (hn.2 i hi) hn.1 hs⟩

/-! ### A row of nodes of the call's own -/
def ndCells (x : Nd) : List Value := [.int .i64 x.k, .int .i64 x.a, .int .i64 x.b, .int .i64 x.lo, .int .i64 x.hi, .string x.nm]
def flatN (g : List Nd) : List Value := g.flatMap ndCells
theorem flatN_len (g : List Nd) : (flatN g).length = g.length * 6 := by
  induction g with
  | nil => rfl
  | cons x g ih => simp [flatN, ndCells] at ih ⊢; rw [ih]; omega
theorem flatN_snoc (g : List Nd) (x : Nd) : flatN (g ++ [x]) = flatN g ++ ndCells x := by simp [flatN]
theorem flatN_get : ∀ (g : List Nd) (i j : Nat), i < g.length → j < 6 → (flatN g)[i * 6 + j]? = (ndCells (ndAt g i))[j]? := by
  intro g
  induction g with
  | nil => intro i j h; simp at h
  | cons x g ih =>
    intro i j hi hj
    have e : flatN (x :: g) = ndCells x ++ flatN g := by simp [flatN]
    have hl : (ndCells x).length = 6 := rfl
    cases i with
    | zero =>
      rw [e, Nat.zero_mul, Nat.zero_add, List.getElem?_append_left (by rw [hl]; exact hj)]
      rfl
    | succ i =>
      rw [e, List.getElem?_append_right (by rw [hl]; omega), hl, show (i + 1) * 6 + j - 6 = i * 6 + j by omega, ih i j (by simpa using hi) hj]
      rfl
def OwnsN (w : World) (base : Nat) (v : Value) (g : List Nd) : Prop := w.ownsRow base 46 6 v g.length (flatN g)
theorem OwnsN.at {w : World} {base b c : Nat} {g : List Nd} (h : OwnsN w base (.slice (some ⟨b, 0, none⟩) g.length c) g) : NodesAt w b g := by
  refine ⟨(World.ownsRow.lt h b rfl).2, fun i hi => ?_⟩
  have key : ∀ j u, j < 6 → (ndCells (ndAt g i))[j]? = some u → w.cell? ⟨b, i * 6 + j, none⟩ = some u := by
    intro j u hj hu
    have h1 := World.ownsRow.cells h (g := b) rfl (i * 6 + j) u (by rw [flatN_get g i j hi hj]; exact hu)
    rw [Addr.add_lit] at h1
    simpa using h1
  exact ⟨key 0 _ (by decide) rfl, key 1 _ (by decide) rfl, key 2 _ (by decide) rfl, key 3 _ (by decide) rfl, key 4 _ (by decide) rfl, key 5 _ (by decide) rfl⟩
/-- What a row of nodes looks like. -/
theorem OwnsN.form {w : World} {base : Nat} {v : Value} {g : List Nd} (h : OwnsN w base v g) : ∃ a c, v = .slice a g.length c ∧ (a = none ∨ ∃ b, a = some ⟨b, 0, none⟩ ∧ base ≤ b ∧ b < w.heap.size) := by
  rcases h.2 with ⟨hv, h0⟩ | ⟨b, cap, cur, hv, hb, hg, _⟩
  · exact ⟨none, 0, by rw [hv, h0], Or.inl rfl⟩
  · exact ⟨_, cap, hv, Or.inr ⟨b, rfl, hb, (Array.getElem?_eq_some_iff.1 hg).1⟩⟩
theorem OwnsN.save {w w' : World} {base : Nat} {v : Value} {g : List Nd} {S : Nat → Prop} (h : OwnsN w base v g) (hs : Save w w' S) (hS : ∀ k, v.ownBlock = some k → ¬ S k) : OwnsN w' base v g := by
  refine ⟨h.1, ?_⟩
  rcases h.2 with hn | ⟨b, cap, cur, rfl, hb, hg, rest⟩
  · exact .inl hn
  · refine .inr ⟨b, cap, cur, rfl, hb, ?_, rest⟩
    rw [hs.block b (Array.getElem?_eq_some_iff.1 hg).1 (hS b rfl)]
    exact hg
theorem Tryd.infoN : (Tryd.prog.info? 46).map (fun i => (i.zero, i.size, i.bytes)) = some (some (.agg #[.int .i64 0, .int .i64 0, .int .i64 0, .int .i64 0, .int .i64 0, .string ⟨#[]⟩]), 6, 56) := by kernel_rfl
theorem Tryd.uNs : Tryd.prog.underlying 24 = some (.slice 46) := by kernel_rfl
end Go.Proofs.YtagklhfejbdkdaaDoor
