/-
  A slice of nodes that came in, opened.
-/
import Derived.Test.YtolckakofgllcaaDoorInN
import Derived.Test.YtolckakofgllcaaDoorOpenB
namespace Go.Proofs.YtolckakofgllcaaDoor
open Go.ChangeShapes Go.WideShapes Go.RowKit
set_option linter.unusedVariables false
set_option linter.unusedSimpArgs false
theorem Tryd.cLNd : Tryd.prog.cellsOf 50 = 6 := by kernel_rfl
theorem cells6 {w : World} {base : Nat} {a : Addr} {cs : List Value} (h : w.cells? base a 6 = some cs) : ∀ j, j < 6 → w.cell? (a.add j) = cs[j]? := by
  unfold World.cells? at h
  split at h
  · intro j hj
    exact mapM_some_get h j j (by simp [hj])
  · cases h
theorem open_node {H : Type} {enc : TypeId × Value → H} {w : World} {base : Nat} {spare : Nat → Bool} {held : Bool} {fuel : Nat} {cs : List Value} {x : DataW H × List MemPlace} (h : DataW.trod enc Tryd.prog w base spare held fuel 50 cs = some x) :
    ∃ y : Nd, ndOk y ∧ cs[0]? = some (.int .i64 y.k) ∧ cs[1]? = some (.int .i64 y.a) ∧ cs[2]? = some (.int .i64 y.b) ∧ cs[3]? = some (.int .i64 y.lo) ∧ cs[4]? = some (.int .i64 y.hi) ∧ cs[5]? = some (.string y.nm) := by
  obtain ⟨xs, n, rfl, rfl, hlen, hxs, hf⟩ := DataW.trod_struct Tryd.underlying50 h
  simp at hxs
  have g0 : DataW.trod enc Tryd.prog w base spare held n 2 ((cs.drop 0).take (Tryd.prog.cellsOf 2)) = xs[0]? := hf 0 _ rfl
  have g1 : DataW.trod enc Tryd.prog w base spare held n 2 ((cs.drop 1).take (Tryd.prog.cellsOf 2)) = xs[1]? := hf 1 _ rfl
  have g2 : DataW.trod enc Tryd.prog w base spare held n 2 ((cs.drop 2).take (Tryd.prog.cellsOf 2)) = xs[2]? := hf 2 _ rfl
  have g3 : DataW.trod enc Tryd.prog w base spare held n 2 ((cs.drop 3).take (Tryd.prog.cellsOf 2)) = xs[3]? := hf 3 _ rfl
  have g4 : DataW.trod enc Tryd.prog w base spare held n 2 ((cs.drop 4).take (Tryd.prog.cellsOf 2)) = xs[4]? := hf 4 _ rfl
  have g5 : DataW.trod enc Tryd.prog w base spare held n 9 ((cs.drop 5).take (Tryd.prog.cellsOf 9)) = xs[5]? := hf 5 _ rfl
  simp only [Tryd.cI64, Tryd.cSt] at g0 g1 g2 g3 g4 g5
  rw [List.getElem?_eq_getElem (by omega)] at g0 g1 g2 g3 g4 g5
  obtain ⟨k, e0, _, w0⟩ := DataW.trod_int Tryd.underlying2 g0
  obtain ⟨a, e1, _, w1⟩ := DataW.trod_int Tryd.underlying2 g1
  obtain ⟨b, e2, _, w2⟩ := DataW.trod_int Tryd.underlying2 g2
  obtain ⟨lo, e3, _, w3⟩ := DataW.trod_int Tryd.underlying2 g3
  obtain ⟨hi, e4, _, w4⟩ := DataW.trod_int Tryd.underlying2 g4
  obtain ⟨nm, e5, _, w5⟩ := DataW.trod_string Tryd.underlying9 g5
  exact ⟨(k, a, b, lo, hi, nm), ⟨bounds64 w0, bounds64 w1, bounds64 w2, bounds64 w3, bounds64 w4, w5⟩, one_cell e0, one_cell e1, one_cell e2, one_cell e3, one_cell e4, one_cell e5⟩
theorem ndAt_map (X : Nat → Nd) (n i : Nat) (h : i < n) : ndAt ((List.range n).map X) i = X i := by
  simp [ndAt, List.getD, h]
theorem open_nodes {H : Type} {enc : TypeId × Value → H} {W : World} {v : Value} {d : DataW H} {p : List MemPlace} (hv : v.cells.toList = [v]) (h : DataW.Trod enc Tryd.prog W 0 (fun _ => true) true 22 v d p) :
    ∃ a cap f, v = .slice a (f : List Nd).length cap ∧ InN W a cap f := by
  obtain ⟨fuel, h⟩ := h
  rw [hv] at h
  rcases Deep.open_slice Tryd.underlying22 h with ⟨hcs, _⟩ | ⟨a, len, cap, m, n, D, Pl, hcs, _, hlc, hcm, hm, _, hel⟩
  · simp at hcs
    exact ⟨none, 0, [], hcs, Or.inl rfl, fun i h => by simp at h, by simp [maxLen]⟩
  · simp at hcs
    simp at hm
    have hnode : ∀ i, i < len → ∃ y : Nd, ndOk y ∧ ∀ j, j < 6 → W.cell? ((a.add (i * 6)).add j) = (ndCells y)[j]? := by
      intro i hi
      obtain ⟨cs', h1, h2⟩ := hel i (by omega)
      rw [Tryd.cLNd] at h1
      obtain ⟨y, hok, e0, e1, e2, e3, e4, e5⟩ := open_node h2
      refine ⟨y, hok, fun j hj => ?_⟩
      rw [cells6 h1 j hj]
      have hc : j = 0 ∨ j = 1 ∨ j = 2 ∨ j = 3 ∨ j = 4 ∨ j = 5 := by omega
      rcases hc with rfl | rfl | rfl | rfl | rfl | rfl
      · exact e0
      · exact e1
      · exact e2
      · exact e3
      · exact e4
      · exact e5
    haveI : Inhabited Nd := ⟨nd0⟩
    obtain ⟨X, hX⟩ := Deep.choose_lt hnode
    have hfl : ((List.range len).map X).length = len := by simp
    refine ⟨some a, cap, (List.range len).map X, by rw [hfl]; exact hcs, ?_, fun i hi => ?_, by rw [hfl]; omega⟩
    · by_cases h0 : len = 0
      · exact Or.inl (by rw [hfl]; exact h0)
      · right
        have hc0 := (hX 0 (by omega)).2 0 (by decide)
        obtain ⟨hs, hbk⟩ := spot_none (show W.cell? ((a.add (0 * 6)).add 0) = some _ from hc0)
        obtain ⟨b, off, spot⟩ := a
        have hsp : spot = none := by simpa [Addr.add] using hs
        subst hsp
        refine ⟨b, off, rfl, by simpa [Addr.add] using hbk, fun i hi => ?_⟩
        rw [hfl] at hi
        rw [ndAt_map X len i hi]
        have key : ∀ j, j < 6 → W.cell? ⟨b, off + i * 6 + j, none⟩ = (ndCells (X i))[j]? := by
          intro j hj
          have := (hX i hi).2 j hj
          rw [Addr.add_lit, Addr.add_lit] at this
          exact this
        exact ⟨key 0 (by decide), key 1 (by decide), key 2 (by decide), key 3 (by decide), key 4 (by decide), key 5 (by decide)⟩
    · rw [hfl] at hi
      rw [ndAt_map X len i hi]
      exact (hX i hi).1
end Go.Proofs.YtolckakofgllcaaDoor
