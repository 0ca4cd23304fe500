/-
  A slice of events that came in, opened.
-/
import Derived.Test.YthjnlcjjhklfpaaDoorOpenE
import Derived.Test.YthjnlcjjhklfpaaDoorEvS
namespace Go.Proofs.YthjnlcjjhklfpaaDoor
open Go.ChangeShapes Go.WideShapes Go.RowKit
set_option linter.unusedVariables false
set_option linter.unusedSimpArgs false
theorem Tryd.ceI64 : Tryd.prog.cellsOf 2 = 1 := by kernel_rfl
theorem Tryd.ceSts : Tryd.prog.cellsOf 29 = 1 := by kernel_rfl
theorem cells2 {w : World} {base : Nat} {a : Addr} {cs : List Value} (h : w.cells? base a 2 = some cs) : ∀ j, j < 2 → w.cell? (a.add j) = cs[j]? := by
  unfold World.cells? at h
  split at h
  · intro j hj
    exact mapM_some_get h j j (by simp [hj])
  · cases h
set_option maxRecDepth 100000 in
theorem open_ev_cells {H : Type} {enc : TypeId × Value → H} {w : World} {spare : Nat → Bool} {held : Bool} {fuel : Nat} {cs : List Value} {x : DataW H × List MemPlace} (h : DataW.trod enc Tryd.prog w 0 spare held fuel 35 cs = some x) :
    ∃ t a cap S, cs[0]? = some (.int .i64 t) ∧ cs[1]? = some (.slice a (S : List ByteArray).length cap) ∧ (-9223372036854775808 ≤ t ∧ t ≤ 9223372036854775807) ∧ InE w a S := by
  obtain ⟨xs, n, rfl, rfl, hlen, hxs, hf⟩ := DataW.trod_struct Tryd.underlying35 h
  simp at hxs
  rw [Tryd.cEvL] at hlen
  have g0 : DataW.trod enc Tryd.prog w 0 spare held n 2 ((cs.drop 0).take (Tryd.prog.cellsOf 2)) = xs[0]? := hf 0 _ rfl
  have g1 : DataW.trod enc Tryd.prog w 0 spare held n 29 ((cs.drop 1).take (Tryd.prog.cellsOf 29)) = xs[1]? := hf 1 _ rfl
  simp only [Tryd.ceI64, Tryd.ceSts] at g0 g1
  rw [List.getElem?_eq_getElem (by omega)] at g0 g1
  obtain ⟨t, e0, _, w0⟩ := DataW.trod_int Tryd.underlying2 g0
  obtain ⟨v, hv⟩ : ∃ v, (cs.drop 1).take 1 = [v] := by
    match cs, hlen with
    | [p, q], _ => exact ⟨q, rfl⟩
  rw [hv] at g1
  obtain ⟨a, cap, S, rfl, hI⟩ := open_texts g1
  exact ⟨t, a, cap, S, one_cell e0, one_cell hv, bounds64 w0, hI⟩
theorem evAt_map (X : Nat → Evt) (n i : Nat) (h : i < n) : evAt ((List.range n).map X) i = X i := by
  simp [evAt, List.getD, h]
theorem open_events {H : Type} {enc : TypeId × Value → H} {W : World} {v : Value} {d : DataW H} {p : List MemPlace} (hv : v.cells.toList = [v]) (h : DataW.Trod enc Tryd.prog W 0 (fun _ => true) true 51 v d p) :
    ∃ a cap E, v = .slice a (E : List Evt).length cap ∧ InEs W a E := by
  obtain ⟨fuel, h⟩ := h
  rw [hv] at h
  rcases Deep.open_slice Tryd.underlying51 h with ⟨hcs, _⟩ | ⟨a, len, cap, m, n, D, Pl, hcs, _, hlc, hcm, hm, _, hel⟩
  · simp at hcs
    exact ⟨none, 0, [], hcs, Or.inl rfl, fun i h => by simp at h, by simp [maxLen]⟩
  · simp at hcs
    simp at hm
    have hnode : ∀ i, i < len → ∃ y : Evt, EvOk y ∧ W.cell? ((a.add (i * 2)).add 0) = some (.int .i64 y.1) ∧ ∃ a' c', W.cell? ((a.add (i * 2)).add 1) = some (.slice a' y.2.length c') ∧ ArgT W a' y.2 := by
      intro i hi
      obtain ⟨cs', h1, h2⟩ := hel i (by omega)
      rw [Tryd.cEvL] at h1
      obtain ⟨t, a', c', S, e0, e1, hb, hI⟩ := open_ev_cells h2
      exact ⟨(t, S), ⟨hb, hI.ok, hI.len⟩, by rw [cells2 h1 0 (by decide)]; exact e0, a', c', by rw [cells2 h1 1 (by decide)]; exact e1, hI.arg⟩
    haveI : Inhabited Evt := ⟨(0, [])⟩
    obtain ⟨X, hX⟩ := Deep.choose_lt hnode
    have hfl : ((List.range len).map X).length = len := by simp
    refine ⟨some a, cap, (List.range len).map X, by rw [hfl]; exact hcs, ?_, fun i hi => ?_, by rw [hfl]; omega⟩
    · by_cases h0 : len = 0
      · exact Or.inl (by rw [hfl]; exact h0)
      · right
        obtain ⟨hs, hbk⟩ := spot_none (hX 0 (by omega)).2.1
        obtain ⟨b, off, spot⟩ := a
        have hsp : spot = none := by simpa [Addr.add] using hs
        subst hsp
        refine ⟨b, off, rfl, by simpa [Addr.add] using hbk, fun i hi => ?_⟩
        rw [hfl] at hi
        rw [evAt_map X len i hi]
        obtain ⟨_, q0, a', c', q1, hT⟩ := hX i hi
        rw [Addr.add_lit, Addr.add_lit] at q0 q1
        exact ⟨q0, a', c', q1, hT⟩
    · rw [hfl] at hi
      rw [evAt_map X len i hi]
      exact (hX i hi).1
end Go.Proofs.YthjnlcjjhklfpaaDoor
