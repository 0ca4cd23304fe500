/-
  An event that came in, opened; likewise a slice of texts.
-/
import Derived.Test.YthjnlcjjhklfpaaDoorEvLaw
import Derived.Test.YthjnlcjjhklfpaaDoorOpenB
import Derived.Lib.SmallJoins
namespace Go.Proofs.YthjnlcjjhklfpaaDoor
open Go.ChangeShapes Go.WideShapes Go.RowKit
set_option linter.unusedVariables false
set_option linter.unusedSimpArgs false
theorem txAt_map (X : Nat → ByteArray) (n i : Nat) (h : i < n) : txAt ((List.range n).map X) i = X i := by
  simp [txAt, List.getD, h]
theorem open_texts {H : Type} {enc : TypeId × Value → H} {W : World} {v : Value} {x : DataW H × List MemPlace} {sp : Nat → Bool} {hd : Bool} {fuel : Nat} (h : DataW.trod enc Tryd.prog W 0 sp hd fuel 29 [v] = some x) :
    ∃ a cap S, v = .slice a (S : List ByteArray).length cap ∧ InE W a S := by
  rcases Deep.open_slice1 Tryd.underlying29 Tryd.cStr h with ⟨hcs, _⟩ | ⟨a, len, cap, m, n, V, D, Pl, hcs, _, hlc, hcm, hm, _, hel⟩
  · simp at hcs
    exact ⟨none, 0, [], hcs, Or.inl rfl, fun i h => by simp at h, by simp [maxLen]⟩
  · simp at hcs
    have hlm : len ≤ m := by rw [hm]; split <;> omega
    have hstr : ∀ i, i < len → ∃ y : ByteArray, y.size ≤ maxLen ∧ W.cell? (a.add i) = some (.string y) := by
      intro i hi
      obtain ⟨h1, h2⟩ := hel i (by omega)
      obtain ⟨nm, e5, _, w5⟩ := DataW.trod_string Tryd.underlying9 h2
      simp at e5
      exact ⟨nm, w5, by rw [h1, e5]⟩
    haveI : Inhabited ByteArray := ⟨ByteArray.empty⟩
    obtain ⟨X, hX⟩ := Deep.choose_lt hstr
    have hfl : ((List.range len).map X).length = len := by simp
    refine ⟨some a, cap, (List.range len).map X, by rw [hfl]; exact hcs, ?_, fun i hi => ?_, by rw [hfl]; omega⟩
    · by_cases h0 : len = 0
      · exact Or.inl (by rw [hfl]; exact h0)
      · right
        obtain ⟨hs, hbk⟩ := spot_none (hX 0 (by omega)).2
        obtain ⟨b, off, spot⟩ := a
        have hsp : spot = none := by simpa [Addr.add] using hs
        subst hsp
        refine ⟨b, off, rfl, by simpa [Addr.add] using hbk, fun i hi => ?_⟩
        rw [hfl] at hi
        rw [txAt_map X len i hi]
        have := (hX i hi).2
        rw [Addr.add_lit] at this
        exact this
    · rw [hfl] at hi
      rw [txAt_map X len i hi]
      exact (hX i hi).1
theorem Tryd.oneEv : Deep.oneCellFields Tryd.prog #[{ name := "Time", type := 2, offset := 0, embedded := false, tag := "", pkgPath := "", byteOffset := 0 }, { name := "Names", type := 29, offset := 1, embedded := false, tag := "", pkgPath := "", byteOffset := 8 }] = true := by kernel_rfl
theorem Tryd.cEvL : Tryd.prog.cellsOf 35 = 2 := by kernel_rfl
set_option maxRecDepth 100000 in
theorem open_event {H : Type} {enc : TypeId × Value → H} {W : World} {r : Reach} {b0 : Nat} {v : Value} {d : DataW H} {p : List MemPlace} {sp : Nat → Bool} {hd : Bool} (hv : Value.okWide Tryd.prog W r b0 35 v) (h : DataW.Trod enc Tryd.prog W 0 sp hd 35 v d p) :
    ∃ t a cap S, v = .agg #[.int .i64 t, .slice a (S : List ByteArray).length cap] ∧ (-9223372036854775808 ≤ t ∧ t ≤ 9223372036854775807) ∧ InE W a S := by
  have hj := Joins.open_agg2 (enc := enc) (P := Tryd.prog) Tryd.underlying35 Tryd.oneEv Tryd.cEvL hv h
  obtain ⟨v0, v1, y0, y1, n, rfl, _, _, h0, h1⟩ := hj
  obtain ⟨t, e0, _, w0⟩ := DataW.trod_int Tryd.underlying2 h0
  obtain ⟨a, cap, S, rfl, hI⟩ := open_texts h1
  simp at e0
  subst e0
  exact ⟨t, a, cap, S, rfl, bounds64 w0, hI⟩
end Go.Proofs.YthjnlcjjhklfpaaDoor
