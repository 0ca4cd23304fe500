/-
  A Keep that came in, opened.
-/
import Derived.Test.YtljhokoojodjnaaDoorKpB
import Derived.Test.YtljhokoojodjnaaDoorLaidOut
import Derived.ProofKit
import Derived.OpenShut
import Derived.ChangeOld
import Derived.Below
import Derived.Deep.Slices
import Derived.Lib.SmallJoins
namespace Go.Proofs.YtljhokoojodjnaaDoor
open Go.ChangeShapes Go.WideShapes Go.RowKit
set_option linter.unusedVariables false
set_option linter.unusedSimpArgs false
theorem cell_spot {w : World} {a : Addr} {v : Value} (h : w.cell? a = some v) : a.spot = none ∧ a.block < w.heap.size := by
  unfold World.cell? at h
  split at h
  · rename_i c t fr hb
    split at h
    · cases h
    · rename_i hs
      exact ⟨by simpa using hs, (Array.getElem?_eq_some_iff.1 hb).1⟩
  · cases h
theorem open_times {H : Type} {enc : TypeId × Value → H} {W : World} {v : Value} {x : DataW H × List MemPlace} {sp : Nat → Bool} {hd : Bool} {fuel : Nat} (h : DataW.trod enc Tryd.prog W 0 sp hd fuel 79 [v] = some x) :
    ∃ a cap Z, v = .slice a (Z : List Int).length cap ∧ Z.length ≤ maxLen ∧ ArgI W a Z := by
  rcases open_ints Tryd.underlying79 Tryd.underlying2 (by kernel_rfl) h with ⟨hcs, _⟩ | ⟨y, l, c, zs, hcs, _, hl, hm, hz, _, hcell, hwz⟩
  · simp at hcs
    exact ⟨none, 0, [], hcs, by simp [maxLen], Or.inl rfl⟩
  · simp at hcs
    have hz' : l ≤ zs.length := by
      have hz2 : zs.length = if sp y.block = true then c else l := by simpa using hz
      rw [hz2]; split <;> omega
    have hfl : (zs.take l).length = l := by rw [List.length_take]; omega
    refine ⟨some y, c, zs.take l, by rw [hfl]; exact hcs, by rw [hfl]; omega, ?_⟩
    by_cases h0 : l = 0
    · exact Or.inl (by rw [hfl]; exact h0)
    · right
      obtain ⟨hs, hbk⟩ := cell_spot (hcell 0 (by omega))
      obtain ⟨b, off, spot⟩ := y
      have hsp : spot = none := by simpa [Addr.add] using hs
      subst hsp
      refine ⟨b, off, rfl, by simpa [Addr.add] using hbk, fun i hi => ?_⟩
      rw [hfl] at hi
      have := hcell i (by omega)
      rw [Addr.add_lit] at this
      rw [this]
      simp [zAt, List.getD, hi]
theorem Tryd.oneKp : Deep.oneCellFields Tryd.prog #[{ name := "Low", type := 2, offset := 0, embedded := false, tag := "", pkgPath := "", byteOffset := 0 }, { name := "High", type := 2, offset := 1, embedded := false, tag := "", pkgPath := "", byteOffset := 8 }, { name := "Times", type := 79, offset := 2, embedded := false, tag := "", pkgPath := "", byteOffset := 16 }] = true := by kernel_rfl
theorem Tryd.cKpL : Tryd.prog.cellsOf 161 = 3 := by kernel_rfl
set_option maxRecDepth 100000 in
theorem open_keep {H : Type} {enc : TypeId × Value → H} {W : World} {r : Reach} {b0 : Nat} {v : Value} {d : DataW H} {p : List MemPlace} {sp : Nat → Bool} {hd : Bool} (hv : Value.okWide Tryd.prog W r b0 161 v) (h : DataW.Trod enc Tryd.prog W 0 sp hd 161 v d p) :
    ∃ lo hi a cap Z, v = kpV lo hi a (Z : List Int).length cap ∧ Z.length ≤ maxLen ∧ ArgI W a Z := by
  have hj := Joins.open_agg3 (enc := enc) (P := Tryd.prog) Tryd.underlying161 Tryd.oneKp Tryd.cKpL hv h
  obtain ⟨v0, v1, v2, y0, y1, y2, n, rfl, _, _, h0, h1, h2⟩ := hj
  obtain ⟨lo, e0, _, w0⟩ := DataW.trod_int Tryd.underlying2 h0
  obtain ⟨hi, e1, _, w1⟩ := DataW.trod_int Tryd.underlying2 h1
  obtain ⟨a, cap, Z, rfl, hI⟩ := open_times h2
  simp at e0 e1
  subst e0 e1
  exact ⟨lo, hi, a, cap, Z, rfl, hI⟩
end Go.Proofs.YtljhokoojodjnaaDoor
