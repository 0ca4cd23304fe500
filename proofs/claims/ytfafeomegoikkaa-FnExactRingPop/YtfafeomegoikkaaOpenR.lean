/-
  A ring that came in, opened.
-/
import Derived.Test.YtfafeomegoikkaaRgB
import Derived.Test.YtfafeomegoikkaaLaidOut
import Derived.ProofKit
import Derived.OpenShut
import Derived.ChangeOld
import Derived.Below
import Derived.Deep.Slices
import Derived.Lib.SmallJoins
namespace Go.Proofs.Ytfafeomegoikkaa
open Go.ChangeShapes Go.WideShapes Go.RowKit
set_option linter.unusedVariables false
set_option linter.unusedSimpArgs false
theorem bounds64 {n : Int} (h : (Lit.int .i64 n).wf = true) : -9223372036854775808 ≤ n ∧ n ≤ 9223372036854775807 := by
  simpa [Lit.wf, IntKind.min, IntKind.max, IntKind.signed, IntKind.bits] using h
theorem one_cell {cs : List Value} {o : Nat} {v : Value} (h : (cs.drop o).take 1 = [v]) : cs[o]? = some v := by
  have h1 : ((cs.drop o).take 1)[0]? = some v := by rw [h]; rfl
  rw [List.getElem?_take] at h1
  simpa using h1
theorem spot_none {w : World} {a : Addr} {v : Value} (h : w.cell? a = some v) : a.spot = none ∧ a.block < w.heap.size := by
  unfold World.cell? at h
  split at h
  · rename_i c t fr hb
    split at h
    · cases h
    · rename_i hs
      exact ⟨by simpa using hs, (Array.getElem?_eq_some_iff.1 hb).1⟩
  · cases h
theorem Try.cCuL : Try.prog.cellsOf 99 = 2 := by kernel_rfl
theorem Try.coI64 : Try.prog.cellsOf 2 = 1 := by kernel_rfl
theorem cells2 {w : World} {base : Nat} {a : Addr} {cs : List Value} (h : w.cells? base a 2 = some cs) : ∀ j, j < 2 → w.cell? (a.add j) = cs[j]? := by
  unfold World.cells? at h
  split at h
  · intro j hj
    exact mapM_some_get h j j (by simp [hj])
  · cases h
set_option maxRecDepth 100000 in
theorem open_cup_cells {H : Type} {enc : TypeId × Value → H} {w : World} {spare : Nat → Bool} {held : Bool} {fuel : Nat} {cs : List Value} {x : DataW H × List MemPlace} (h : DataW.trod enc Try.prog w 0 spare held fuel 99 cs = some x) :
    ∃ y : Int × Int, cs[0]? = some (.int .i64 y.1) ∧ cs[1]? = some (.int .i64 y.2) := by
  obtain ⟨xs, n, rfl, rfl, hlen, hxs, hf⟩ := DataW.trod_struct Try.underlying99 h
  simp at hxs
  rw [Try.cCuL] at hlen
  have g0 : DataW.trod enc Try.prog w 0 spare held n 2 ((cs.drop 0).take (Try.prog.cellsOf 2)) = xs[0]? := hf 0 _ rfl
  have g1 : DataW.trod enc Try.prog w 0 spare held n 2 ((cs.drop 1).take (Try.prog.cellsOf 2)) = xs[1]? := hf 1 _ rfl
  simp only [Try.coI64] at g0 g1
  rw [List.getElem?_eq_getElem (by omega)] at g0 g1
  obtain ⟨s, e0, _, w0⟩ := DataW.trod_int Try.underlying2 g0
  obtain ⟨t, e1, _, w1⟩ := DataW.trod_int Try.underlying2 g1
  exact ⟨(s, t), one_cell e0, one_cell e1⟩
def flat2 (X : Nat → Int × Int) (n : Nat) : List Int := (List.range (n * 2)).map fun j => if j % 2 = 0 then (X (j / 2)).1 else (X (j / 2)).2
theorem flat2_len (X : Nat → Int × Int) (n : Nat) : (flat2 X n).length = n * 2 := by simp [flat2]
theorem flat2_at (X : Nat → Int × Int) (n j : Nat) (h : j < n * 2) : zAt (flat2 X n) j = if j % 2 = 0 then (X (j / 2)).1 else (X (j / 2)).2 := by
  simp [zAt, flat2, List.getD, h]
theorem open_cups {H : Type} {enc : TypeId × Value → H} {W : World} {v : Value} {x : DataW H × List MemPlace} {fuel : Nat} {sp : Nat → Bool} {hd : Bool} (h : DataW.trod enc Try.prog W 0 sp hd fuel 42 [v] = some x) :
    ∃ a cap n Z, v = .slice a n cap ∧ n ≤ maxLen ∧ (Z : List Int).length = n * 2 ∧ ArgI W a Z := by
  rcases Deep.open_slice Try.underlying42 h with ⟨hcs, _⟩ | ⟨a, len, cap, m, n, D, Pl, hcs, _, hlc, hcm, hm, _, hel⟩
  · simp at hcs
    exact ⟨none, 0, 0, [], hcs, by simp [maxLen], rfl, Or.inl rfl⟩
  · simp at hcs
    have hlm : len ≤ m := by
      rw [hm]; split <;> omega
    have hnode : ∀ i, i < len → ∃ y : Int × Int, W.cell? ((a.add (i * 2)).add 0) = some (.int .i64 y.1) ∧ W.cell? ((a.add (i * 2)).add 1) = some (.int .i64 y.2) := by
      intro i hi
      obtain ⟨cs', h1, h2⟩ := hel i (by omega)
      rw [Try.cCuL] at h1
      obtain ⟨y, e0, e1⟩ := open_cup_cells h2
      exact ⟨y, by rw [cells2 h1 0 (by decide)]; exact e0, by rw [cells2 h1 1 (by decide)]; exact e1⟩
    obtain ⟨X, hX⟩ := Deep.choose_lt hnode
    refine ⟨some a, cap, len, flat2 X len, hcs, by omega, flat2_len X len, ?_⟩
    by_cases h0 : len = 0
    · exact Or.inl (by rw [flat2_len]; omega)
    · right
      obtain ⟨hs, hbk⟩ := spot_none (hX 0 (by omega)).1
      obtain ⟨b, off, spot⟩ := a
      have hsp : spot = none := by simpa [Addr.add] using hs
      subst hsp
      refine ⟨b, off, rfl, by simpa [Addr.add] using hbk, fun j hj => ?_⟩
      rw [flat2_len] at hj
      rw [flat2_at X len j hj]
      obtain ⟨q0, q1⟩ := hX (j / 2) (by omega)
      rw [Addr.add_lit, Addr.add_lit] at q0 q1
      by_cases hp : j % 2 = 0
      · rw [if_pos hp, show off + j = off + j / 2 * 2 + 0 by omega]; exact q0
      · rw [if_neg hp, show off + j = off + j / 2 * 2 + 1 by omega]; exact q1
theorem Try.oneRg : Deep.oneCellFields Try.prog #[{ name := "Cap", type := 2, offset := 0, embedded := false, tag := "", pkgPath := "", byteOffset := 0 }, { name := "Head", type := 2, offset := 1, embedded := false, tag := "", pkgPath := "", byteOffset := 8 }, { name := "Tail", type := 2, offset := 2, embedded := false, tag := "", pkgPath := "", byteOffset := 16 }, { name := "Cups", type := 42, offset := 3, embedded := false, tag := "", pkgPath := "", byteOffset := 24 }] = true := by kernel_rfl
theorem Try.cRgL : Try.prog.cellsOf 44 = 4 := by kernel_rfl
set_option maxRecDepth 100000 in
theorem open_ring {H : Type} {enc : TypeId × Value → H} {W : World} {r : Reach} {b0 : Nat} {v : Value} {d : DataW H} {p : List MemPlace} {sp : Nat → Bool} {hd : Bool} (hv : Value.okWide Try.prog W r b0 44 v) (h : DataW.Trod enc Try.prog W 0 sp hd 44 v d p) :
    ∃ cap hd tl a c n Z, v = rgV cap hd tl a n c ∧ n ≤ maxLen ∧ (Z : List Int).length = n * 2 ∧ ArgI W a Z := by
  have hj := Joins.open_agg4 (enc := enc) (P := Try.prog) Try.underlying44 Try.oneRg Try.cRgL hv h
  obtain ⟨v0, v1, v2, v3, y0, y1, y2, y3, n, rfl, _, _, h0, h1, h2, h3⟩ := hj
  obtain ⟨cap, e0, _, w0⟩ := DataW.trod_int Try.underlying2 h0
  obtain ⟨hh, e1, _, w1⟩ := DataW.trod_int Try.underlying2 h1
  obtain ⟨tl, e2, _, w2⟩ := DataW.trod_int Try.underlying2 h2
  obtain ⟨a, c, m, Z, rfl, hm, hZ, hI⟩ := open_cups h3
  simp at e0 e1 e2
  subst e0 e1 e2
  exact ⟨cap, hh, tl, a, c, m, Z, rfl, hm, hZ, hI⟩
end Go.Proofs.Ytfafeomegoikkaa
