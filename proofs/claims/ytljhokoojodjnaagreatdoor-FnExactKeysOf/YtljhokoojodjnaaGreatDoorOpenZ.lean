/-
  What the listed table of words gives a walk: its ten cells. And what every row's frame asks of the program.
  Small facts on arguments that came in.
  A slice of nodes that came in, opened.
  A Keep that came in, opened.
  A Monitor that came in, opened.
  A Table that came in, opened.
-/
import Derived.Test.YtljhokoojodjnaaGreatDoorWord
import Derived.ProofKit
import Derived.ChangeSame
import Derived.ChangeVars
import Derived.OpenVars
import Derived.OpenShut
import Derived.JoinedOf
import Derived.RowKit
import Derived.RowKitTokens
import Derived.LaidLaws
import Derived.LaidMore
import Derived.LaidHandle
import Derived.MakeChecks
import Derived.Stop.Joined
import Derived.Test.YtljhokoojodjnaaGreatDoorLaidOut
import Derived.Deep.Slices
import Derived.Test.YtljhokoojodjnaaGreatDoorInN
import Derived.Test.YtljhokoojodjnaaGreatDoorKpB
import Derived.ChangeOld
import Derived.Below
import Derived.Lib.SmallJoins
import Derived.Test.YtljhokoojodjnaaGreatDoorCkM
import Derived.Test.YtljhokoojodjnaaGreatDoorTabY
namespace Go.Proofs.YtljhokoojodjnaaGreatDoor
open Go.ChangeShapes Go.WideShapes Go.RowKit

theorem Tryz.own : ownKnob Tryz.prog.godebug = none := by kernel_rfl
theorem laidVars_mem {P : Program} {w : World} : ∀ {l : List (String × DataW Unit)} {ps : List MemPlace}, DataW.LaidVars P w l ps → ∀ {n : String} {d : DataW Unit}, (n, d) ∈ l →
    ∃ g t cs fuel p, P.globalNamed n = some g ∧ (P.globals[g]?).map (·.type) = some t ∧ w.var? P n = some cs ∧ DataW.trod (fun _ => ()) P w 0 (fun _ => true) false fuel t cs.toList = some (d, p)
  | [], _, _, _, _, h => by cases h
  | (n0, d0) :: r, ps, hl, n, d, h => by
    obtain ⟨g, t, cs, fuel, p, q, h1, h2, h3, h4, h5, _⟩ := hl
    rcases List.mem_cons.1 h with h | h
    · cases h; exact ⟨g, t, cs, fuel, p, h1, h2, h3, h4⟩
    · exact laidVars_mem h5 h
theorem laid_mem {P : Program} {w : World} {l : List (String × DataW Unit)} (hp : (l.all fun x => x.2.handleName?.isNone) = true) (h : laidMetH P l w) {n : String} {d : DataW Unit} (hm : (n, d) ∈ l) :
    ∃ g t cs fuel p, P.globalNamed n = some g ∧ (P.globals[g]?).map (·.type) = some t ∧ w.var? P n = some cs ∧ DataW.trod (fun _ => ()) P w 0 (fun _ => true) false fuel t cs.toList = some (d, p) := by
  rw [MakeChecks.laidMetH_plain _ _ _ hp] at h
  obtain ⟨ps, hl, _, _⟩ := h
  exact laidVars_mem hl hm
theorem trodVars_len {H : Type} {enc : TypeId × Value → H} {P : Program} {w : World} {sp : Nat → Bool} : ∀ {ns : List String} {gs : List (DataW H)} {ps : List MemPlace}, DataW.TrodVars enc P w sp ns gs ps → gs.length = ns.length
  | [], [], _, _ => rfl
  | [], _ :: _, _, h => h.elim
  | _ :: _, [], _, h => h.elim
  | n :: ns, d :: ds, ps, h => by
    obtain ⟨_, _, _, _, _, _, _, _, _, _, hs, _⟩ := h
    simp [trodVars_len hs]
theorem len1 {α : Type} {l : List α} (h : l.length = 1) : ∃ a, l = [a] := by
  match l, h with
  | [a], _ => exact ⟨a, rfl⟩
theorem len2 {α : Type} {l : List α} (h : l.length = 2) : ∃ a b, l = [a, b] := by
  match l, h with
  | [a, b], _ => exact ⟨a, b, rfl⟩
theorem Tryz.gKw : Tryz.prog.globalNamed "loop.example/g00759/impl.kindWords" = some 0 := by kernel_rfl
theorem Tryz.tKw : (Tryz.prog.globals[0]?).map (·.type) = some 173 := by kernel_rfl
theorem Tryz.uKw : Tryz.prog.underlying 173 = some (.array 10 9) := by kernel_rfl
theorem Tryz.cKw : Tryz.prog.cellsOf 173 = 10 := by kernel_rfl
theorem Tryz.cStr : Tryz.prog.cellsOf 9 = 1 := by kernel_rfl
theorem Tryz.uStr : Tryz.prog.underlying 9 = some .string := by kernel_rfl
theorem str_ext {s : ByteArray} {l : List UInt8} (h : s.data.toList = l) : s = ⟨l.toArray⟩ := by
  obtain ⟨⟨d⟩⟩ := s
  simp at h
  subst h
  rfl
theorem kw_of_laid {l : List (String × DataW Unit)} (hp : (l.all fun x => x.2.handleName?.isNone) = true) {W : World} (h : laidMetH Tryz.prog l W)
    (hm : ("loop.example/g00759/impl.kindWords", Rows.laid_loop_example_g00759_impl_kindWords) ∈ l) : Kw W := by
  obtain ⟨g, t, cs, fuel, p, hg, ht, hv, hd⟩ := laid_mem hp h hm
  obtain rfl := Option.some.inj (Tryz.gKw.symm.trans hg)
  obtain rfl := Option.some.inj (Tryz.tKw.symm.trans ht)
  obtain ⟨xs, m, rfl, hx, hlen, hn, hel⟩ := DataW.trod_array Tryz.uKw hd
  rw [Tryz.cKw] at hlen
  rw [Tryz.cStr] at hel
  have hx1 : xs.map (·.1) = [.lit (.string []), .lit (.string [116, 114, 117, 101]), .lit (.string []), .lit (.string [110, 111, 116]), .lit (.string [97, 110, 100]), .lit (.string [111, 114]), .lit (.string [112, 114, 101, 118]), .lit (.string [111, 110, 99, 101]), .lit (.string [104, 105, 115, 116]), .lit (.string [115, 105, 110, 99, 101])] := by
    have h1 : Rows.laid_loop_example_g00759_impl_kindWords = DataW.agg (xs.map (·.1)) := congrArg Prod.fst hx
    unfold Rows.laid_loop_example_g00759_impl_kindWords at h1
    rw [DataW.agg.injEq] at h1
    exact h1.symm
  have cell : ∀ (i : Nat) (u : List UInt8), i < 10 → (xs.map (·.1))[i]? = some (.lit (.string u)) → W.cell? ⟨0, i, none⟩ = some (.string ⟨u.toArray⟩) := by
    intro i u hi hu
    have h1 := hel i hi
    have h2 : i < xs.length := by omega
    rw [List.getElem?_eq_getElem h2] at h1
    obtain ⟨s, e1, e2, _⟩ := DataW.trod_string Tryz.uStr h1
    rw [List.getElem?_map, List.getElem?_eq_getElem h2, e2] at hu
    simp at hu
    have hc := World.var?_cell hg hv i
    have hcs : cs[i]? = some (.string s) := by
      have h3 : (cs.toList.drop i)[0]? = some (.string s) := by
        have h4 : ((cs.toList.drop (i * 1)).take 1)[0]? = some (.string s) := by rw [e1]; rfl
        rw [Nat.mul_one, List.getElem?_take] at h4
        simpa using h4
      rw [List.getElem?_drop] at h3
      simpa using h3
    rw [hc, hcs, str_ext hu]
  rw [hx1] at cell
  exact ⟨cell 0 _ (by decide) rfl, cell 1 _ (by decide) rfl, cell 2 _ (by decide) rfl, cell 3 _ (by decide) rfl, cell 4 _ (by decide) rfl, cell 5 _ (by decide) rfl, cell 6 _ (by decide) rfl, cell 7 _ (by decide) rfl, cell 8 _ (by decide) rfl, cell 9 _ (by decide) rfl⟩
end Go.Proofs.YtljhokoojodjnaaGreatDoor
namespace Go.Proofs.YtljhokoojodjnaaGreatDoor
open Go.ChangeShapes Go.WideShapes Go.RowKit
set_option linter.unusedVariables false
set_option linter.unusedSimpArgs false
theorem bounds64 {n : Int} (h : (Lit.int .i64 n).wf = true) : -9223372036854775808 ≤ n ∧ n ≤ 9223372036854775807 := by
  simpa [Lit.wf, IntKind.min, IntKind.max, IntKind.signed, IntKind.bits] using h
theorem one_cell {cs : List Value} {o : Nat} {v : Value} (h : (cs.drop o).take 1 = [v]) : cs[o]? = some v := by
  have h1 : ((cs.drop o).take 1)[0]? = some v := by rw [h]; rfl
  rw [List.getElem?_take] at h1
  simpa using h1
theorem spot_none {w : World} {a : Addr} {v : Value} (h : w.cell? a = some v) : a.spot = none ∧ a.block < w.heap.size := by
  unfold World.cell? at h
  split at h
  · rename_i c t fr hb
    split at h
    · cases h
    · rename_i hs
      exact ⟨by simpa using hs, (Array.getElem?_eq_some_iff.1 hb).1⟩
  · cases h
end Go.Proofs.YtljhokoojodjnaaGreatDoor
namespace Go.Proofs.YtljhokoojodjnaaGreatDoor
open Go.ChangeShapes Go.WideShapes Go.RowKit
set_option linter.unusedVariables false
set_option linter.unusedSimpArgs false
theorem Tryz.cLNd : Tryz.prog.cellsOf 157 = 6 := by kernel_rfl
theorem cells6 {w : World} {base : Nat} {a : Addr} {cs : List Value} (h : w.cells? base a 6 = some cs) : ∀ j, j < 6 → w.cell? (a.add j) = cs[j]? := by
  unfold World.cells? at h
  split at h
  · intro j hj
    exact mapM_some_get h j j (by simp [hj])
  · cases h
theorem open_node {H : Type} {enc : TypeId × Value → H} {w : World} {base : Nat} {spare : Nat → Bool} {held : Bool} {fuel : Nat} {cs : List Value} {x : DataW H × List MemPlace} (h : DataW.trod enc Tryz.prog w base spare held fuel 157 cs = some x) :
    ∃ y : Nd, ndOk y ∧ cs[0]? = some (.int .i64 y.k) ∧ cs[1]? = some (.int .i64 y.a) ∧ cs[2]? = some (.int .i64 y.b) ∧ cs[3]? = some (.int .i64 y.lo) ∧ cs[4]? = some (.int .i64 y.hi) ∧ cs[5]? = some (.string y.nm) := by
  obtain ⟨xs, n, rfl, rfl, hlen, hxs, hf⟩ := DataW.trod_struct Tryz.underlying157 h
  simp at hxs
  have g0 : DataW.trod enc Tryz.prog w base spare held n 2 ((cs.drop 0).take (Tryz.prog.cellsOf 2)) = xs[0]? := hf 0 _ rfl
  have g1 : DataW.trod enc Tryz.prog w base spare held n 2 ((cs.drop 1).take (Tryz.prog.cellsOf 2)) = xs[1]? := hf 1 _ rfl
  have g2 : DataW.trod enc Tryz.prog w base spare held n 2 ((cs.drop 2).take (Tryz.prog.cellsOf 2)) = xs[2]? := hf 2 _ rfl
  have g3 : DataW.trod enc Tryz.prog w base spare held n 2 ((cs.drop 3).take (Tryz.prog.cellsOf 2)) = xs[3]? := hf 3 _ rfl
  have g4 : DataW.trod enc Tryz.prog w base spare held n 2 ((cs.drop 4).take (Tryz.prog.cellsOf 2)) = xs[4]? := hf 4 _ rfl
  have g5 : DataW.trod enc Tryz.prog w base spare held n 9 ((cs.drop 5).take (Tryz.prog.cellsOf 9)) = xs[5]? := hf 5 _ rfl
  simp only [Tryz.cI64, Tryz.cSt] at g0 g1 g2 g3 g4 g5
  rw [List.getElem?_eq_getElem (by omega)] at g0 g1 g2 g3 g4 g5
  obtain ⟨k, e0, _, w0⟩ := DataW.trod_int Tryz.underlying2 g0
  obtain ⟨a, e1, _, w1⟩ := DataW.trod_int Tryz.underlying2 g1
  obtain ⟨b, e2, _, w2⟩ := DataW.trod_int Tryz.underlying2 g2
  obtain ⟨lo, e3, _, w3⟩ := DataW.trod_int Tryz.underlying2 g3
  obtain ⟨hi, e4, _, w4⟩ := DataW.trod_int Tryz.underlying2 g4
  obtain ⟨nm, e5, _, w5⟩ := DataW.trod_string Tryz.underlying9 g5
  exact ⟨(k, a, b, lo, hi, nm), ⟨bounds64 w0, bounds64 w1, bounds64 w2, bounds64 w3, bounds64 w4, w5⟩, one_cell e0, one_cell e1, one_cell e2, one_cell e3, one_cell e4, one_cell e5⟩
theorem ndAt_map (X : Nat → Nd) (n i : Nat) (h : i < n) : ndAt ((List.range n).map X) i = X i := by
  simp [ndAt, List.getD, h]
theorem open_nodes {H : Type} {enc : TypeId × Value → H} {W : World} {v : Value} {d : DataW H} {p : List MemPlace} (hv : v.cells.toList = [v]) (h : DataW.Trod enc Tryz.prog W 0 (fun _ => true) true 56 v d p) :
    ∃ a cap f, v = .slice a (f : List Nd).length cap ∧ InN W a cap f := by
  obtain ⟨fuel, h⟩ := h
  rw [hv] at h
  rcases Deep.open_slice Tryz.underlying56 h with ⟨hcs, _⟩ | ⟨a, len, cap, m, n, D, Pl, hcs, _, hlc, hcm, hm, _, hel⟩
  · simp at hcs
    exact ⟨none, 0, [], hcs, Or.inl rfl, fun i h => by simp at h, by simp [maxLen]⟩
  · simp at hcs
    simp at hm
    have hnode : ∀ i, i < len → ∃ y : Nd, ndOk y ∧ ∀ j, j < 6 → W.cell? ((a.add (i * 6)).add j) = (ndCells y)[j]? := by
      intro i hi
      obtain ⟨cs', h1, h2⟩ := hel i (by omega)
      rw [Tryz.cLNd] at h1
      obtain ⟨y, hok, e0, e1, e2, e3, e4, e5⟩ := open_node h2
      refine ⟨y, hok, fun j hj => ?_⟩
      rw [cells6 h1 j hj]
      have hc : j = 0 ∨ j = 1 ∨ j = 2 ∨ j = 3 ∨ j = 4 ∨ j = 5 := by omega
      rcases hc with rfl | rfl | rfl | rfl | rfl | rfl
      · exact e0
      · exact e1
      · exact e2
      · exact e3
      · exact e4
      · exact e5
    haveI : Inhabited Nd := ⟨nd0⟩
    obtain ⟨X, hX⟩ := Deep.choose_lt hnode
    have hfl : ((List.range len).map X).length = len := by simp
    refine ⟨some a, cap, (List.range len).map X, by rw [hfl]; exact hcs, ?_, fun i hi => ?_, by rw [hfl]; omega⟩
    · by_cases h0 : len = 0
      · exact Or.inl (by rw [hfl]; exact h0)
      · right
        have hc0 := (hX 0 (by omega)).2 0 (by decide)
        obtain ⟨hs, hbk⟩ := spot_none (show W.cell? ((a.add (0 * 6)).add 0) = some _ from hc0)
        obtain ⟨b, off, spot⟩ := a
        have hsp : spot = none := by simpa [Addr.add] using hs
        subst hsp
        refine ⟨b, off, rfl, by simpa [Addr.add] using hbk, fun i hi => ?_⟩
        rw [hfl] at hi
        rw [ndAt_map X len i hi]
        have key : ∀ j, j < 6 → W.cell? ⟨b, off + i * 6 + j, none⟩ = (ndCells (X i))[j]? := by
          intro j hj
          have := (hX i hi).2 j hj
          rw [Addr.add_lit, Addr.add_lit] at this
          exact this
        exact ⟨key 0 (by decide), key 1 (by decide), key 2 (by decide), key 3 (by decide), key 4 (by decide), key 5 (by decide)⟩
    · rw [hfl] at hi
      rw [ndAt_map X len i hi]
      exact (hX i hi).1
end Go.Proofs.YtljhokoojodjnaaGreatDoor
namespace Go.Proofs.YtljhokoojodjnaaGreatDoor
open Go.ChangeShapes Go.WideShapes Go.RowKit
set_option linter.unusedVariables false
set_option linter.unusedSimpArgs false
theorem cell_spot {w : World} {a : Addr} {v : Value} (h : w.cell? a = some v) : a.spot = none ∧ a.block < w.heap.size := by
  unfold World.cell? at h
  split at h
  · rename_i c t fr hb
    split at h
    · cases h
    · rename_i hs
      exact ⟨by simpa using hs, (Array.getElem?_eq_some_iff.1 hb).1⟩
  · cases h
theorem open_times {H : Type} {enc : TypeId × Value → H} {W : World} {v : Value} {x : DataW H × List MemPlace} {sp : Nat → Bool} {hd : Bool} {fuel : Nat} (h : DataW.trod enc Tryz.prog W 0 sp hd fuel 101 [v] = some x) :
    ∃ a cap Z, v = .slice a (Z : List Int).length cap ∧ Z.length ≤ maxLen ∧ ArgI W a Z := by
  rcases open_ints Tryz.underlying101 Tryz.underlying2 (by kernel_rfl) h with ⟨hcs, _⟩ | ⟨y, l, c, zs, hcs, _, hl, hm, hz, _, hcell, hwz⟩
  · simp at hcs
    exact ⟨none, 0, [], hcs, by simp [maxLen], Or.inl rfl⟩
  · simp at hcs
    have hz' : l ≤ zs.length := by
      have hz2 : zs.length = if sp y.block = true then c else l := by simpa using hz
      rw [hz2]; split <;> omega
    have hfl : (zs.take l).length = l := by rw [List.length_take]; omega
    refine ⟨some y, c, zs.take l, by rw [hfl]; exact hcs, by rw [hfl]; omega, ?_⟩
    by_cases h0 : l = 0
    · exact Or.inl (by rw [hfl]; exact h0)
    · right
      obtain ⟨hs, hbk⟩ := cell_spot (hcell 0 (by omega))
      obtain ⟨b, off, spot⟩ := y
      have hsp : spot = none := by simpa [Addr.add] using hs
      subst hsp
      refine ⟨b, off, rfl, by simpa [Addr.add] using hbk, fun i hi => ?_⟩
      rw [hfl] at hi
      have := hcell i (by omega)
      rw [Addr.add_lit] at this
      rw [this]
      simp [zAt, List.getD, hi]
theorem Tryz.oneKp : Deep.oneCellFields Tryz.prog #[{ name := "Low", type := 2, offset := 0, embedded := false, tag := "", pkgPath := "", byteOffset := 0 }, { name := "High", type := 2, offset := 1, embedded := false, tag := "", pkgPath := "", byteOffset := 8 }, { name := "Times", type := 101, offset := 2, embedded := false, tag := "", pkgPath := "", byteOffset := 16 }] = true := by kernel_rfl
theorem Tryz.cKpL : Tryz.prog.cellsOf 264 = 3 := by kernel_rfl
set_option maxRecDepth 100000 in
theorem open_keep {H : Type} {enc : TypeId × Value → H} {W : World} {r : Reach} {b0 : Nat} {v : Value} {d : DataW H} {p : List MemPlace} {sp : Nat → Bool} {hd : Bool} (hv : Value.okWide Tryz.prog W r b0 264 v) (h : DataW.Trod enc Tryz.prog W 0 sp hd 264 v d p) :
    ∃ lo hi a cap Z, v = kpV lo hi a (Z : List Int).length cap ∧ Z.length ≤ maxLen ∧ ArgI W a Z := by
  have hj := Joins.open_agg3 (enc := enc) (P := Tryz.prog) Tryz.underlying264 Tryz.oneKp Tryz.cKpL hv h
  obtain ⟨v0, v1, v2, y0, y1, y2, n, rfl, _, _, h0, h1, h2⟩ := hj
  obtain ⟨lo, e0, _, w0⟩ := DataW.trod_int Tryz.underlying2 h0
  obtain ⟨hi, e1, _, w1⟩ := DataW.trod_int Tryz.underlying2 h1
  obtain ⟨a, cap, Z, rfl, hI⟩ := open_times h2
  simp at e0 e1
  subst e0 e1
  exact ⟨lo, hi, a, cap, Z, rfl, hI⟩
end Go.Proofs.YtljhokoojodjnaaGreatDoor
namespace Go.Proofs.YtljhokoojodjnaaGreatDoor
open Go.ChangeShapes Go.WideShapes Go.RowKit
set_option linter.unusedVariables false
set_option linter.unusedSimpArgs false
theorem Tryz.cCkL : Tryz.prog.cellsOf 266 = 4 := by kernel_rfl
theorem Tryz.coI64 : Tryz.prog.cellsOf 2 = 1 := by kernel_rfl
theorem Tryz.coIs : Tryz.prog.cellsOf 101 = 1 := by kernel_rfl
theorem Tryz.coB : Tryz.prog.cellsOf 4 = 1 := by kernel_rfl
theorem cells4 {w : World} {base : Nat} {a : Addr} {cs : List Value} (h : w.cells? base a 4 = some cs) : ∀ j, j < 4 → w.cell? (a.add j) = cs[j]? := by
  unfold World.cells? at h
  split at h
  · intro j hj
    exact mapM_some_get h j j (by simp [hj])
  · cases h
theorem take3 {cs : List Value} {o : Nat} {v : Value} (ho : o < 3) (h : (((cs.drop 0).take 3).drop o).take 1 = [v]) : cs[o]? = some v := by
  have h1 := one_cell h
  rw [List.getElem?_take] at h1
  simpa [ho] using h1
set_option maxRecDepth 100000 in
theorem open_keep_cells {H : Type} {enc : TypeId × Value → H} {w : World} {spare : Nat → Bool} {held : Bool} {fuel : Nat} {cs : List Value} {x : DataW H × List MemPlace} (h : DataW.trod enc Tryz.prog w 0 spare held fuel 264 ((cs.drop 0).take 3) = some x) :
    ∃ lo hi a cap Z, cs[0]? = some (.int .i64 lo) ∧ cs[1]? = some (.int .i64 hi) ∧ cs[2]? = some (.slice a (Z : List Int).length cap) ∧ (-9223372036854775808 ≤ lo ∧ lo ≤ 9223372036854775807) ∧ (-9223372036854775808 ≤ hi ∧ hi ≤ 9223372036854775807) ∧ Z.length ≤ maxLen ∧ ArgI w a Z := by
  obtain ⟨xs, n, rfl, rfl, hlen, hxs, hf⟩ := DataW.trod_struct Tryz.underlying264 h
  simp at hxs
  rw [Tryz.cKpL] at hlen
  have g0 : DataW.trod enc Tryz.prog w 0 spare held n 2 ((((cs.drop 0).take 3).drop 0).take (Tryz.prog.cellsOf 2)) = xs[0]? := hf 0 _ rfl
  have g1 : DataW.trod enc Tryz.prog w 0 spare held n 2 ((((cs.drop 0).take 3).drop 1).take (Tryz.prog.cellsOf 2)) = xs[1]? := hf 1 _ rfl
  have g2 : DataW.trod enc Tryz.prog w 0 spare held n 101 ((((cs.drop 0).take 3).drop 2).take (Tryz.prog.cellsOf 101)) = xs[2]? := hf 2 _ rfl
  simp only [Tryz.coI64, Tryz.coIs] at g0 g1 g2
  rw [List.getElem?_eq_getElem (by omega)] at g0 g1 g2
  obtain ⟨lo, e0, _, w0⟩ := DataW.trod_int Tryz.underlying2 g0
  obtain ⟨hi, e1, _, w1⟩ := DataW.trod_int Tryz.underlying2 g1
  obtain ⟨v, hv⟩ : ∃ v, (((cs.drop 0).take 3).drop 2).take 1 = [v] := by
    generalize (cs.drop 0).take 3 = ds at hlen
    match ds, hlen with
    | [p, q, r], _ => exact ⟨r, rfl⟩
  rw [hv] at g2
  obtain ⟨a, cap, Z, rfl, hl, hI⟩ := open_times g2
  exact ⟨lo, hi, a, cap, Z, take3 (by omega) e0, take3 (by omega) e1, take3 (by omega) hv, bounds64 w0, bounds64 w1, hl, hI⟩
set_option maxRecDepth 100000 in
theorem open_ck_cells {H : Type} {enc : TypeId × Value → H} {w : World} {spare : Nat → Bool} {held : Bool} {fuel : Nat} {cs : List Value} {x : DataW H × List MemPlace} (h : DataW.trod enc Tryz.prog w 0 spare held fuel 266 cs = some x) :
    ∃ (y : Cl) (a : Option Addr) (cap : Nat), ClOk y ∧ cs[0]? = some (.int .i64 y.lo) ∧ cs[1]? = some (.int .i64 y.hi) ∧ cs[2]? = some (.slice a y.ts.length cap) ∧ cs[3]? = some (.bool y.was) ∧ ArgI w a y.ts := by
  obtain ⟨xs, n, rfl, rfl, hlen, hxs, hf⟩ := DataW.trod_struct Tryz.underlying266 h
  simp at hxs
  have g0 : DataW.trod enc Tryz.prog w 0 spare held n 264 ((cs.drop 0).take (Tryz.prog.cellsOf 264)) = xs[0]? := hf 0 _ rfl
  have g1 : DataW.trod enc Tryz.prog w 0 spare held n 4 ((cs.drop 3).take (Tryz.prog.cellsOf 4)) = xs[1]? := hf 1 _ rfl
  simp only [Tryz.cKpL, Tryz.coB] at g0 g1
  rw [List.getElem?_eq_getElem (by omega)] at g0 g1
  obtain ⟨lo, hi, a, cap, Z, e0, e1, e2, b0, b1, hl, hI⟩ := open_keep_cells g0
  obtain ⟨was, e3, _⟩ := DataW.trod_bool Tryz.underlying4 g1
  exact ⟨⟨lo, hi, Z, was⟩, a, cap, ⟨b0, b1, hl⟩, e0, e1, e2, one_cell e3, hI⟩
theorem clAt_map (X : Nat → Cl) (n i : Nat) (h : i < n) : clAt ((List.range n).map X) i = X i := by
  simp [clAt, List.getD, h]
theorem open_cks {H : Type} {enc : TypeId × Value → H} {W : World} {v : Value} {x : DataW H × List MemPlace} {fuel : Nat} (h : DataW.trod enc Tryz.prog W 0 (fun _ => true) true fuel 159 [v] = some x) :
    ∃ a cap C, v = .slice a (C : List Cl).length cap ∧ InCs W a C := by
  rcases Deep.open_slice Tryz.underlying159 h with ⟨hcs, _⟩ | ⟨a, len, cap, m, n, D, Pl, hcs, _, hlc, hcm, hm, _, hel⟩
  · simp at hcs
    exact ⟨none, 0, [], hcs, Or.inl rfl, fun i h => by simp at h, by simp [maxLen]⟩
  · simp at hcs
    simp at hm
    have hnode : ∀ i, i < len → ∃ y : Cl, ClOk y ∧ W.cell? ((a.add (i * 4)).add 0) = some (.int .i64 y.lo) ∧ W.cell? ((a.add (i * 4)).add 1) = some (.int .i64 y.hi) ∧ W.cell? ((a.add (i * 4)).add 3) = some (.bool y.was) ∧ ∃ a' c', W.cell? ((a.add (i * 4)).add 2) = some (.slice a' y.ts.length c') ∧ ArgI W a' y.ts := by
      intro i hi
      obtain ⟨cs', h1, h2⟩ := hel i (by omega)
      rw [Tryz.cCkL] at h1
      obtain ⟨y, a', c', hok, e0, e1, e2, e3, hI⟩ := open_ck_cells h2
      exact ⟨y, hok, by rw [cells4 h1 0 (by decide)]; exact e0, by rw [cells4 h1 1 (by decide)]; exact e1, by rw [cells4 h1 3 (by decide)]; exact e3, a', c', by rw [cells4 h1 2 (by decide)]; exact e2, hI⟩
    haveI : Inhabited Cl := ⟨cl0⟩
    obtain ⟨X, hX⟩ := Deep.choose_lt hnode
    have hfl : ((List.range len).map X).length = len := by simp
    refine ⟨some a, cap, (List.range len).map X, by rw [hfl]; exact hcs, ?_, fun i hi => ?_, by rw [hfl]; omega⟩
    · by_cases h0 : len = 0
      · exact Or.inl (by rw [hfl]; exact h0)
      · right
        obtain ⟨hs, hbk⟩ := spot_none (hX 0 (by omega)).2.1
        obtain ⟨b, off, spot⟩ := a
        have hsp : spot = none := by simpa [Addr.add] using hs
        subst hsp
        refine ⟨b, off, rfl, by simpa [Addr.add] using hbk, fun i hi => ?_⟩
        rw [hfl] at hi
        rw [clAt_map X len i hi]
        obtain ⟨_, q0, q1, q3, a', c', q2, hT⟩ := hX i hi
        rw [Addr.add_lit, Addr.add_lit] at q0 q1 q2 q3
        exact ⟨q0, q1, q3, a', c', q2, hT⟩
    · rw [hfl] at hi
      rw [clAt_map X len i hi]
      exact (hX i hi).1
theorem slice_cells {H : Type} {enc : TypeId × Value → H} {W : World} {v : Value} {x : DataW H × List MemPlace} {fuel : Nat} {T E : TypeId} {sp : Nat → Bool} {hd : Bool} (hu : Tryz.prog.underlying T = some (.slice E)) (h : DataW.trod enc Tryz.prog W 0 sp hd fuel T [v] = some x) : v.cells.toList = [v] := by
  rcases Deep.open_slice hu h with ⟨hcs, _⟩ | ⟨a, len, cap, m, n, D, Pl, hcs, _⟩
  · simp at hcs
    subst hcs
    rfl
  · simp at hcs
    subst hcs
    rfl
theorem Tryz.oneMo : Deep.oneCellFields Tryz.prog #[{ name := "Formula", type := 56, offset := 0, embedded := false, tag := "", pkgPath := "", byteOffset := 0 }, { name := "Count", type := 2, offset := 1, embedded := false, tag := "", pkgPath := "", byteOffset := 24 }, { name := "Now", type := 2, offset := 2, embedded := false, tag := "", pkgPath := "", byteOffset := 32 }, { name := "Cells", type := 159, offset := 3, embedded := false, tag := "", pkgPath := "", byteOffset := 40 }] = true := by kernel_rfl
theorem Tryz.cMoL : Tryz.prog.cellsOf 161 = 4 := by kernel_rfl
set_option maxRecDepth 100000 in
theorem open_mon {H : Type} {enc : TypeId × Value → H} {W : World} {r : Reach} {b0 : Nat} {v : Value} {d : DataW H} {p : List MemPlace} (hv : Value.okWide Tryz.prog W r b0 161 v) (h : DataW.Trod enc Tryz.prog W 0 (fun _ => true) true 161 v d p) :
    ∃ fa fc f cnt now ca cc C, v = moV fa (f : List Nd).length fc cnt now ca (C : List Cl).length cc ∧ (-9223372036854775808 ≤ cnt ∧ cnt ≤ 9223372036854775807) ∧ (-9223372036854775808 ≤ now ∧ now ≤ 9223372036854775807) ∧ InN W fa fc f ∧ InCs W ca C := by
  have hj := Joins.open_agg4 (enc := enc) (P := Tryz.prog) Tryz.underlying161 Tryz.oneMo Tryz.cMoL hv h
  obtain ⟨v0, v1, v2, v3, y0, y1, y2, y3, n, rfl, _, _, h0, h1, h2, h3⟩ := hj
  obtain ⟨cnt, e1, _, w1⟩ := DataW.trod_int Tryz.underlying2 h1
  obtain ⟨now, e2, _, w2⟩ := DataW.trod_int Tryz.underlying2 h2
  have hc0 := slice_cells Tryz.underlying56 h0
  obtain ⟨fa, fc, f, rfl, hF⟩ := open_nodes (d := y0.1) (p := y0.2) hc0 ⟨n, by rw [hc0]; exact h0⟩
  obtain ⟨ca, cc, C, rfl, hC⟩ := open_cks h3
  simp at e1 e2
  subst e1 e2
  exact ⟨fa, fc, f, cnt, now, ca, cc, C, rfl, bounds64 w1, bounds64 w2, hF, hC⟩
end Go.Proofs.YtljhokoojodjnaaGreatDoor
namespace Go.Proofs.YtljhokoojodjnaaGreatDoor
open Go.ChangeShapes Go.WideShapes Go.RowKit
set_option linter.unusedVariables false
set_option linter.unusedSimpArgs false
theorem Tryz.cRwL : Tryz.prog.cellsOf 163 = 5 := by kernel_rfl
theorem Tryz.coSt : Tryz.prog.cellsOf 9 = 1 := by kernel_rfl
theorem Tryz.coNs : Tryz.prog.cellsOf 56 = 1 := by kernel_rfl
theorem Tryz.coCs : Tryz.prog.cellsOf 159 = 1 := by kernel_rfl
theorem Tryz.coMo : Tryz.prog.cellsOf 161 = 4 := by kernel_rfl
theorem cells5 {w : World} {base : Nat} {a : Addr} {cs : List Value} (h : w.cells? base a 5 = some cs) : ∀ j, j < 5 → w.cell? (a.add j) = cs[j]? := by
  unfold World.cells? at h
  split at h
  · intro j hj
    exact mapM_some_get h j j (by simp [hj])
  · cases h
theorem takeOne {cs : List Value} {m o : Nat} {v : Value} (ho : o < m) (h : ((cs.take m).drop o).take 1 = [v]) : cs[o]? = some v := by
  have h1 := one_cell h
  rw [List.getElem?_take] at h1
  simpa [ho] using h1
theorem slice_cells' {H : Type} {enc : TypeId × Value → H} {W : World} {cs : List Value} {x : DataW H × List MemPlace} {fuel : Nat} {T E : TypeId} {sp : Nat → Bool} {hd : Bool} (hu : Tryz.prog.underlying T = some (.slice E)) (h : DataW.trod enc Tryz.prog W 0 sp hd fuel T cs = some x) : ∃ v, cs = [v] ∧ v.cells.toList = [v] := by
  rcases Deep.open_slice hu h with ⟨hcs, _⟩ | ⟨a, len, cap, m, n, D, Pl, hcs, _⟩
  · exact ⟨_, hcs, rfl⟩
  · exact ⟨_, hcs, rfl⟩
theorem open_nodes' {H : Type} {enc : TypeId × Value → H} {W : World} {cs : List Value} {x : DataW H × List MemPlace} {fuel : Nat} (h : DataW.trod enc Tryz.prog W 0 (fun _ => true) true fuel 56 cs = some x) : ∃ a cap f, cs = [.slice a (f : List Nd).length cap] ∧ InN W a cap f := by
  obtain ⟨v, rfl, hv⟩ := slice_cells' Tryz.underlying56 h
  obtain ⟨a, cap, f, rfl, hI⟩ := open_nodes (d := x.1) (p := x.2) hv ⟨fuel, by rw [hv]; exact h⟩
  exact ⟨a, cap, f, rfl, hI⟩
theorem open_cks' {H : Type} {enc : TypeId × Value → H} {W : World} {cs : List Value} {x : DataW H × List MemPlace} {fuel : Nat} (h : DataW.trod enc Tryz.prog W 0 (fun _ => true) true fuel 159 cs = some x) : ∃ a cap C, cs = [.slice a (C : List Cl).length cap] ∧ InCs W a C := by
  obtain ⟨v, rfl, hv⟩ := slice_cells' Tryz.underlying159 h
  obtain ⟨a, cap, C, rfl, hI⟩ := open_cks h
  exact ⟨a, cap, C, rfl, hI⟩
set_option maxRecDepth 100000 in
theorem open_mon_cells {H : Type} {enc : TypeId × Value → H} {w : World} {fuel : Nat} {cs : List Value} {x : DataW H × List MemPlace} (h : DataW.trod enc Tryz.prog w 0 (fun _ => true) true fuel 161 cs = some x) :
    ∃ fa fc f cnt now ca cc C, cs[0]? = some (.slice fa (f : List Nd).length fc) ∧ cs[1]? = some (.int .i64 cnt) ∧ cs[2]? = some (.int .i64 now) ∧ cs[3]? = some (.slice ca (C : List Cl).length cc) ∧ (-9223372036854775808 ≤ cnt ∧ cnt ≤ 9223372036854775807) ∧ (-9223372036854775808 ≤ now ∧ now ≤ 9223372036854775807) ∧ InN w fa fc f ∧ InCs w ca C := by
  obtain ⟨xs, n, rfl, rfl, hlen, hxs, hf⟩ := DataW.trod_struct Tryz.underlying161 h
  simp at hxs
  have g0 : DataW.trod enc Tryz.prog w 0 (fun _ => true) true n 56 ((cs.drop 0).take (Tryz.prog.cellsOf 56)) = xs[0]? := hf 0 _ rfl
  have g1 : DataW.trod enc Tryz.prog w 0 (fun _ => true) true n 2 ((cs.drop 1).take (Tryz.prog.cellsOf 2)) = xs[1]? := hf 1 _ rfl
  have g2 : DataW.trod enc Tryz.prog w 0 (fun _ => true) true n 2 ((cs.drop 2).take (Tryz.prog.cellsOf 2)) = xs[2]? := hf 2 _ rfl
  have g3 : DataW.trod enc Tryz.prog w 0 (fun _ => true) true n 159 ((cs.drop 3).take (Tryz.prog.cellsOf 159)) = xs[3]? := hf 3 _ rfl
  simp only [Tryz.coI64, Tryz.coNs, Tryz.coCs] at g0 g1 g2 g3
  rw [List.getElem?_eq_getElem (by omega)] at g0 g1 g2 g3
  obtain ⟨fa, fc, f, e0, hF⟩ := open_nodes' g0
  obtain ⟨cnt, e1, _, w1⟩ := DataW.trod_int Tryz.underlying2 g1
  obtain ⟨now, e2, _, w2⟩ := DataW.trod_int Tryz.underlying2 g2
  obtain ⟨ca, cc, C, e3, hC⟩ := open_cks' g3
  exact ⟨fa, fc, f, cnt, now, ca, cc, C, one_cell e0, one_cell e1, one_cell e2, one_cell e3, bounds64 w1, bounds64 w2, hF, hC⟩
set_option maxRecDepth 100000 in
theorem open_row_cells {H : Type} {enc : TypeId × Value → H} {w : World} {fuel : Nat} {cs : List Value} {x : DataW H × List MemPlace} (h : DataW.trod enc Tryz.prog w 0 (fun _ => true) true fuel 163 cs = some x) :
    ∃ (y : Rw) (fa : Option Addr) (fc : Nat) (ca : Option Addr) (cc : Nat), RwOk y ∧ cs[0]? = some (.string y.key) ∧ cs[1]? = some (.slice fa y.f.length fc) ∧ cs[2]? = some (.int .i64 y.cnt) ∧ cs[3]? = some (.int .i64 y.now) ∧ cs[4]? = some (.slice ca y.C.length cc) ∧ ArgN w fa y.f ∧ ArgCs w ca y.C := by
  obtain ⟨xs, n, rfl, rfl, hlen, hxs, hf⟩ := DataW.trod_struct Tryz.underlying163 h
  simp at hxs
  have g0 : DataW.trod enc Tryz.prog w 0 (fun _ => true) true n 9 ((cs.drop 0).take (Tryz.prog.cellsOf 9)) = xs[0]? := hf 0 _ rfl
  have g1 : DataW.trod enc Tryz.prog w 0 (fun _ => true) true n 161 ((cs.drop 1).take (Tryz.prog.cellsOf 161)) = xs[1]? := hf 1 _ rfl
  simp only [Tryz.coSt, Tryz.coMo] at g0 g1
  rw [List.getElem?_eq_getElem (by omega)] at g0 g1
  obtain ⟨key, e0, _, w0⟩ := DataW.trod_string Tryz.underlying9 g0
  obtain ⟨fa, fc, f, cnt, now, ca, cc, C, e1, e2, e3, e4, b1, b2, hF, hC⟩ := open_mon_cells g1
  have key' : ∀ o v, o < 4 → ((cs.drop 1).take 4)[o]? = some v → cs[o + 1]? = some v := fun o v ho h => by
    rw [List.getElem?_take] at h
    simpa [ho] using h
  exact ⟨⟨key, f, cnt, now, C⟩, fa, fc, ca, cc, ⟨w0, hF.ok, hF.len, b1, b2, hC.ok, hC.len⟩, one_cell e0, key' 0 _ (by omega) e1, key' 1 _ (by omega) e2, key' 2 _ (by omega) e3, key' 3 _ (by omega) e4, hF.arg, hC.arg⟩
theorem rwAt_map (X : Nat → Rw) (n i : Nat) (h : i < n) : rwAt ((List.range n).map X) i = X i := by
  simp [rwAt, List.getD, h]
theorem open_rws {H : Type} {enc : TypeId × Value → H} {W : World} {v : Value} {x : DataW H × List MemPlace} {fuel : Nat} (h : DataW.trod enc Tryz.prog W 0 (fun _ => true) true fuel 57 [v] = some x) :
    ∃ a cap R, v = .slice a (R : List Rw).length cap ∧ InRs W a R := by
  rcases Deep.open_slice Tryz.underlying57 h with ⟨hcs, _⟩ | ⟨a, len, cap, m, n, D, Pl, hcs, _, hlc, hcm, hm, _, hel⟩
  · simp at hcs
    exact ⟨none, 0, [], hcs, Or.inl rfl, fun i h => by simp at h, by simp [maxLen]⟩
  · simp at hcs
    simp at hm
    have hnode : ∀ i, i < len → ∃ y : Rw, RwOk y ∧ W.cell? ((a.add (i * 5)).add 0) = some (.string y.key) ∧ W.cell? ((a.add (i * 5)).add 2) = some (.int .i64 y.cnt) ∧ W.cell? ((a.add (i * 5)).add 3) = some (.int .i64 y.now) ∧ (∃ a' c', W.cell? ((a.add (i * 5)).add 1) = some (.slice a' y.f.length c') ∧ ArgN W a' y.f) ∧ (∃ a' c', W.cell? ((a.add (i * 5)).add 4) = some (.slice a' y.C.length c') ∧ ArgCs W a' y.C) := by
      intro i hi
      obtain ⟨cs', h1, h2⟩ := hel i (by omega)
      rw [Tryz.cRwL] at h1
      obtain ⟨y, fa, fc, ca, cc, hok, e0, e1, e2, e3, e4, hF, hC⟩ := open_row_cells h2
      exact ⟨y, hok, by rw [cells5 h1 0 (by decide)]; exact e0, by rw [cells5 h1 2 (by decide)]; exact e2, by rw [cells5 h1 3 (by decide)]; exact e3, ⟨fa, fc, by rw [cells5 h1 1 (by decide)]; exact e1, hF⟩, ⟨ca, cc, by rw [cells5 h1 4 (by decide)]; exact e4, hC⟩⟩
    haveI : Inhabited Rw := ⟨rw0⟩
    obtain ⟨X, hX⟩ := Deep.choose_lt hnode
    have hfl : ((List.range len).map X).length = len := by simp
    refine ⟨some a, cap, (List.range len).map X, by rw [hfl]; exact hcs, ?_, fun i hi => ?_, by rw [hfl]; omega⟩
    · by_cases h0 : len = 0
      · exact Or.inl (by rw [hfl]; exact h0)
      · right
        obtain ⟨hs, hbk⟩ := spot_none (hX 0 (by omega)).2.1
        obtain ⟨b, off, spot⟩ := a
        have hsp : spot = none := by simpa [Addr.add] using hs
        subst hsp
        refine ⟨b, off, rfl, by simpa [Addr.add] using hbk, fun i hi => ?_⟩
        rw [hfl] at hi
        rw [rwAt_map X len i hi]
        obtain ⟨_, q0, q2, q3, ⟨a', c', q1, hF⟩, ⟨a'', c'', q4, hC⟩⟩ := hX i hi
        rw [Addr.add_lit, Addr.add_lit] at q0 q1 q2 q3 q4
        exact ⟨q0, q2, q3, ⟨a', c', q1, hF⟩, ⟨a'', c'', q4, hC⟩⟩
    · rw [hfl] at hi
      rw [rwAt_map X len i hi]
      exact (hX i hi).1
theorem Tryz.oneTb : Deep.oneCellFields Tryz.prog #[{ name := "Formula", type := 56, offset := 0, embedded := false, tag := "", pkgPath := "", byteOffset := 0 }, { name := "Cap", type := 2, offset := 1, embedded := false, tag := "", pkgPath := "", byteOffset := 24 }, { name := "Rows", type := 57, offset := 2, embedded := false, tag := "", pkgPath := "", byteOffset := 32 }] = true := by kernel_rfl
theorem Tryz.cTbL : Tryz.prog.cellsOf 59 = 3 := by kernel_rfl
set_option maxRecDepth 100000 in
theorem open_tab {H : Type} {enc : TypeId × Value → H} {W : World} {r : Reach} {b0 : Nat} {v : Value} {d : DataW H} {p : List MemPlace} (hv : Value.okWide Tryz.prog W r b0 59 v) (h : DataW.Trod enc Tryz.prog W 0 (fun _ => true) true 59 v d p) :
    ∃ fa fc f cap ra rc R, v = tbV fa (f : List Nd).length fc cap ra (R : List Rw).length rc ∧ (-9223372036854775808 ≤ cap ∧ cap ≤ 9223372036854775807) ∧ InT W fa fc f ra R := by
  have hj := Joins.open_agg3 (enc := enc) (P := Tryz.prog) Tryz.underlying59 Tryz.oneTb Tryz.cTbL hv h
  obtain ⟨v0, v1, v2, y0, y1, y2, n, rfl, _, _, h0, h1, h2⟩ := hj
  obtain ⟨cap, e1, _, w1⟩ := DataW.trod_int Tryz.underlying2 h1
  have hc0 := slice_cells Tryz.underlying56 h0
  obtain ⟨fa, fc, f, rfl, hF⟩ := open_nodes (d := y0.1) (p := y0.2) hc0 ⟨n, by rw [hc0]; exact h0⟩
  obtain ⟨ra, rc, R, rfl, hR⟩ := open_rws h2
  simp at e1
  subst e1
  exact ⟨fa, fc, f, cap, ra, rc, R, rfl, bounds64 w1, hF, hR⟩
end Go.Proofs.YtljhokoojodjnaaGreatDoor
