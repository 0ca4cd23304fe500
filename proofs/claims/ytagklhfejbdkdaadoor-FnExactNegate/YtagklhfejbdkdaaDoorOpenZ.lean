/-
  What the listed table of words gives a walk: its ten cells. And what every row's frame asks of the program.
  Small facts on arguments that came in.
  A slice of nodes that came in, opened.
-/
import Derived.Test.YtagklhfejbdkdaaDoorWord
import Derived.ProofKit
import Derived.ChangeSame
import Derived.ChangeVars
import Derived.OpenVars
import Derived.OpenShut
import Derived.JoinedOf
import Derived.RowKit
import Derived.RowKitTokens
import Derived.LaidLaws
import Derived.LaidMore
import Derived.LaidHandle
import Derived.MakeChecks
import Derived.Stop.Joined
import Derived.Test.YtagklhfejbdkdaaDoorLaidOut
import Derived.Deep.Slices
import Derived.Test.YtagklhfejbdkdaaDoorInN
namespace Go.Proofs.YtagklhfejbdkdaaDoor
open Go.ChangeShapes Go.WideShapes Go.RowKit

theorem Tryd.own : ownKnob Tryd.prog.godebug = none := by kernel_rfl
theorem laidVars_mem {P : Program} {w : World} : ∀ {l : List (String × DataW Unit)} {ps : List MemPlace}, DataW.LaidVars P w l ps → ∀ {n : String} {d : DataW Unit}, (n, d) ∈ l →
    ∃ g t cs fuel p, P.globalNamed n = some g ∧ (P.globals[g]?).map (·.type) = some t ∧ w.var? P n = some cs ∧ DataW.trod (fun _ => ()) P w 0 (fun _ => true) false fuel t cs.toList = some (d, p)
  | [], _, _, _, _, h => by cases h
  | (n0, d0) :: r, ps, hl, n, d, h => by
    obtain ⟨g, t, cs, fuel, p, q, h1, h2, h3, h4, h5, _⟩ := hl
    rcases List.mem_cons.1 h with h | h
    · cases h; exact ⟨g, t, cs, fuel, p, h1, h2, h3, h4⟩
    · exact laidVars_mem h5 h
theorem laid_mem {P : Program} {w : World} {l : List (String × DataW Unit)} (hp : (l.all fun x => x.2.handleName?.isNone) = true) (h : laidMetH P l w) {n : String} {d : DataW Unit} (hm : (n, d) ∈ l) :
    ∃ g t cs fuel p, P.globalNamed n = some g ∧ (P.globals[g]?).map (·.type) = some t ∧ w.var? P n = some cs ∧ DataW.trod (fun _ => ()) P w 0 (fun _ => true) false fuel t cs.toList = some (d, p) := by
  rw [MakeChecks.laidMetH_plain _ _ _ hp] at h
  obtain ⟨ps, hl, _, _⟩ := h
  exact laidVars_mem hl hm
theorem trodVars_len {H : Type} {enc : TypeId × Value → H} {P : Program} {w : World} {sp : Nat → Bool} : ∀ {ns : List String} {gs : List (DataW H)} {ps : List MemPlace}, DataW.TrodVars enc P w sp ns gs ps → gs.length = ns.length
  | [], [], _, _ => rfl
  | [], _ :: _, _, h => h.elim
  | _ :: _, [], _, h => h.elim
  | n :: ns, d :: ds, ps, h => by
    obtain ⟨_, _, _, _, _, _, _, _, _, _, hs, _⟩ := h
    simp [trodVars_len hs]
theorem len1 {α : Type} {l : List α} (h : l.length = 1) : ∃ a, l = [a] := by
  match l, h with
  | [a], _ => exact ⟨a, rfl⟩
theorem len2 {α : Type} {l : List α} (h : l.length = 2) : ∃ a b, l = [a, b] := by
  match l, h with
  | [a, b], _ => exact ⟨a, b, rfl⟩
theorem Tryd.gKw : Tryd.prog.globalNamed "loop.example/g00759/impl.kindWords" = some 1 := by kernel_rfl
theorem Tryd.tKw : (Tryd.prog.globals[1]?).map (·.type) = some 130 := by kernel_rfl
theorem Tryd.uKw : Tryd.prog.underlying 130 = some (.array 10 9) := by kernel_rfl
theorem Tryd.cKw : Tryd.prog.cellsOf 130 = 10 := by kernel_rfl
theorem Tryd.cStr : Tryd.prog.cellsOf 9 = 1 := by kernel_rfl
theorem Tryd.uStr : Tryd.prog.underlying 9 = some .string := by kernel_rfl
theorem str_ext {s : ByteArray} {l : List UInt8} (h : s.data.toList = l) : s = ⟨l.toArray⟩ := by
  obtain ⟨⟨d⟩⟩ := s
  simp at h
  subst h
  rfl
theorem kw_of_laid {l : List (String × DataW Unit)} (hp : (l.all fun x => x.2.handleName?.isNone) = true) {W : World} (h : laidMetH Tryd.prog l W)
    (hm : ("loop.example/g00759/impl.kindWords", Rows.laid_loop_example_g00759_impl_kindWords) ∈ l) : Kw W := by
  obtain ⟨g, t, cs, fuel, p, hg, ht, hv, hd⟩ := laid_mem hp h hm
  obtain rfl := Option.some.inj (Tryd.gKw.symm.trans hg)
  obtain rfl := Option.some.inj (Tryd.tKw.symm.trans ht)
  obtain ⟨xs, m, rfl, hx, hlen, hn, hel⟩ := DataW.trod_array Tryd.uKw hd
  rw [Tryd.cKw] at hlen
  rw [Tryd.cStr] at hel
  have hx1 : xs.map (·.1) = [.lit (.string []), .lit (.string [116, 114, 117, 101]), .lit (.string []), .lit (.string [110, 111, 116]), .lit (.string [97, 110, 100]), .lit (.string [111, 114]), .lit (.string [112, 114, 101, 118]), .lit (.string [111, 110, 99, 101]), .lit (.string [104, 105, 115, 116]), .lit (.string [115, 105, 110, 99, 101])] := by
    have h1 : Rows.laid_loop_example_g00759_impl_kindWords = DataW.agg (xs.map (·.1)) := congrArg Prod.fst hx
    unfold Rows.laid_loop_example_g00759_impl_kindWords at h1
    rw [DataW.agg.injEq] at h1
    exact h1.symm
  have cell : ∀ (i : Nat) (u : List UInt8), i < 10 → (xs.map (·.1))[i]? = some (.lit (.string u)) → W.cell? ⟨1, i, none⟩ = some (.string ⟨u.toArray⟩) := by
    intro i u hi hu
    have h1 := hel i hi
    have h2 : i < xs.length := by omega
    rw [List.getElem?_eq_getElem h2] at h1
    obtain ⟨s, e1, e2, _⟩ := DataW.trod_string Tryd.uStr h1
    rw [List.getElem?_map, List.getElem?_eq_getElem h2, e2] at hu
    simp at hu
    have hc := World.var?_cell hg hv i
    have hcs : cs[i]? = some (.string s) := by
      have h3 : (cs.toList.drop i)[0]? = some (.string s) := by
        have h4 : ((cs.toList.drop (i * 1)).take 1)[0]? = some (.string s) := by rw [e1]; rfl
        rw [Nat.mul_one, List.getElem?_take] at h4
        simpa using h4
      rw [List.getElem?_drop] at h3
      simpa using h3
    rw [hc, hcs, str_ext hu]
  rw [hx1] at cell
  exact ⟨cell 0 _ (by decide) rfl, cell 1 _ (by decide) rfl, cell 2 _ (by decide) rfl, cell 3 _ (by decide) rfl, cell 4 _ (by decide) rfl, cell 5 _ (by decide) rfl, cell 6 _ (by decide) rfl, cell 7 _ (by decide) rfl, cell 8 _ (by decide) rfl, cell 9 _ (by decide) rfl⟩
end Go.Proofs.YtagklhfejbdkdaaDoor
namespace Go.Proofs.YtagklhfejbdkdaaDoor
open Go.ChangeShapes Go.WideShapes Go.RowKit
set_option linter.unusedVariables false
set_option linter.unusedSimpArgs false
theorem bounds64 {n : Int} (h : (Lit.int .i64 n).wf = true) : -9223372036854775808 ≤ n ∧ n ≤ 9223372036854775807 := by
  simpa [Lit.wf, IntKind.min, IntKind.max, IntKind.signed, IntKind.bits] using h
theorem one_cell {cs : List Value} {o : Nat} {v : Value} (h : (cs.drop o).take 1 = [v]) : cs[o]? = some v := by
  have h1 : ((cs.drop o).take 1)[0]? = some v := by rw [h]; rfl
  rw [List.getElem?_take] at h1
  simpa using h1
theorem spot_none {w : World} {a : Addr} {v : Value} (h : w.cell? a = some v) : a.spot = none ∧ a.block < w.heap.size := by
  unfold World.cell? at h
  split at h
  · rename_i c t fr hb
    split at h
    · cases h
    · rename_i hs
      exact ⟨by simpa using hs, (Array.getElem?_eq_some_iff.1 hb).1⟩
  · cases h
end Go.Proofs.YtagklhfejbdkdaaDoor
namespace Go.Proofs.YtagklhfejbdkdaaDoor
open Go.ChangeShapes Go.WideShapes Go.RowKit
set_option linter.unusedVariables false
set_option linter.unusedSimpArgs false
theorem Tryd.cLNd : Tryd.prog.cellsOf 40 = 6 := by kernel_rfl
theorem cells6 {w : World} {base : Nat} {a : Addr} {cs : List Value} (h : w.cells? base a 6 = some cs) : ∀ j, j < 6 → w.cell? (a.add j) = cs[j]? := by
  unfold World.cells? at h
  split at h
  · intro j hj
    exact mapM_some_get h j j (by simp [hj])
  · cases h
theorem open_node {H : Type} {enc : TypeId × Value → H} {w : World} {base : Nat} {spare : Nat → Bool} {held : Bool} {fuel : Nat} {cs : List Value} {x : DataW H × List MemPlace} (h : DataW.trod enc Tryd.prog w base spare held fuel 40 cs = some x) :
    ∃ y : Nd, ndOk y ∧ cs[0]? = some (.int .i64 y.k) ∧ cs[1]? = some (.int .i64 y.a) ∧ cs[2]? = some (.int .i64 y.b) ∧ cs[3]? = some (.int .i64 y.lo) ∧ cs[4]? = some (.int .i64 y.hi) ∧ cs[5]? = some (.string y.nm) := by
  obtain ⟨xs, n, rfl, rfl, hlen, hxs, hf⟩ := DataW.trod_struct Tryd.underlying40 h
  simp at hxs
  have g0 : DataW.trod enc Tryd.prog w base spare held n 2 ((cs.drop 0).take (Tryd.prog.cellsOf 2)) = xs[0]? := hf 0 _ rfl
  have g1 : DataW.trod enc Tryd.prog w base spare held n 2 ((cs.drop 1).take (Tryd.prog.cellsOf 2)) = xs[1]? := hf 1 _ rfl
  have g2 : DataW.trod enc Tryd.prog w base spare held n 2 ((cs.drop 2).take (Tryd.prog.cellsOf 2)) = xs[2]? := hf 2 _ rfl
  have g3 : DataW.trod enc Tryd.prog w base spare held n 2 ((cs.drop 3).take (Tryd.prog.cellsOf 2)) = xs[3]? := hf 3 _ rfl
  have g4 : DataW.trod enc Tryd.prog w base spare held n 2 ((cs.drop 4).take (Tryd.prog.cellsOf 2)) = xs[4]? := hf 4 _ rfl
  have g5 : DataW.trod enc Tryd.prog w base spare held n 9 ((cs.drop 5).take (Tryd.prog.cellsOf 9)) = xs[5]? := hf 5 _ rfl
  simp only [Tryd.cI64, Tryd.cSt] at g0 g1 g2 g3 g4 g5
  rw [List.getElem?_eq_getElem (by omega)] at g0 g1 g2 g3 g4 g5
  obtain ⟨k, e0, _, w0⟩ := DataW.trod_int Tryd.underlying2 g0
  obtain ⟨a, e1, _, w1⟩ := DataW.trod_int Tryd.underlying2 g1
  obtain ⟨b, e2, _, w2⟩ := DataW.trod_int Tryd.underlying2 g2
  obtain ⟨lo, e3, _, w3⟩ := DataW.trod_int Tryd.underlying2 g3
  obtain ⟨hi, e4, _, w4⟩ := DataW.trod_int Tryd.underlying2 g4
  obtain ⟨nm, e5, _, w5⟩ := DataW.trod_string Tryd.underlying9 g5
  exact ⟨(k, a, b, lo, hi, nm), ⟨bounds64 w0, bounds64 w1, bounds64 w2, bounds64 w3, bounds64 w4, w5⟩, one_cell e0, one_cell e1, one_cell e2, one_cell e3, one_cell e4, one_cell e5⟩
theorem ndAt_map (X : Nat → Nd) (n i : Nat) (h : i < n) : ndAt ((List.range n).map X) i = X i := by
  simp [ndAt, List.getD, h]
theorem open_nodes {H : Type} {enc : TypeId × Value → H} {W : World} {v : Value} {d : DataW H} {p : List MemPlace} (hv : v.cells.toList = [v]) (h : DataW.Trod enc Tryd.prog W 0 (fun _ => true) true 22 v d p) :
    ∃ a cap f, v = .slice a (f : List Nd).length cap ∧ InN W a cap f := by
  obtain ⟨fuel, h⟩ := h
  rw [hv] at h
  rcases Deep.open_slice Tryd.underlying22 h with ⟨hcs, _⟩ | ⟨a, len, cap, m, n, D, Pl, hcs, _, hlc, hcm, hm, _, hel⟩
  · simp at hcs
    exact ⟨none, 0, [], hcs, Or.inl rfl, fun i h => by simp at h, by simp [maxLen]⟩
  · simp at hcs
    simp at hm
    have hnode : ∀ i, i < len → ∃ y : Nd, ndOk y ∧ ∀ j, j < 6 → W.cell? ((a.add (i * 6)).add j) = (ndCells y)[j]? := by
      intro i hi
      obtain ⟨cs', h1, h2⟩ := hel i (by omega)
      rw [Tryd.cLNd] at h1
      obtain ⟨y, hok, e0, e1, e2, e3, e4, e5⟩ := open_node h2
      refine ⟨y, hok, fun j hj => ?_⟩
      rw [cells6 h1 j hj]
      have hc : j = 0 ∨ j = 1 ∨ j = 2 ∨ j = 3 ∨ j = 4 ∨ j = 5 := by omega
      rcases hc with rfl | rfl | rfl | rfl | rfl | rfl
      · exact e0
      · exact e1
      · exact e2
      · exact e3
      · exact e4
      · exact e5
    haveI : Inhabited Nd := ⟨nd0⟩
    obtain ⟨X, hX⟩ := Deep.choose_lt hnode
    have hfl : ((List.range len).map X).length = len := by simp
    refine ⟨some a, cap, (List.range len).map X, by rw [hfl]; exact hcs, ?_, fun i hi => ?_, by rw [hfl]; omega⟩
    · by_cases h0 : len = 0
      · exact Or.inl (by rw [hfl]; exact h0)
      · right
        have hc0 := (hX 0 (by omega)).2 0 (by decide)
        obtain ⟨hs, hbk⟩ := spot_none (show W.cell? ((a.add (0 * 6)).add 0) = some _ from hc0)
        obtain ⟨b, off, spot⟩ := a
        have hsp : spot = none := by simpa [Addr.add] using hs
        subst hsp
        refine ⟨b, off, rfl, by simpa [Addr.add] using hbk, fun i hi => ?_⟩
        rw [hfl] at hi
        rw [ndAt_map X len i hi]
        have key : ∀ j, j < 6 → W.cell? ⟨b, off + i * 6 + j, none⟩ = (ndCells (X i))[j]? := by
          intro j hj
          have := (hX i hi).2 j hj
          rw [Addr.add_lit, Addr.add_lit] at this
          exact this
        exact ⟨key 0 (by decide), key 1 (by decide), key 2 (by decide), key 3 (by decide), key 4 (by decide), key 5 (by decide)⟩
    · rw [hfl] at hi
      rw [ndAt_map X len i hi]
      exact (hX i hi).1
end Go.Proofs.YtagklhfejbdkdaaDoor
