/-
  What the listed table of words gives a walk: its ten cells. And what every row's frame asks of the program.
-/
import Derived.Test.YtolckakofgllcaaDoorWord
import Derived.ProofKit
import Derived.ChangeSame
import Derived.ChangeVars
import Derived.OpenVars
import Derived.OpenShut
import Derived.JoinedOf
import Derived.RowKit
import Derived.RowKitTokens
import Derived.LaidLaws
import Derived.LaidMore
import Derived.LaidHandle
import Derived.MakeChecks
import Derived.Stop.Joined
namespace Go.Proofs.YtolckakofgllcaaDoor
open Go.ChangeShapes Go.WideShapes Go.RowKit

theorem Tryd.own : ownKnob Tryd.prog.godebug = none := by kernel_rfl
theorem laidVars_mem {P : Program} {w : World} : ∀ {l : List (String × DataW Unit)} {ps : List MemPlace}, DataW.LaidVars P w l ps → ∀ {n : String} {d : DataW Unit}, (n, d) ∈ l →
    ∃ g t cs fuel p, P.globalNamed n = some g ∧ (P.globals[g]?).map (·.type) = some t ∧ w.var? P n = some cs ∧ DataW.trod (fun _ => ()) P w 0 (fun _ => true) false fuel t cs.toList = some (d, p)
  | [], _, _, _, _, h => by cases h
  | (n0, d0) :: r, ps, hl, n, d, h => by
    obtain ⟨g, t, cs, fuel, p, q, h1, h2, h3, h4, h5, _⟩ := hl
    rcases List.mem_cons.1 h with h | h
    · cases h; exact ⟨g, t, cs, fuel, p, h1, h2, h3, h4⟩
    · exact laidVars_mem h5 h
theorem laid_mem {P : Program} {w : World} {l : List (String × DataW Unit)} (hp : (l.all fun x => x.2.handleName?.isNone) = true) (h : laidMetH P l w) {n : String} {d : DataW Unit} (hm : (n, d) ∈ l) :
    ∃ g t cs fuel p, P.globalNamed n = some g ∧ (P.globals[g]?).map (·.type) = some t ∧ w.var? P n = some cs ∧ DataW.trod (fun _ => ()) P w 0 (fun _ => true) false fuel t cs.toList = some (d, p) := by
  rw [MakeChecks.laidMetH_plain _ _ _ hp] at h
  obtain ⟨ps, hl, _, _⟩ := h
  exact laidVars_mem hl hm
theorem trodVars_len {H : Type} {enc : TypeId × Value → H} {P : Program} {w : World} {sp : Nat → Bool} : ∀ {ns : List String} {gs : List (DataW H)} {ps : List MemPlace}, DataW.TrodVars enc P w sp ns gs ps → gs.length = ns.length
  | [], [], _, _ => rfl
  | [], _ :: _, _, h => h.elim
  | _ :: _, [], _, h => h.elim
  | n :: ns, d :: ds, ps, h => by
    obtain ⟨_, _, _, _, _, _, _, _, _, _, hs, _⟩ := h
    simp [trodVars_len hs]
theorem len1 {α : Type} {l : List α} (h : l.length = 1) : ∃ a, l = [a] := by
  match l, h with
  | [a], _ => exact ⟨a, rfl⟩
theorem len2 {α : Type} {l : List α} (h : l.length = 2) : ∃ a b, l = [a, b] := by
  match l, h with
  | [a, b], _ => exact ⟨a, b, rfl⟩
theorem Tryd.gKw : Tryd.prog.globalNamed "loop.example/g00759/impl.kindWords" = some 1 := by kernel_rfl
theorem Tryd.tKw : (Tryd.prog.globals[1]?).map (·.type) = some 151 := by kernel_rfl
theorem Tryd.uKw : Tryd.prog.underlying 151 = some (.array 10 9) := by kernel_rfl
theorem Tryd.cKw : Tryd.prog.cellsOf 151 = 10 := by kernel_rfl
theorem Tryd.cStr : Tryd.prog.cellsOf 9 = 1 := by kernel_rfl
theorem Tryd.uStr : Tryd.prog.underlying 9 = some .string := by kernel_rfl
theorem str_ext {s : ByteArray} {l : List UInt8} (h : s.data.toList = l) : s = ⟨l.toArray⟩ := by
  obtain ⟨⟨d⟩⟩ := s
  simp at h
  subst h
  rfl
theorem kw_of_laid {l : List (String × DataW Unit)} (hp : (l.all fun x => x.2.handleName?.isNone) = true) {W : World} (h : laidMetH Tryd.prog l W)
    (hm : ("loop.example/g00759/impl.kindWords", Rows.laid_loop_example_g00759_impl_kindWords) ∈ l) : Kw W := by
  obtain ⟨g, t, cs, fuel, p, hg, ht, hv, hd⟩ := laid_mem hp h hm
  obtain rfl := Option.some.inj (Tryd.gKw.symm.trans hg)
  obtain rfl := Option.some.inj (Tryd.tKw.symm.trans ht)
  obtain ⟨xs, m, rfl, hx, hlen, hn, hel⟩ := DataW.trod_array Tryd.uKw hd
  rw [Tryd.cKw] at hlen
  rw [Tryd.cStr] at hel
  have hx1 : xs.map (·.1) = [.lit (.string []), .lit (.string [116, 114, 117, 101]), .lit (.string []), .lit (.string [110, 111, 116]), .lit (.string [97, 110, 100]), .lit (.string [111, 114]), .lit (.string [112, 114, 101, 118]), .lit (.string [111, 110, 99, 101]), .lit (.string [104, 105, 115, 116]), .lit (.string [115, 105, 110, 99, 101])] := by
    have h1 : Rows.laid_loop_example_g00759_impl_kindWords = DataW.agg (xs.map (·.1)) := congrArg Prod.fst hx
    unfold Rows.laid_loop_example_g00759_impl_kindWords at h1
    rw [DataW.agg.injEq] at h1
    exact h1.symm
  have cell : ∀ (i : Nat) (u : List UInt8), i < 10 → (xs.map (·.1))[i]? = some (.lit (.string u)) → W.cell? ⟨1, i, none⟩ = some (.string ⟨u.toArray⟩) := by
    intro i u hi hu
    have h1 := hel i hi
    have h2 : i < xs.length := by omega
    rw [List.getElem?_eq_getElem h2] at h1
    obtain ⟨s, e1, e2, _⟩ := DataW.trod_string Tryd.uStr h1
    rw [List.getElem?_map, List.getElem?_eq_getElem h2, e2] at hu
    simp at hu
    have hc := World.var?_cell hg hv i
    have hcs : cs[i]? = some (.string s) := by
      have h3 : (cs.toList.drop i)[0]? = some (.string s) := by
        have h4 : ((cs.toList.drop (i * 1)).take 1)[0]? = some (.string s) := by rw [e1]; rfl
        rw [Nat.mul_one, List.getElem?_take] at h4
        simpa using h4
      rw [List.getElem?_drop] at h3
      simpa using h3
    rw [hc, hcs, str_ext hu]
  rw [hx1] at cell
  exact ⟨cell 0 _ (by decide) rfl, cell 1 _ (by decide) rfl, cell 2 _ (by decide) rfl, cell 3 _ (by decide) rfl, cell 4 _ (by decide) rfl, cell 5 _ (by decide) rfl, cell 6 _ (by decide) rfl, cell 7 _ (by decide) rfl, cell 8 _ (by decide) rfl, cell 9 _ (by decide) rfl⟩
end Go.Proofs.YtolckakofgllcaaDoor
