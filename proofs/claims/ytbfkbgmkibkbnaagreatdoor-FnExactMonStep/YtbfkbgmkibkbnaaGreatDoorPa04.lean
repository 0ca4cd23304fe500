/-
  The types of the program are laid out.
  Nodes as keys of a map; a map of the places of a row of nodes.
  A row of nodes that the call owns.
-/
import Derived.Test.YtbfkbgmkibkbnaaGreatDoorRows
import Derived.WalkKit
import Derived.Test.YtbfkbgmkibkbnaaGreatDoorPa02
import Derived.Maps.OwnSet
import Derived.Maps.OwnOps
import Derived.DeepKeys4
import Derived.MapViews
import Derived.Deep.Draws
import Derived.Test.YtbfkbgmkibkbnaaGreatDoorPa00
namespace Go.Proofs.YtbfkbgmkibkbnaaGreatDoor
theorem Tryz.laidOut : laidOutB Tryz.prog = true := by kernel_rfl
end Go.Proofs.YtbfkbgmkibkbnaaGreatDoor
namespace Go.Proofs.YtbfkbgmkibkbnaaGreatDoor
open Go.RowKit
set_option linter.unusedVariables false
set_option linter.unusedSimpArgs false
theorem Tryz.rowNd : 81 < Tryz.prog.types.size := of_decide_eq_true (by kernel_rfl)
theorem Tryz.keyNd : Maps.Keyed Tryz.prog 81 := Maps.Keyed.of_law (deep_law_laid Tryz.laidOut (m := 3) (by omega) Tryz.rowNd (by kernel_rfl) (by rw [Tryz.uNd]))
def keyL (x : Nd) : Lit := .string (keyBytes [.int .i64 x.k, .int .i64 x.a, .int .i64 x.b, .int .i64 x.lo, .int .i64 x.hi, .string x.nm.data.toList])
theorem wf64 {n : Int} (h : -9223372036854775808 ≤ n ∧ n ≤ 9223372036854775807) : (Lit.int .i64 n).wf = true := by
  simpa [Lit.wf, IntKind.min, IntKind.max, IntKind.signed, IntKind.bits] using h
theorem Tryz.cNd : Tryz.prog.cellsOf 81 = 6 := by kernel_rfl
theorem Tryz.cI64 : Tryz.prog.cellsOf 2 = 1 := by kernel_rfl
theorem Tryz.cSt : Tryz.prog.cellsOf 9 = 1 := by kernel_rfl
theorem Tryz.ktNd : Tryz.prog.keyType 81 = true := by kernel_rfl
theorem keyInt (d : Nat) {n : Int} (h : (Lit.int .i64 n).wf = true) : Tryz.prog.keyLits (d + 1) 2 [.int .i64 n] = some [.int .i64 n] := by
  simp [Program.keyLits, Tryz.underlying2, h]
theorem keyStr (d : Nat) {s : ByteArray} (h : s.size ≤ maxLen) : Tryz.prog.keyLits (d + 1) 9 [.string s] = some [.string s.data.toList] := by
  simp [Program.keyLits, Tryz.underlying9, h]
theorem keyLits_nd (d : Nat) (x : Nd) (h : ndOk x) : Tryz.prog.keyLits (d + 2) 81 [.int .i64 x.k, .int .i64 x.a, .int .i64 x.b, .int .i64 x.lo, .int .i64 x.hi, .string x.nm] = some [.int .i64 x.k, .int .i64 x.a, .int .i64 x.b, .int .i64 x.lo, .int .i64 x.hi, .string x.nm.data.toList] := by
  obtain ⟨h1, h2, h3, h4, h5, h6⟩ := h
  unfold Program.keyLits
  rw [Tryz.underlying81]
  simp [Tryz.cNd, Tryz.cI64, Tryz.cSt, keyInt d (wf64 h1), keyInt d (wf64 h2), keyInt d (wf64 h3), keyInt d (wf64 h4), keyInt d (wf64 h5), keyStr d h6]
theorem keyOf_nd (x : Nd) (h : ndOk x) : keyOf Tryz.prog 81 (ndV x) = some (keyL x) := by
  unfold keyOf
  rw [Tryz.underlying81]
  have hf : (ndV x).formed Tryz.prog 81 = true := by simp [ndV, Value.formed, Tryz.underlying81, Tryz.cNd]
  obtain ⟨d, hd⟩ : ∃ d, Tryz.prog.types.size + 1 = d + 2 := ⟨Tryz.prog.types.size - 1, by have := Tryz.rowNd; omega⟩
  have hk := keyLits_nd d x h
  rw [← hd] at hk
  have hc : (ndV x).cells.toList = [.int .i64 x.k, .int .i64 x.a, .int .i64 x.b, .int .i64 x.lo, .int .i64 x.hi, .string x.nm] := by simp [ndV, Value.cells]
  simp only [Tryz.ktNd, hf, Bool.and_self, if_true, hc, hk, Option.map_some, keyL]
theorem keyL_inj {x y : Nd} (hx : ndOk x) (hy : ndOk y) (h : keyL x = keyL y) : x = y := by
  have h1 := keyOf_nd x hx
  have h2 := keyOf_nd y hy
  rw [← h] at h2
  have := Tryz.keyNd.inj h1 h2
  simp [ndV] at this
  rw [nd_ext]
  exact this
theorem keyL_key (x : Nd) : WideAt.IsKeyLit (keyL x) := trivial
/-- What a map of the places of the first k nodes reads as. -/
def placesD (f : List Nd) : Nat → DataW Unit
  | 0 => .map []
  | k + 1 => (placesD f k).put (keyL (ndAt f k)) (.lit (.int .i64 k))
theorem placesD_isMap (f : List Nd) (k : Nat) : Maps.IsMap (placesD f k) := by
  induction k with
  | zero => exact Maps.isMap_empty
  | succ k ih => exact ih.put _ _
theorem placesD_none (f : List Nd) (x : Nd) (hx : ndOk x) : ∀ k, (∀ i, i < k → ndOk (ndAt f i)) → (∀ i, i < k → ndAt f i ≠ x) → Maps.has (placesD f k) (keyL x) = false := by
  intro k
  induction k with
  | zero => intro _ _; rfl
  | succ k ih =>
    intro h1 h2
    unfold placesD
    rw [Maps.has_put_other (fun e => h2 k (by omega) (keyL_inj hx (h1 k (by omega)) e).symm)]
    exact ih (fun i hi => h1 i (by omega)) (fun i hi => h2 i (by omega))
theorem placesD_some (f : List Nd) (x : Nd) (hx : ndOk x) (j : Nat) (hj : ndAt f j = x) : ∀ k, j < k → (∀ i, i < k → ndOk (ndAt f i)) → (∀ i, j < i → i < k → ndAt f i ≠ x) → Maps.has (placesD f k) (keyL x) = true ∧ ∀ z, (placesD f k).atKey (keyL x) z = .lit (.int .i64 j) := by
  intro k
  induction k with
  | zero => intro h; omega
  | succ k ih =>
    intro h1 h2 h3
    unfold placesD
    by_cases e : j = k
    · subst e
      rw [hj]
      exact ⟨Maps.has_put_same (placesD_isMap f j) (keyL_key x) _, fun z => Maps.atKey_put_same (placesD_isMap f j) (keyL_key x) _ z⟩
    · have hne : keyL x ≠ keyL (ndAt f k) := fun e' => h3 k (by omega) (by omega) (keyL_inj hx (h2 k (by omega)) e').symm
      obtain ⟨i1, i2⟩ := ih (by omega) (fun i hi => h2 i (by omega)) (fun i a b => h3 i a (by omega))
      exact ⟨by rw [Maps.has_put_other hne]; exact i1, fun z => by rw [Maps.atKey_put_other hne]; exact i2 z⟩
end Go.Proofs.YtbfkbgmkibkbnaaGreatDoor
namespace Go.Proofs.YtbfkbgmkibkbnaaGreatDoor
open Go.RowKit
set_option linter.unusedVariables false
set_option linter.unusedSimpArgs false
theorem Save.node {a b : World} {S : Nat → Prop} (h : Save a b S) {c o : Nat} {x : Nd} (hn : NodeAt a c o x) (hp : c < a.heap.size) (hs : ¬ S c) : NodeAt b c o x :=
  ⟨(h.cell (p := ⟨c, _, none⟩) hp hs).trans hn.c0, (h.cell (p := ⟨c, _, none⟩) hp hs).trans hn.c1, (h.cell (p := ⟨c, _, none⟩) hp hs).trans hn.c2, (h.cell (p := ⟨c, _, none⟩) hp hs).trans hn.c3, (h.cell (p := ⟨c, _, none⟩) hp hs).trans hn.c4, (h.cell (p := ⟨c, _, none⟩) hp hs).trans hn.c5⟩
theorem Save.nodes {a b : World} {S : Nat → Prop} (h : Save a b S) {c : Nat} {f : List Nd} (hn : NodesAt a c f) (hs : ¬ S c) : NodesAt b c f :=
  ⟨Nat.lt_of_lt_of_le hn.1 h.size, fun i hi => h.node (hn.2 i hi) hn.1 hs⟩

/-! ### A row of nodes of the call's own -/
def ndCells (x : Nd) : List Value := [.int .i64 x.k, .int .i64 x.a, .int .i64 x.b, .int .i64 x.lo, .int .i64 x.hi, .string x.nm]
def flatN (g : List Nd) : List Value := g.flatMap ndCells
theorem flatN_len (g : List Nd) : (flatN g).length = g.length * 6 := by
  induction g with
  | nil => rfl
  | cons x g ih => simp [flatN, ndCells] at ih ⊢; rw [ih]; omega
theorem flatN_snoc (g : List Nd) (x : Nd) : flatN (g ++ [x]) = flatN g ++ ndCells x := by simp [flatN]
theorem flatN_get : ∀ (g : List Nd) (i j : Nat), i < g.length → j < 6 → (flatN g)[i * 6 + j]? = (ndCells (ndAt g i))[j]? := by
  intro g
  induction g with
  | nil => intro i j h; simp at h
  | cons x g ih =>
    intro i j hi hj
    have e : flatN (x :: g) = ndCells x ++ flatN g := by simp [flatN]
    have hl : (ndCells x).length = 6 := rfl
    cases i with
    | zero =>
      rw [e, Nat.zero_mul, Nat.zero_add, List.getElem?_append_left (by rw [hl]; exact hj)]
      rfl
    | succ i =>
      rw [e, List.getElem?_append_right (by rw [hl]; omega), hl, show (i + 1) * 6 + j - 6 = i * 6 + j by omega, ih i j (by simpa using hi) hj]
      rfl
def OwnsN (w : World) (base : Nat) (v : Value) (g : List Nd) : Prop := w.ownsRow base 81 6 v g.length (flatN g)
theorem OwnsN.at {w : World} {base b c : Nat} {g : List Nd} (h : OwnsN w base (.slice (some ⟨b, 0, none⟩) g.length c) g) : NodesAt w b g := by
  refine ⟨(World.ownsRow.lt h b rfl).2, fun i hi => ?_⟩
  have key : ∀ j u, j < 6 → (ndCells (ndAt g i))[j]? = some u → w.cell? ⟨b, i * 6 + j, none⟩ = some u := by
    intro j u hj hu
    have h1 := World.ownsRow.cells h (g := b) rfl (i * 6 + j) u (by rw [flatN_get g i j hi hj]; exact hu)
    rw [Addr.add_lit] at h1
    simpa using h1
  exact ⟨key 0 _ (by decide) rfl, key 1 _ (by decide) rfl, key 2 _ (by decide) rfl, key 3 _ (by decide) rfl, key 4 _ (by decide) rfl, key 5 _ (by decide) rfl⟩
/-- What a row of nodes looks like. -/
theorem OwnsN.form {w : World} {base : Nat} {v : Value} {g : List Nd} (h : OwnsN w base v g) : ∃ a c, v = .slice a g.length c ∧ (a = none ∨ ∃ b, a = some ⟨b, 0, none⟩ ∧ base ≤ b ∧ b < w.heap.size) := by
  rcases h.2 with ⟨hv, h0⟩ | ⟨b, cap, cur, hv, hb, hg, _⟩
  · exact ⟨none, 0, by rw [hv, h0], Or.inl rfl⟩
  · exact ⟨_, cap, hv, Or.inr ⟨b, rfl, hb, (Array.getElem?_eq_some_iff.1 hg).1⟩⟩
theorem OwnsN.save {w w' : World} {base : Nat} {v : Value} {g : List Nd} {S : Nat → Prop} (h : OwnsN w base v g) (hs : Save w w' S) (hS : ∀ k, v.ownBlock = some k → ¬ S k) : OwnsN w' base v g := by
  refine ⟨h.1, ?_⟩
  rcases h.2 with hn | ⟨b, cap, cur, rfl, hb, hg, rest⟩
  · exact .inl hn
  · refine .inr ⟨b, cap, cur, rfl, hb, ?_, rest⟩
    rw [hs.block b (Array.getElem?_eq_some_iff.1 hg).1 (hS b rfl)]
    exact hg
theorem Tryz.infoN : (Tryz.prog.info? 81).map (fun i => (i.zero, i.size, i.bytes)) = some (some (.agg #[.int .i64 0, .int .i64 0, .int .i64 0, .int .i64 0, .int .i64 0, .string ⟨#[]⟩]), 6, 56) := by kernel_rfl
theorem Tryz.uNs : Tryz.prog.underlying 23 = some (.slice 81) := by kernel_rfl
end Go.Proofs.YtbfkbgmkibkbnaaGreatDoor
