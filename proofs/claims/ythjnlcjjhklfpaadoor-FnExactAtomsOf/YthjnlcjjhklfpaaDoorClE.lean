/-
  Rows of events that a call makes; what is clamped: plain facts.
-/
import Derived.Test.YthjnlcjjhklfpaaDoorClD
namespace Go.Proofs.YthjnlcjjhklfpaaDoor
open Go.RowKit
set_option linter.unusedVariables false
set_option linter.unusedSimpArgs false
/-- An event, and where its names lie. -/
abbrev EvQ := Evt × Option Addr × Nat
def qCells (x : EvQ) : List Value := [.int .i64 x.1.1, .slice x.2.1 x.1.2.length x.2.2]
def evsOf (Q : List EvQ) : List Evt := Q.map (·.1)
def NmOk (w : World) (base : Nat) (v : Value) (x : EvQ) : Prop := TsAt w x.2.1 x.1.2 ∧ RowTs w x.2.1 x.1.2.length ∧ ∀ q, x.2.1 = some q → base ≤ q.block ∧ q.block < w.heap.size ∧ q = ⟨q.block, 0, none⟩ ∧ v.ownBlock ≠ some q.block
def Apart (x y : EvQ) : Prop := ∀ q r, x.2.1 = some q → y.2.1 = some r → q.block ≠ r.block
/-- A row of events that the call owns, names and all. -/
structure EvOwn (w : World) (base : Nat) (v : Value) (Q : List EvQ) : Prop where
  own : w.ownsRow base 38 2 v Q.length (Q.flatMap qCells)
  names : ∀ x ∈ Q, NmOk w base v x
  apart : Q.Pairwise Apart
theorem q_len (Q : List EvQ) : (Q.flatMap qCells).length = Q.length * 2 := by
  induction Q with
  | nil => rfl
  | cons x Q ih => simp [List.flatMap_cons, qCells, ih]; omega
theorem q_at : ∀ (Q : List EvQ) (i : Nat) (x : EvQ), Q[i]? = some x → (Q.flatMap qCells)[i * 2]? = some (.int .i64 x.1.1) ∧ (Q.flatMap qCells)[i * 2 + 1]? = some (.slice x.2.1 x.1.2.length x.2.2)
  | [], i, x, h => by simp at h
  | y :: Q, 0, x, h => by
    simp at h
    subst h
    simp [List.flatMap_cons, qCells]
  | y :: Q, i + 1, x, h => by
    simp at h
    have := q_at Q i x h
    have e1 : (i + 1) * 2 = i * 2 + 2 := by omega
    rw [e1]
    simp only [List.flatMap_cons, qCells, List.cons_append, List.nil_append]
    exact this
theorem evs_len (Q : List EvQ) : (evsOf Q).length = Q.length := by simp [evsOf]
theorem evs_at (Q : List EvQ) (i : Nat) (x : EvQ) (h : Q[i]? = some x) : evAt (evsOf Q) i = x.1 := by
  simp [evAt, evsOf, List.getD, h]
def EvB (v : Value) (Q : List EvQ) (j : Nat) : Prop := v.ownBlock = some j ∨ ∃ x ∈ Q, OfT x.2.1 j
theorem EvOwn.range {w : World} {base : Nat} {v : Value} {Q : List EvQ} (h : EvOwn w base v Q) {j : Nat} (hj : EvB v Q j) : base ≤ j ∧ j < w.heap.size := by
  rcases hj with e | ⟨x, hx, q, e, rfl⟩
  · exact World.ownsRow.lt h.own j e
  · have := (h.names x hx).2.2 q e
    exact ⟨this.1, this.2.1⟩
theorem EvOwn.save {w w' : World} {base : Nat} {v : Value} {Q : List EvQ} {S : Nat → Prop} (h : EvOwn w base v Q) (hs : Save w w' S) (hS : ∀ j, EvB v Q j → ¬ S j) : EvOwn w' base v Q := by
  refine ⟨⟨h.own.1, ?_⟩, fun x hx => ?_, h.apart⟩
  · rcases h.own.2 with hn | ⟨b, cap, cur, rfl, hb, hg, rest⟩
    · exact .inl hn
    · refine .inr ⟨b, cap, cur, rfl, hb, ?_, rest⟩
      rw [hs.block b (Array.getElem?_eq_some_iff.1 hg).1 (hS b (Or.inl rfl))]
      exact hg
  · obtain ⟨h1, h2, h3⟩ := h.names x hx
    have hno : ∀ b, x.2.1 = some ⟨b, 0, none⟩ → ¬ S b := fun b e => hS b (Or.inr ⟨x, hx, _, e, rfl⟩)
    exact ⟨h1.save hs hno, h2.save hs hno, fun q e => ⟨(h3 q e).1, Nat.lt_of_lt_of_le (h3 q e).2.1 hs.size, (h3 q e).2.2⟩⟩
theorem EvOwn.below {w w' : World} {base : Nat} {v : Value} {Q : List EvQ} (h : EvOwn w base v Q) (hb : Below w.heap.size w w') : EvOwn w' base v Q :=
  h.save (S := fun _ => False) (Save.of_below hb _ (fun j h1 h2 => by omega)) (fun _ _ h => h)
theorem EvOwn.form {w : World} {base : Nat} {v : Value} {Q : List EvQ} (h : EvOwn w base v Q) : ∃ a c, v = .slice a Q.length c ∧ EsAt w a (evsOf Q) ∧ ∀ q, a = some q → q = ⟨q.block, 0, none⟩ ∧ v.ownBlock = some q.block := by
  rcases h.own.2 with ⟨hv, h0⟩ | ⟨g, cap, cur, hv, hb, hg, _⟩
  · exact ⟨none, 0, by rw [hv, h0], Or.inl (by rw [evs_len]; exact h0), fun q e => (by cases e)⟩
  · refine ⟨some ⟨g, 0, none⟩, cap, hv, Or.inr ⟨g, rfl, (Array.getElem?_eq_some_iff.1 hg).1, fun i hi => ?_⟩, fun q e => (by injection e with e1; subst e1; rw [hv]; exact ⟨rfl, rfl⟩)⟩
    rw [evs_len] at hi
    obtain ⟨x, hx⟩ : ∃ x, Q[i]? = some x := ⟨Q[i], by simp [hi]⟩
    have hm : x ∈ Q := List.mem_of_getElem? hx
    rw [evs_at Q i x hx]
    obtain ⟨q0, q1⟩ := q_at Q i x hx
    have c0 := World.ownsRow.cells h.own (g := g) (by rw [hv]; rfl) _ _ q0
    have c1 := World.ownsRow.cells h.own (g := g) (by rw [hv]; rfl) _ _ q1
    rw [Addr.add_lit, Nat.zero_add] at c0 c1
    exact ⟨c0, x.2.1, x.2.2, c1, (h.names x hm).1⟩
/-- One event more. -/
theorem EvOwn.snoc {w1 w2 : World} {base : Nat} {v v' : Value} {Q : List EvQ} {x : EvQ} (h : EvOwn w1 base v Q) (hx : TsAt w1 x.2.1 x.1.2 ∧ RowTs w1 x.2.1 x.1.2.length ∧ ∀ q, x.2.1 = some q → base ≤ q.block ∧ q.block < w1.heap.size ∧ q = ⟨q.block, 0, none⟩) (hnew : ∀ j, OfT x.2.1 j → ¬ EvB v Q j) (o : Obj)
    (hown : w2.ownsRow base 38 2 v' (Q.length + 1) (Q.flatMap qCells ++ qCells x)) (hg : (w1.alloc o).grownBy w2 v.ownBlock) (hat : v'.ownBlock = v.ownBlock ∨ v'.ownBlock = some (w1.alloc o).heap.size) : EvOwn w2 base v' (Q ++ [x]) := by
  have hs : Save w1 w2 (fun j => v.ownBlock = some j) := ((Save.refl w1 _).alloc o).grown hg (fun k hk _ => hk)
  have step : ∀ y : EvQ, (TsAt w1 y.2.1 y.1.2 ∧ RowTs w1 y.2.1 y.1.2.length ∧ ∀ q, y.2.1 = some q → base ≤ q.block ∧ q.block < w1.heap.size ∧ q = ⟨q.block, 0, none⟩) → (∀ q, y.2.1 = some q → v.ownBlock ≠ some q.block) → NmOk w2 base v' y := by
    rintro y ⟨h1, h2, h3⟩ hne
    have hno : ∀ b, y.2.1 = some ⟨b, 0, none⟩ → ¬ v.ownBlock = some b := fun b e => hne _ e
    refine ⟨h1.save hs hno, h2.save hs hno, fun q e => ⟨(h3 q e).1, Nat.lt_of_lt_of_le (h3 q e).2.1 hs.size, (h3 q e).2.2, fun e2 => ?_⟩⟩
    rcases hat with e3 | e3
    · exact hne q e (e3 ▸ e2)
    · rw [e3] at e2
      injection e2 with e2
      have := (h3 q e).2.1
      simp at e2
      omega
  refine ⟨?_, fun y hy => ?_, ?_⟩
  · rw [List.length_append, List.flatMap_append]
    simpa [List.flatMap_cons] using hown
  · rcases List.mem_append.1 hy with hy | hy
    · obtain ⟨h1, h2, h3⟩ := h.names y hy
      exact step y ⟨h1, h2, fun q e => ⟨(h3 q e).1, (h3 q e).2.1, (h3 q e).2.2.1⟩⟩ (fun q e => (h3 q e).2.2.2)
    · have : y = x := by simpa using hy
      subst this
      exact step y hx (fun q e e2 => hnew q.block ⟨q, e, rfl⟩ (Or.inl e2))
  · rw [List.pairwise_append]
    refine ⟨h.apart, by simp, fun y hy z hz q r e1 e2 e3 => ?_⟩
    have : z = x := by simpa using hz
    subst this
    exact hnew r.block ⟨r, e2, rfl⟩ (Or.inr ⟨y, hy, q, e1, e3⟩)
theorem evOwn_nil (w : World) (base : Nat) : EvOwn w base (.slice none 0 0) [] := ⟨World.ownsRow_nil _ _ _ _, fun x hx => by simp at hx, List.Pairwise.nil⟩
theorem evOwn_made (w : World) (base : Nat) (h : base ≤ w.heap.size) : EvOwn (w.alloc (.cells #[] 38)) base (.slice (some ⟨w.heap.size, 0, none⟩) 0 0) [] :=
  ⟨⟨rfl, Or.inr ⟨w.heap.size, 0, #[], rfl, h, blk_new w _, Nat.le_refl _, by unfold maxLen; omega, rfl, rfl⟩⟩, fun x hx => by simp at hx, List.Pairwise.nil⟩
/-! ### What is clamped -/
def mostTo (E : List Evt) : Nat → Int
  | 0 => 0
  | k + 1 => max (mostTo E k) (evAt E k).1
def cTo (E : List Evt) (k : Nat) : List Evt := (List.range k).map fun i => (mostTo E (i + 1), (evAt E i).2)
def okE (E : List Evt) (k : Nat) : Bool := (List.range k).all fun i => evR (evAt E i)
def clampB (E : List Evt) : List Evt := if E.length ≤ 60 ∧ okE E E.length = true then cTo E E.length else []
theorem cTo_succ (E : List Evt) (k : Nat) : cTo E (k + 1) = cTo E k ++ [(mostTo E (k + 1), (evAt E k).2)] := by simp [cTo, List.range_succ]
theorem cTo_len (E : List Evt) (k : Nat) : (cTo E k).length = k := by simp [cTo]
theorem okE_succ (E : List Evt) (k : Nat) : okE E (k + 1) = (okE E k && evR (evAt E k)) := by simp [okE, List.range_succ]
theorem clampB_long (E : List Evt) (h : 60 < E.length) : clampB E = [] := by
  unfold clampB
  rw [if_neg (by omega)]
theorem clampB_no (E : List Evt) (k : Nat) (hk : k < E.length) (h : evR (evAt E k) = false) : clampB E = [] := by
  unfold clampB
  rw [if_neg]
  rintro ⟨_, h2⟩
  simp only [okE, List.all_eq_true, List.mem_range] at h2
  rw [h2 k hk] at h
  cases h
theorem clampB_yes (E : List Evt) (h : E.length ≤ 60) (h2 : okE E E.length = true) : clampB E = cTo E E.length := by
  unfold clampB
  rw [if_pos ⟨h, h2⟩]
theorem evR_small (e : Evt) (h : evR e = true) : e.2.length ≤ 8 ∧ ∀ i, i < e.2.length → (txAt e.2 i).size ≤ 8 := by
  simp only [evR, evB, namesB, Bool.and_eq_true, decide_eq_true_eq] at h
  refine ⟨h.2.1, fun i hi => ?_⟩
  exact (wordB_len _ (namesTo_word e.2 i _ hi h.2.2).1).2
end Go.Proofs.YthjnlcjjhklfpaaDoor
