/-
  The program's map of what is known of a node at a place: its key, what it holds, what a call may do to it.
-/
import Derived.Test.YtnbegpplbjppoaaDoorMeanI
namespace Go.Proofs.YtnbegpplbjppoaaDoor
open Go.RowKit
set_option linter.unusedVariables false
set_option linter.unusedSimpArgs false
theorem Tryd.rowAr : 76 < Tryd.prog.types.size := of_decide_eq_true (by kernel_rfl)
theorem Tryd.uAr : Tryd.prog.underlying 76 = some (.array 2 2) := by kernel_rfl
theorem Tryd.keyAr : Maps.Keyed Tryd.prog 76 := Maps.Keyed.of_law (deep_law_laid Tryd.laidOut (m := 3) (by omega) Tryd.rowAr (by kernel_rfl) (by rw [Tryd.uAr]))
theorem Tryd.cAr : Tryd.prog.cellsOf 76 = 2 := by kernel_rfl
theorem Tryd.ktAr : Tryd.prog.keyType 76 = true := by kernel_rfl
theorem Tryd.uMp : Tryd.prog.underlying 55 = some (.map 76 2) := by kernel_rfl
theorem Tryd.uI : Tryd.prog.underlying 2 = some (.int .i64) := by kernel_rfl
def arV (n i : Nat) : Value := .agg #[.int .i64 n, .int .i64 i]
def keyA (n i : Nat) : Lit := .string (keyBytes [.int .i64 n, .int .i64 i])
theorem keyOf_ar (n i : Nat) (hn : n < 1000) (hi : i < 1000) : keyOf Tryd.prog 76 (arV n i) = some (keyA n i) := by
  unfold keyOf
  rw [Tryd.uAr]
  have hf : (arV n i).formed Tryd.prog 76 = true := by simp [arV, Value.formed, Tryd.uAr, Tryd.cAr]
  obtain ⟨d, hd⟩ : ∃ d, Tryd.prog.types.size + 1 = d + 2 := ⟨Tryd.prog.types.size - 1, by have := Tryd.rowAr; omega⟩
  have hk : Tryd.prog.keyLits (d + 2) 76 [.int .i64 n, .int .i64 i] = some [.int .i64 n, .int .i64 i] := by
    unfold Program.keyLits
    rw [Tryd.uAr]
    have e0 := keyInt d (n := (n : Int)) (wf64 (by omega))
    have e1 := keyInt d (n := (i : Int)) (wf64 (by omega))
    simp [Tryd.cAr, Tryd.cI64, List.range, List.range.loop, e0, e1]
  rw [← hd] at hk
  have hc : (arV n i).cells.toList = [.int .i64 n, .int .i64 i] := by simp [arV, Value.cells]
  simp only [Tryd.ktAr, hf, Bool.and_self, if_true, hc, hk, Option.map_some, keyA]
theorem keyA_inj {n i m j : Nat} (hn : n < 1000) (hi : i < 1000) (hm : m < 1000) (hj : j < 1000) (h : keyA n i = keyA m j) : n = m ∧ i = j := by
  have h1 := keyOf_ar n i hn hi
  have h2 := keyOf_ar m j hm hj
  rw [← h] at h2
  have := Tryd.keyAr.inj h1 h2
  simp only [arV, Value.agg.injEq] at this
  have h3 := congrArg Array.toList this
  simp at h3
  omega
theorem keyA_key (n i : Nat) : WideAt.IsKeyLit (keyA n i) := trivial
def putK (K : Nat → Nat → Int) (n i : Nat) (v : Int) : Nat → Nat → Int := fun m j => if m = n ∧ j = i then v else K m j
/-- What the map holds. -/
def KM (w : World) (mb c : Nat) (K : Nat → Nat → Int) : Prop := ∃ D : DataW Unit, w.ownsMap Tryd.prog 76 (plainElem (H := Unit) Tryd.prog 2) mb c D ∧ ∀ n i, n < 24 → i < 60 → D.atKey (keyA n i) (.lit (.int .i64 0)) = .lit (.int .i64 (K n i))
theorem KM.lt {w : World} {mb c : Nat} {K : Nat → Nat → Int} (h : KM w mb c K) : mb < w.heap.size := by
  obtain ⟨D, h1, _⟩ := h
  exact h1.lt
theorem KM.save {w w' : World} {mb c : Nat} {K : Nat → Nat → Int} {S : Nat → Prop} (h : KM w mb c K) (hs : Save w w' S) (hS : ¬ S mb) : KM w' mb c K := by
  have hlt := h.lt
  obtain ⟨D, ⟨es, clock, hbk, rest⟩, h2⟩ := h
  exact ⟨D, ⟨es, clock, by rw [hs.block mb hlt hS]; exact hbk, rest⟩, h2⟩
theorem KM.below {w w' : World} {mb c : Nat} {K : Nat → Nat → Int} (h : KM w mb c K) (hb : Below w.heap.size w w') : KM w' mb c K :=
  h.save (S := fun _ => False) (Save.of_below hb _ (fun j h1 h2 => by omega)) (fun h => h)
theorem KM.look {w : World} {mb c : Nat} {K : Nat → Nat → Int} (h : KM w mb c K) {n i : Nat} (hn : n < 24) (hi : i < 60) :
    Sem.run Tryd.prog (Instr.lookup 55 (.map (some mb)) (.agg #[.int .i64 n, .int .i64 i]) false) w = .ok (.int .i64 (K n i)) w := by
  obtain ⟨D, h1, h2⟩ := h
  have hz : (zeroValue 2).run Tryd.prog w = .ok (.int .i64 0) w := by kernel_rfl
  obtain ⟨v, hrun, hat, _⟩ := h1.lookup_int Tryd.keyAr Tryd.uMp Tryd.uI hz (keyOf_ar n i (by omega) (by omega))
  rw [h2 n i hn hi] at hat
  simp at hat
  subst hat
  exact hrun
theorem KM.put {w : World} {mb c : Nat} {K : Nat → Nat → Int} (h : KM w mb c K) {n i : Nat} (hn : n < 24) (hi : i < 60) (hc : c < 10000) (v : Int) (hv : 0 ≤ v ∧ v ≤ 2) :
    ∃ w', Sem.run Tryd.prog (Instr.mapUpdate 55 (.map (some mb)) (.agg #[.int .i64 n, .int .i64 i]) (.int .i64 v)) w = .ok () w' ∧ KM w' mb (c + 1) (putK K n i v) ∧ Save w w' (fun b => b = mb) := by
  obtain ⟨D, h1, h2⟩ := h
  obtain ⟨w', hrun, hown, hg⟩ := h1.update Tryd.keyAr Tryd.uMp (by unfold maxLen; omega) (keyOf_ar n i (by omega) (by omega)) (plainElem_int Tryd.uI (a := v) (wf64 (by omega)))
  refine ⟨w', hrun, ⟨_, hown, fun m j hm hj => ?_⟩, (Save.refl w _).grown hg (fun k hk _ => by cases hk; rfl)⟩
  unfold putK
  by_cases e : m = n ∧ j = i
  · obtain ⟨rfl, rfl⟩ := e
    rw [if_pos ⟨rfl, rfl⟩]
    exact Maps.atKey_put_same h1.isMap (keyA_key _ _) _ _
  · rw [if_neg e, Maps.atKey_put_other (fun e' => e (keyA_inj (by omega) (by omega) (by omega) (by omega) e'))]
    exact h2 m j hm hj
theorem KM.made (w : World) : KM (w.alloc (.map #[] 0)) w.heap.size 0 (fun _ _ => 0) := ⟨.map [], World.ownsMap_made w _ _ _, fun n i _ _ => rfl⟩
/-! ### How much is known -/
def gK (K : Nat → Nat → Int) (p : Nat) : Bool := decide (K (p / 60) (p % 60) ≠ 0)
def cntK (K : Nat → Nat → Int) : Nat := cntTo (gK K) 1440
theorem cntK_le (K : Nat → Nat → Int) : cntK K ≤ 1440 := cntTo_le _ _
theorem cntK_new (K : Nat → Nat → Int) (n i : Nat) (v : Int) (hn : n < 24) (hi : i < 60) (h0 : K n i = 0) (hv : v ≠ 0) : cntK (putK K n i v) = cntK K + 1 := by
  have e : gK (putK K n i v) = fun q => if q = n * 60 + i then true else gK K q := by
    funext q
    unfold gK putK
    by_cases h : q = n * 60 + i
    · have h1 : q / 60 = n := by omega
      have h2 : q % 60 = i := by omega
      rw [if_pos h, if_pos ⟨h1, h2⟩]
      simp [hv]
    · rw [if_neg h, if_neg (fun hh => h (by omega))]
  have h3 : gK K (n * 60 + i) = false := by
    unfold gK
    rw [show (n * 60 + i) / 60 = n by omega, show (n * 60 + i) % 60 = i by omega, h0]
    rfl
  unfold cntK
  rw [e, cntTo_put (gK K) (n * 60 + i) h3, if_pos (by omega)]
theorem cntK_old (K : Nat → Nat → Int) (n i : Nat) (v : Int) (hi : i < 60) (h0 : K n i ≠ 0) (hv : v ≠ 0) : cntK (putK K n i v) = cntK K := by
  have e : gK (putK K n i v) = gK K := by
    funext q
    unfold gK putK
    by_cases h : q / 60 = n ∧ q % 60 = i
    · rw [if_pos h, h.1, h.2]
      simp [hv, h0]
    · rw [if_neg h]
  unfold cntK
  rw [e]
/-! ### What is so ahead of a call and behind it -/
def GoodTo (f : List Nd) (L : List Evt) (K : Nat → Nat → Int) (n : Nat) : Prop := ∀ m j, m < n → j < 60 → K m j = 0 ∨ K m j = (if hv f L m j then 2 else 1)
structure Ctx (w0 : World) (f : List Nd) (L : List Evt) (fb eb mb : Nat) : Prop where
  min : MeanIn w0 f L fb eb
  hf : rightB f = true
  hl : trB L = true
  hmb : w0.heap.size ≤ mb
structure St (w0 : World) (f : List Nd) (L : List Evt) (mb : Nat) (w : World) (K : Nat → Nat → Int) (c n : Nat) : Prop where
  bel : Below w0.heap.size w0 w
  map : KM w mb c K
  cnt : c ≤ 2 * cntK K
  good : GoodTo f L K n
structure Aft (f : List Nd) (L : List Evt) (mb : Nat) (w w' : World) (K : Nat → Nat → Int) (c : Nat) (K' : Nat → Nat → Int) (c' n : Nat) : Prop where
  map : KM w' mb c' K'
  good : GoodTo f L K' n
  keep : ∀ m j, n ≤ m → K' m j = K m j
  grow : c' + 2 * cntK K ≤ c + 2 * cntK K'
  save : Save w w' (fun b => b = mb)
section
variable {w0 : World} {f : List Nd} {L : List Evt} {fb eb mb : Nat} {w w1 w2 : World} {K K1 K2 : Nat → Nat → Int} {c c1 c2 n : Nat}
theorem St.min (X : Ctx w0 f L fb eb mb) (h : St w0 f L mb w K c n) : MeanIn w f L fb eb := X.min.below h.bel
theorem Aft.st (X : Ctx w0 f L fb eb mb) (h : St w0 f L mb w K c n) (a : Aft f L mb w w1 K c K1 c1 n) : St w0 f L mb w1 K1 c1 n :=
  ⟨h.bel.trans (a.save.below h.bel.size (fun j e => by have := X.hmb; omega)), a.map, by have := h.cnt; have := a.grow; omega, a.good⟩
theorem Aft.trans (a : Aft f L mb w w1 K c K1 c1 n) (b : Aft f L mb w1 w2 K1 c1 K2 c2 n) : Aft f L mb w w2 K c K2 c2 n :=
  ⟨b.map, b.good, fun m j h => (b.keep m j h).trans (a.keep m j h), by have := a.grow; have := b.grow; omega, a.save.trans b.save⟩
theorem St.below (h : St w0 f L mb w K c n) (hb : Below w.heap.size w w1) : Aft f L mb w w1 K c K c n :=
  ⟨h.map.below hb, h.good, fun _ _ _ => rfl, Nat.le_refl _, Save.of_below hb _ (fun j h1 h2 => by omega)⟩
theorem St.down (h : St w0 f L mb w K c n) {p : Nat} (hp : p ≤ n) : St w0 f L mb w K c p := ⟨h.bel, h.map, h.cnt, fun m j hm hj => h.good m j (by omega) hj⟩
theorem Aft.lift (h : St w0 f L mb w K c n) {p : Nat} (hp : p ≤ n) (a : Aft f L mb w w1 K c K1 c1 p) : Aft f L mb w w1 K c K1 c1 n :=
  ⟨a.map, fun m j hm hj => by
    by_cases e : m < p
    · exact a.good m j e hj
    · rw [a.keep m j (by omega)]; exact h.good m j hm hj, fun m j hm => a.keep m j (by omega), a.grow, a.save⟩
end
/-- A node that is asked for at a place. -/
def HoldsC (w0 : World) (f : List Nd) (L : List Evt) (fb fc eb ec mb p : Nat) : Prop := ∀ (i : Nat) (K : Nat → Nat → Int) (c : Nat) (w : World), i < L.length → St w0 f L mb w K c (p + 1) →
    Calls Tryd.prog 29 #[mV f L fb fc eb ec mb, .int .i64 p, .int .i64 i] w fun e w' => e = .returned (.bool (hv f L p i)) ∧ ∃ K' c', Aft f L mb w w' K c K' c' (p + 1)
theorem HoldsC.is {w0 : World} {f : List Nd} {L : List Evt} {fb fc eb ec mb p : Nat} (H : HoldsC w0 f L fb fc eb ec mb p) {n : Nat} (hp : p < n) (i : Nat) (hi : i < L.length) (v : Bool) (hvv : hv f L p i = v) {K : Nat → Nat → Int} {c : Nat} {w : World} (h : St w0 f L mb w K c n) :
    Calls Tryd.prog 29 #[mV f L fb fc eb ec mb, .int .i64 p, .int .i64 i] w fun e w' => e = .returned (.bool v) ∧ ∃ K' c', Aft f L mb w w' K c K' c' n := by
  subst hvv
  refine (H i K c w hi (h.down (by omega))).mono ?_
  rintro e w' ⟨rfl, K', c', a⟩
  exact ⟨rfl, K', c', a.lift h (by omega)⟩
theorem Boxes.aft {W W' : World} {q : Nat} {f : List Nd} {L : List Evt} {fb fc eb ec mb : Nat} {x : Nd} {K : Nat → Nat → Int} {c : Nat} {K' : Nat → Nat → Int} {c' n : Nat} (h : Boxes W q f L fb fc eb ec mb x) (a : Aft f L mb W W' K c K' c' n) (hq : mb < q) : Boxes W' q f L fb fc eb ec mb x :=
  h.save a.save (by omega) (by omega)
theorem trB_times {L : List Evt} (h : trB L = true) : L.length ≤ 60 ∧ ∀ j, j < L.length → 0 ≤ (evAt L j).1 ∧ (evAt L j).1 ≤ 1000000 := ⟨(trB_parts L h).1, fun j hj => ((trB_parts L h).2 j hj).1⟩
end Go.Proofs.YtnbegpplbjppoaaDoor
