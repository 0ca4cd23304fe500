/-
  The model's l04Table, HoldsAt, Holds, Verdicts by their contracts.
-/
import Derived.Test.YtnbegpplbjppoaaDoorMeanS2
import Derived.Test.YtnbegpplbjppoaaDoorConv2
namespace Go.Proofs.YtnbegpplbjppoaaDoor
open Go.RowKit
set_option linter.unusedVariables false
set_option linter.unusedSimpArgs false
theorem rightB_parts (f : List Nd) (h : rightB f = true) : 1 ≤ f.length ∧ f.length ≤ 24 ∧ ∀ i, i < f.length → armsOk (ndAt f i) i ∧ 1 ≤ (ndAt f i).k ∧ (ndAt f i).k ≤ 9 := by
  simp only [rightB, Bool.and_eq_true, decide_eq_true_eq] at h
  refine ⟨h.1.1, h.1.2, fun i hi => ?_⟩
  have hg := (goodTo_at f i f.length hi h.2.1).1
  refine ⟨nodeB_arms _ _ hg, ?_⟩
  simp only [nodeB, Bool.and_eq_true, isB, decide_eq_true_eq] at hg
  exact hg.1
theorem trB_parts (L : List Evt) (h : trB L = true) : L.length ≤ 60 ∧ ∀ j, j < L.length → (0 ≤ (evAt L j).1 ∧ (evAt L j).1 ≤ 1000000) ∧ (evAt L j).2.length ≤ maxLen := by
  simp only [trB, Bool.and_eq_true, decide_eq_true_eq] at h
  refine ⟨h.1, fun j hj => ?_⟩
  have he := (trTo_ev L j _ hj h.2).1
  refine ⟨evR_time _ he, ?_⟩
  simp only [evR, evB, namesB, Bool.and_eq_true, decide_eq_true_eq] at he
  have := he.2.1
  unfold maxLen
  omega
/-- A table that is being made: k rows, each in a block of its own. -/
structure TabOwn (w : World) (base : Nat) (v : Value) (k len : Nat) (T : Nat → Nat → Bool) (R : Nat → Nat) : Prop where
  own : w.ownsRow base 52 1 v k ((List.range k).map fun m => .slice (some ⟨R m, 0, none⟩) len len)
  rows : ∀ m, m < k → w.rowIs (R m) 4 len (fun j => .bool (T m j))
  low : ∀ m, m < k → base ≤ R m
  apart : ∀ m, m < k → v.ownBlock ≠ some (R m)
theorem ownsRow_below {w w' : World} {base : Nat} {e : TypeId} {size : Nat} {v : Value} {n : Nat} {xs : List Value} (h : w.ownsRow base e size v n xs) (hb : Below w.heap.size w w') : w'.ownsRow base e size v n xs :=
  ⟨h.1, h.2.imp id (fun ⟨g, cap, cur, a, b, c, d⟩ => ⟨g, cap, cur, a, b, (hb.block g (Array.getElem?_eq_some_iff.1 c).1).trans c, d⟩)⟩
theorem TabOwn.below {w w' : World} {base : Nat} {v : Value} {k len : Nat} {T : Nat → Nat → Bool} {R : Nat → Nat} (h : TabOwn w base v k len T R) (hb : Below w.heap.size w w') : TabOwn w' base v k len T R :=
  ⟨ownsRow_below h.own hb, fun m hm => (h.rows m hm).of_block (hb.block _ (h.rows m hm).lt), h.low, h.apart⟩
theorem TabOwn.form {w : World} {base : Nat} {v : Value} {k len : Nat} {T : Nat → Nat → Bool} {R : Nat → Nat} (h : TabOwn w base v k len T R) : ∃ a c, v = .slice a k c ∧ TabAt w a k len T ∧ ∀ b, a = some ⟨b, 0, none⟩ → base ≤ b := by
  rcases h.own.2 with ⟨hv, h0⟩ | ⟨g, cap, cur, hv, hb, hg, _⟩
  · exact ⟨none, 0, by rw [hv, h0], Or.inl h0, fun b e => by cases e⟩
  · refine ⟨some ⟨g, 0, none⟩, cap, hv, Or.inr ⟨g, rfl, (Array.getElem?_eq_some_iff.1 hg).1, fun m hm => ⟨R m, len, ?_, (h.rows m hm).lt, fun j hj => (h.rows m hm).cell hj⟩⟩, fun b e => by injection e with e; injection e with e; omega⟩
    have h1 := World.ownsRow.cells h.own (g := g) (by rw [hv]; rfl) m (.slice (some ⟨R m, 0, none⟩) len len) (by simp [hm])
    rw [Addr.add_lit] at h1
    simpa using h1
theorem heap_new (w : World) (o : Obj) : (w.alloc o).heap[w.heap.size]? = some o := by
  show (w.heap.push o)[w.heap.size]? = some o
  simp
theorem tab_made (w : World) (base : Nat) (h : base ≤ w.heap.size) (len : Nat) (T : Nat → Nat → Bool) : TabOwn (w.alloc (.cells #[] 52)) base (.slice (some ⟨w.heap.size, 0, none⟩) 0 0) 0 len T (fun _ => 0) :=
  ⟨⟨rfl, Or.inr ⟨w.heap.size, 0, #[], rfl, h, heap_new w _, Nat.le_refl _, by unfold maxLen; omega, rfl, rfl⟩⟩, fun m h => by omega, fun m h => by omega, fun m h => by omega⟩
theorem Tryd.infoBs : (Tryd.prog.info? 52).map (fun i => (i.zero, i.size, i.bytes)) = some (some (.slice none 0 0), 1, 24) := by kernel_rfl
theorem Tryd.uBss : Tryd.prog.underlying 53 = some (.slice 52) := by kernel_rfl
theorem Tryd.uBs : Tryd.prog.underlying 52 = some (.slice 4) := by kernel_rfl
theorem Tryd.infoB : (Tryd.prog.info? 4).map (fun i => (i.zero, i.size, i.bytes)) = some (some (.bool false), 1, 1) := by kernel_rfl
def rowB (g : Nat → Bool) (k j : Nat) : Value := if j < k then .bool (g j) else .bool false
theorem rowB_step (g : Nat → Bool) (k j : Nat) : rowB g (k + 1) j = if j = k then .bool (g k) else rowB g k j := by
  unfold rowB
  by_cases e : j = k
  · subst e; simp
  · by_cases h : j < k
    · rw [if_pos (by omega), if_neg e, if_pos h]
    · rw [if_neg (by omega), if_neg e, if_neg h]
/-- What a table is asked for. -/
structure TabIn (w : World) (f : List Nd) (L : List Evt) (fb eb : Nat) : Prop where
  nodes : NodesAt w fb f
  evs : EvsAt w eb L
  hf : rightB f = true
  hl : trB L = true
theorem TabIn.below {w w' : World} {f : List Nd} {L : List Evt} {fb eb : Nat} (h : TabIn w f L fb eb) (hb : Below w.heap.size w w') : TabIn w' f L fb eb := ⟨h.nodes.below hb h.nodes.1, h.evs.below hb, h.hf, h.hl⟩
theorem TabIn.hold {w : World} {f : List Nd} {L : List Evt} {fb eb n i : Nat} {ta : Option Addr} (h : TabIn w f L fb eb) (hn : n < f.length) (hi : i < L.length) (ht : TabAt w ta n L.length (hv f L)) : HoldIn w f L n i fb eb ta := by
  obtain ⟨h1, h2, h3⟩ := rightB_parts f h.hf
  obtain ⟨h4, h5⟩ := trB_parts L h.hl
  exact ⟨h.nodes, h.evs, ht, hn, hi, h2, h4, (h3 n hn).1, fun j hj => (h5 j hj).1, fun j hj => (h5 j hj).2⟩
/-- The table that was made, and one row more. -/
theorem TabOwn.snoc {w1 w2 : World} {base : Nat} {v v' : Value} {k len rb : Nat} {T : Nat → Nat → Bool} {R : Nat → Nat} (h : TabOwn w1 base v k len T R) (hrow : w1.rowIs rb 4 len (fun j => .bool (T k j))) (hb : base ≤ rb) (hrv : v.ownBlock ≠ some rb) (o : Obj)
    (hown : w2.ownsRow base 52 1 v' (k + 1) (((List.range k).map fun m => Value.slice (some ⟨R m, 0, none⟩) len len) ++ [.slice (some ⟨rb, 0, none⟩) len len])) (hg : (w1.alloc o).grownBy w2 v.ownBlock) (hat : v'.ownBlock = v.ownBlock ∨ v'.ownBlock = some (w1.alloc o).heap.size) : TabOwn w2 base v' (k + 1) len T (fun m => if m = k then rb else R m) := by
  have keep : ∀ g z, w1.rowIs g 4 len z → v.ownBlock ≠ some g → w2.rowIs g 4 len z := fun g z hr hne => by
    have h1 : (w1.alloc o).rowIs g 4 len z := hr.of_block (((Below.refl w1.heap.size w1).alloc (Nat.le_refl _) o).block g hr.lt)
    exact h1.of_block (hg.block g h1.lt (fun e => hne e.symm))
  refine ⟨?_, fun m hm => ?_, fun m hm => ?_, fun m hm => ?_⟩
  · have e : ((List.range (k + 1)).map fun m => Value.slice (some ⟨(fun m => if m = k then rb else R m) m, 0, none⟩) len len) = ((List.range k).map fun m => Value.slice (some ⟨R m, 0, none⟩) len len) ++ [.slice (some ⟨rb, 0, none⟩) len len] := by
      rw [List.range_succ, List.map_append]
      congr 1
      · apply List.map_congr_left
        intro m hm
        have : m ≠ k := by have := List.mem_range.1 hm; omega
        simp [this]
      · simp
    rw [e]
    exact hown
  · by_cases e : m = k
    · subst e; simp only [if_true]; exact keep rb _ hrow hrv
    · simp only [e, if_false]; exact keep _ _ (h.rows m (by omega)) (h.apart m (by omega))
  · by_cases e : m = k
    · simp only [e, if_true]; exact hb
    · simp only [e, if_false]; exact h.low m (by omega)
  · intro e'
    have hlt : (if m = k then rb else R m) < w1.heap.size := by
      by_cases e : m = k
      · simp only [e, if_true]; exact hrow.lt
      · simp only [e, if_false]; exact (h.rows m (by omega)).lt
    rcases hat with h1 | h1
    · rw [h1] at e'
      by_cases e : m = k
      · simp only [e, if_true] at e'; exact hrv e'
      · simp only [e, if_false] at e'; exact h.apart m (by omega) e'
    · rw [h1] at e'
      injection e' with e'
      simp at e'
      omega
set_option maxRecDepth 20000 in
set_option maxHeartbeats 2000000 in
theorem specTable_any (f : List Nd) (L : List Evt) (fb eb fc ec : Nat) (w : World) (h : TabIn w f L fb eb) :
    Calls Tryd.prog 24 #[.slice (some ⟨fb, 0, none⟩) f.length fc, .slice (some ⟨eb, 0, none⟩) L.length ec] w fun e w' => ∃ v R, e = .returned v ∧ TabOwn w' w.heap.size v f.length L.length (hv f L) R ∧ Below w.heap.size w w' := by
  obtain ⟨hf1, hf2, hf3⟩ := rightB_parts f h.hf
  obtain ⟨hl1, hl2⟩ := trB_parts L h.hl
  have HF := hid hf3
  have H := hid h
  clear h hf3 hl2
  obtain ⟨i0, hi, hz0, hz1, hz2⟩ := info_parts Tryd.infoBs
  have HT0 := hid (tab_made w w.heap.size (Nat.le_refl _) L.length (hv f L))
  have hmk : ∀ w : World, Sem.run Tryd.prog (Instr.makeSlice 52 (.int .i64 L.length) (.int .i64 L.length)) w = .ok (.slice (some ⟨w.heap.size, 0, none⟩) L.length L.length) (w.alloc (.cells (madeCells #[.bool false] L.length) 4)) :=
    fun w => run_make_row' 52 4 _ 1 Tryd.uBs Tryd.infoB rfl .i64 .i64 L.length (by omega) (by omega) w
  go_enter Tryd.func24, Tryd.ntmps24
  go_wp2_with fail
  go_loopw [5, 6] (fun v t wr => ∃ (k : Nat) (R : Nat → Nat), k ≤ f.length ∧ t = .int .i64 k ∧ TabOwn wr w.heap.size v k L.length (hv f L) R ∧ Below w.heap.size w wr) (fun _ t _ => f.length - (intOf t).toNat)
  case atStart => exact ⟨0, _, Nat.zero_le _, rfl, HT0.out, (Below.refl _ _).alloc (Nat.le_refl _) _⟩
  case round =>
    obtain ⟨k, R, hk, rfl, hT, hbel⟩ := hrel
    obtain ⟨wo, hwo⟩ : ∃ wo, wo = wr := ⟨wr, rfl⟩
    subst hwo
    have HB := hid hbel
    have HT := hid hT
    have hzr := hbel.size
    obtain ⟨ta, tc, rfl, hta, htb⟩ := hT.form
    clear hbel hT hta htb
    by_cases hlt : k < f.length
    · have HW1 := hid ((Below.refl wo.heap.size wo).alloc (Nat.le_refl _) (.cells (madeCells #[.bool false] L.length) 4))
      have HR1 := hid ((World.rowIs_made wo (.bool false) L.length 4).congr (fun j hj => (show Value.bool false = rowB (hv f L k) 0 j by simp [rowB])))
      go_wp2_with fail
      go_loopw [8] (fun s wr => ∃ i : Nat, i ≤ L.length ∧ s = .int .i64 i ∧ wr.rowIs wo.heap.size 4 L.length (rowB (hv f L k) i) ∧ Below wo.heap.size wo wr) (fun s _ => L.length - (intOf s).toNat)
      case atStart => exact ⟨0, Nat.zero_le _, rfl, HR1.out, HW1.out⟩
      case round =>
        clear HR1 HW1 hmk
        obtain ⟨i, hi', rfl, hrow, hbi⟩ := hrel
        have HRow := hid hrow
        have HBi := hid hbi
        have hzi := hbi.size
        have hrlt := hrow.lt
        clear hrow hbi
        have HTi := hid (HT.out.below HBi.out)
        by_cases hlt2 : i < L.length
        · have HIn := hid ((H.out.below (HB.out.trans (HBi.out.mono hzr))).hold hlt hlt2 (by
            obtain ⟨a2, c2, e2, hA2, _⟩ := HTi.out.form
            injection e2 with e2 e3 e4
            subst e2
            exact hA2))
          have HCall := hid (specHold_any f L k i fb eb ta fc tc ec wr HIn.out (HF.out k hlt).2.1 (HF.out k hlt).2.2)
          go_wp2_with (go_at_call 36; refine HCall.out.mono ?_; rintro e w3 ⟨rfl, hb3⟩; have HR3 := hid (HRow.out.of_block (hb3.block _ hrlt)); have HB3 := hid (HBi.out.trans (hb3.mono hzi)); have d5 := HR3.out.cell (i := i) hlt2; have f5 := HR3.out.frozen i; clear hb3)
          go_roundw
          case rel => exact ⟨i + 1, by omega, by go_num, (HR3.out.set i _).congr (fun j hj => (rowB_step _ _ _).symm), HB3.out.setCell (Nat.le_refl _) _⟩
          case measure => simp [intOf]; omega
        · have hi2 : i = L.length := by omega
          subst hi2
          have HRowF := hid (HRow.out.congr (fun j hj => (show rowB (hv f L k) L.length j = .bool (hv f L k j) by simp [rowB, hj])))
          go_wp2_with (at_builtin; refine wpList_append_own_at _ rfl _ _ 53 rfl w.heap.size 52 i0 _ 1 24 Tryd.uBss hi hz0 hz1 hz2 rfl (by decide) _ _ _ rfl (HTi.out.own.alloc _) ⟨wr.heap.size, 0, none⟩ 1 1 [.slice (some ⟨wo.heap.size, 0, none⟩) L.length L.length] rfl rfl (cell_one _ _ _) (by simp [Value.oneCell']) (by unfold maxLen; omega) (by omega) (by simp; omega) ?_; intro v2 w2 hown2 hgrow2 _ hat2; have HT2 := hid (HTi.out.snoc HRowF.out (by omega) (fun e => by have := (World.ownsRow.lt HT.out.own _ e).2; omega) _ hown2 hgrow2 hat2); have HB2 := hid (((HB.out.trans (HBi.out.mono hzr)).alloc (by omega) _).grown hgrow2 (by simp; omega) (fun q hq => (World.ownsRow.lt HT.out.own q hq).1)); clear hown2 hgrow2 hat2)
          go_roundw
          case rel => exact ⟨k + 1, _, by omega, by go_num, HT2.out, HB2.out⟩
          case measure => simp [intOf]; omega
    · have hk' : k = f.length := by omega
      subst hk'
      go_wp2_with fail
      go_ret
      exact ⟨_, R, rfl, HT.out, HB.out⟩
end Go.Proofs.YtnbegpplbjppoaaDoor
