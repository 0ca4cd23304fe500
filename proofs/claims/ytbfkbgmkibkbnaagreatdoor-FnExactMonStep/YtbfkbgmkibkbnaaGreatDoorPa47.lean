/-
  The program's MonRun, by its contract.
  Small facts on the marks: where they begin, what is marked.
-/
import Derived.Test.YtbfkbgmkibkbnaaGreatDoorPa46
import Derived.Test.YtbfkbgmkibkbnaaGreatDoorPa08
namespace Go.Proofs.YtbfkbgmkibkbnaaGreatDoor
open Go.RowKit
set_option linter.unusedVariables false
set_option linter.unusedSimpArgs false
/-- What stands in a round of the program's MonRun. -/
structure RunP (w wr : World) (q : Nat) (f : List Nd) (L : List Evt) (k g gc : Nat) (ca : Option Addr) (cc : Nat) (yes : Bool) (aa : Option Addr) (an ac : Nat) (v : Value) : Prop where
  own : OwnQ wr w.heap.size v (rTo f L k)
  nq : ¬ v.ownBlock = some q
  box : OBox wr q (some ⟨g, 0, none⟩) f.length gc (k : Int) (nowK L k) ca f.length cc yes aa an ac 0
  fr : OFree wr q
  nodes : NodesAt wr g f
  cks : CksAt wr ca (runC f L k)
  bel : Below w.heap.size w wr
  low : w.heap.size ≤ q
/-- A round's end: the answer's store, the append. -/
theorem RunP.next {w wr V w5 : World} {q : Nat} {f : List Nd} {L : List Evt} {k g gc : Nat} {ca : Option Addr} {cc : Nat} {yes : Bool} {aa : Option Addr} {an ac : Nat} {v : Value} (h : RunP w wr q f L k g gc ca cc yes aa an ac v) (hV : Below wr.heap.size wr V) {g' gc' cb ab : Nat} {Vf : Nat → Value} {yes' : Bool} (hn : NodesAt V g' f) (hg : wr.heap.size ≤ g') (hcb : wr.heap.size ≤ cb) (hO : CkO V cb (f.length * 4) (runC f L (k + 1)) Vf zC f.length) {o : Obj} {v' : Value}
    (hgrow : ((((((((V.setCell ⟨q, 0, none⟩ (.slice (some ⟨g', 0, none⟩) f.length gc')).setCell ⟨q, 1, none⟩ (.int .i64 ((k : Int) + 1))).setCell ⟨q, 2, none⟩ (.int .i64 (evAt L k).1)).setCell ⟨q, 3, none⟩ (.slice (some ⟨cb, 0, none⟩) f.length f.length)).setCell ⟨q, 4, none⟩ (.bool yes')).setCell ⟨q, 5, none⟩ (.slice (some ⟨ab, 0, none⟩) f.length f.length)).setCell ⟨q, 6, none⟩ (.int .i64 0)).alloc o).grownBy w5 v.ownBlock)
    (hat : v'.ownBlock = v.ownBlock ∨ v'.ownBlock = some ((((((((V.setCell ⟨q, 0, none⟩ (.slice (some ⟨g', 0, none⟩) f.length gc')).setCell ⟨q, 1, none⟩ (.int .i64 ((k : Int) + 1))).setCell ⟨q, 2, none⟩ (.int .i64 (evAt L k).1)).setCell ⟨q, 3, none⟩ (.slice (some ⟨cb, 0, none⟩) f.length f.length)).setCell ⟨q, 4, none⟩ (.bool yes')).setCell ⟨q, 5, none⟩ (.slice (some ⟨ab, 0, none⟩) f.length f.length)).setCell ⟨q, 6, none⟩ (.int .i64 0)).alloc o).heap.size)
    (hown : OwnQ w5 w.heap.size v' (rTo f L (k + 1))) : RunP w w5 q f L (k + 1) g' gc' (some ⟨cb, 0, none⟩) f.length yes' (some ⟨ab, 0, none⟩) f.length f.length v' := by
  have hq := h.box.lt
  have hVs := hV.size
  have hrow := World.ownsRow.lt h.own
  have hb := h.box.on hV
  have hf := h.fr.on hV hq
  have hset := set7 V q (.slice (some ⟨g', 0, none⟩) f.length gc') (.int .i64 ((k : Int) + 1)) (.int .i64 (evAt L k).1) (.slice (some ⟨cb, 0, none⟩) f.length f.length) (.bool yes') (.slice (some ⟨ab, 0, none⟩) f.length f.length) (.int .i64 0)
  have hM1 : OBox (((((((V.setCell ⟨q, 0, none⟩ (.slice (some ⟨g', 0, none⟩) f.length gc')).setCell ⟨q, 1, none⟩ (.int .i64 ((k : Int) + 1))).setCell ⟨q, 2, none⟩ (.int .i64 (evAt L k).1)).setCell ⟨q, 3, none⟩ (.slice (some ⟨cb, 0, none⟩) f.length f.length)).setCell ⟨q, 4, none⟩ (.bool yes')).setCell ⟨q, 5, none⟩ (.slice (some ⟨ab, 0, none⟩) f.length f.length)).setCell ⟨q, 6, none⟩ (.int .i64 0)) q (some ⟨g', 0, none⟩) f.length gc' ((k : Int) + 1) (evAt L k).1 (some ⟨cb, 0, none⟩) f.length f.length yes' (some ⟨ab, 0, none⟩) f.length f.length 0 := ⟨by simpa using hb.lt, by simp [go_sem, hb.o0], by simp [go_sem, hb.o1], by simp [go_sem, hb.o2], by simp [go_sem, hb.o3], by simp [go_sem, hb.o4], by simp [go_sem, hb.o5], by simp [go_sem, hb.o6]⟩
  have hF1 : OFree (((((((V.setCell ⟨q, 0, none⟩ (.slice (some ⟨g', 0, none⟩) f.length gc')).setCell ⟨q, 1, none⟩ (.int .i64 ((k : Int) + 1))).setCell ⟨q, 2, none⟩ (.int .i64 (evAt L k).1)).setCell ⟨q, 3, none⟩ (.slice (some ⟨cb, 0, none⟩) f.length f.length)).setCell ⟨q, 4, none⟩ (.bool yes')).setCell ⟨q, 5, none⟩ (.slice (some ⟨ab, 0, none⟩) f.length f.length)).setCell ⟨q, 6, none⟩ (.int .i64 0)) q := ⟨by simpa using hf.g0, by simpa using hf.g1, by simpa using hf.g2, by simpa using hf.g3, by simpa using hf.g4, by simpa using hf.g5, by simpa using hf.g6⟩
  generalize ((((((V.setCell ⟨q, 0, none⟩ (.slice (some ⟨g', 0, none⟩) f.length gc')).setCell ⟨q, 1, none⟩ (.int .i64 ((k : Int) + 1))).setCell ⟨q, 2, none⟩ (.int .i64 (evAt L k).1)).setCell ⟨q, 3, none⟩ (.slice (some ⟨cb, 0, none⟩) f.length f.length)).setCell ⟨q, 4, none⟩ (.bool yes')).setCell ⟨q, 5, none⟩ (.slice (some ⟨ab, 0, none⟩) f.length f.length)).setCell ⟨q, 6, none⟩ (.int .i64 0) = V1 at *
  have h15 : Save V1 w5 (fun j => v.ownBlock = some j) := ((Save.refl V1 (fun j => v.ownBlock = some j)).alloc o).grown hgrow (fun _ e _ => e)
  have hVq : Save V w5 (fun j => j = q ∨ v.ownBlock = some j) := (hset.mono (T := fun j => j = q ∨ v.ownBlock = some j) (fun j _ e => Or.inl e)).trans (h15.mono (fun j _ e => Or.inr e))
  have hVw : Save V w5 (fun j => j < wr.heap.size) := hVq.mono (fun j _ e => by rcases e with e | e; omega; exact (hrow j e).2)
  have hz1 := hset.size
  have hz5 := h15.size
  have ek : ((k + 1 : Nat) : Int) = (k : Int) + 1 := by omega
  refine ⟨hown, fun e => ?_, ?_, ⟨(h15.frozen (p := ⟨q, _, none⟩) hM1.lt h.nq).trans hF1.g0, (h15.frozen (p := ⟨q, _, none⟩) hM1.lt h.nq).trans hF1.g1, (h15.frozen (p := ⟨q, _, none⟩) hM1.lt h.nq).trans hF1.g2, (h15.frozen (p := ⟨q, _, none⟩) hM1.lt h.nq).trans hF1.g3, (h15.frozen (p := ⟨q, _, none⟩) hM1.lt h.nq).trans hF1.g4, (h15.frozen (p := ⟨q, _, none⟩) hM1.lt h.nq).trans hF1.g5, (h15.frozen (p := ⟨q, _, none⟩) hM1.lt h.nq).trans hF1.g6⟩, hVw.nodes hn (by omega), ?_, h.bel.trans ((hV.mono h.bel.size).trans (hVq.below (B := w.heap.size) (by have := h.bel.size; omega) (fun j hj => by rcases hj with rfl | hj; exact h.low; exact (hrow j hj).1))), h.low⟩
  · rcases hat with h6 | h6
    · exact h.nq (h6 ▸ e)
    · rw [h6] at e
      injection e with e
      simp at e
      omega
  · rw [ek, nowK_succ]
    exact hM1.save h15 h.nq
  · have hO5 := hO.save hVw (by omega) (fun j hj => by omega)
    have hlen := runC_len f L (k + 1)
    have := ckO_at (D := runC f L (k + 1)) (m := f.length * 4) (by omega) (by rw [hlen]; exact hO5)
    exact this
set_option maxRecDepth 20000 in
set_option maxHeartbeats 8000000 in
theorem implMRun_any (f : List Nd) (L : List Evt) (fb eb fc ec : Nat) (w : World) (h : MeanIn w f L fb eb) (hkw : Kw w) (hg : 1 < w.heap.size) :
    Calls Tryz.prog 7 #[.slice (some ⟨fb, 0, none⟩) f.length fc, .slice (some ⟨eb, 0, none⟩) L.length ec] w fun e w' => ∃ a c, e = .returned (.slice a (vdB f L).length c) ∧ BsAt w' a (vdB f L) ∧ RowBs w' a (vdB f L).length ∧ (∀ b, a = some ⟨b, 0, none⟩ → w.heap.size ≤ b ∧ b < w'.heap.size) ∧ (∀ q, a = some q → q = ⟨q.block, 0, none⟩) ∧ Below w.heap.size w w' := by
  have H := hid h
  have HK := hid hkw
  have hfl := h.fl
  have hll := h.ll
  have hm1 : f.length ≤ maxLen := by unfold maxLen; omega
  have hm2 : L.length ≤ maxLen := by unfold maxLen; omega
  have HM1 := hid hm1
  have HM2 := hid hm2
  clear h hkw hm1 hm2
  rcases (Bool.eq_false_or_eq_true (rightB f)).symm with hr | hr
  · have HV := hid (vdB_no1 f L hr)
    have HR := hid hr
    clear hr
    go_enter Tryz.func7, Tryz.ntmps7
    go_wp2_with (go_at_call 44; refine (implRight_is f false HR.out fb fc _ H.out.nodes H.out.fok HM1.out HK.out hg).mono ?_; rintro e w1 ⟨rfl, hb1⟩; have HB1 := hid hb1; have HM := hid (H.out.below hb1); have hg1 := Nat.lt_of_lt_of_le hg hb1.size; clear hb1)
    go_ret
    exact ⟨none, 0, by rw [HV.out]; rfl, Or.inl (by rw [HV.out]; rfl), Or.inl (by rw [HV.out]; rfl), fun b e => (by cases e), fun b e => (by cases e), HB1.out⟩
  have HR := hid hr
  clear hr
  rcases (Bool.eq_false_or_eq_true (trB L)).symm with ht | ht
  · have HV := hid (vdB_no2 f L ht)
    have HT := hid ht
    clear ht
    go_enter Tryz.func7, Tryz.ntmps7
    go_wp2_with (first | (go_at_call 44; refine (implRight_is f true HR.out fb fc _ H.out.nodes H.out.fok HM1.out HK.out hg).mono ?_; rintro e w1 ⟨rfl, hb1⟩; have HB1 := hid hb1; have HM := hid (H.out.below hb1); have hg1 := Nat.lt_of_lt_of_le hg hb1.size; clear hb1) | (go_at_call 45; refine (implTrace_is L false HT.out eb ec H.out.lok HM2.out _ HM.out.evs (HK.out.below HB1.out hg) hg1).mono ?_; rintro e w2 ⟨rfl, hb2⟩; have HB2 := hid (HB1.out.trans (hb2.mono HB1.out.size)); have HMM := hid (HM.out.below hb2); have hz2 := HB2.out.size; clear hb2))
    go_ret
    exact ⟨none, 0, by rw [HV.out]; rfl, Or.inl (by rw [HV.out]; rfl), Or.inl (by rw [HV.out]; rfl), fun b e => (by cases e), fun b e => (by cases e), HB2.out⟩
  have HV := hid (rTo_vd HR.out ht)
  obtain ⟨hf1, hf2, _⟩ := rightB_parts f HR.out
  have hl60 := (trB_parts L ht).1
  have HEv := hid (tr_ev ht)
  have HMo := hid (tr_mon ht)
  have HT := hid ht
  have HRt := hid (run_right HR.out hl60 HEv.out HMo.out)
  have hc0 : newCode f = 0 := newCode_ok (by omega) HR.out
  have hF0 : newF f = f := newF_yes hc0
  have HCF := hid (And.intro hF0 hc0)
  clear ht hc0 hF0
  obtain ⟨i0, hi, hy0, hy1, hy2⟩ := info_parts Tryz.infoBo
  go_enter Tryz.func7, Tryz.ntmps7
  go_wp2_with (first | (go_at_call 44; refine (implRight_is f true HR.out fb fc _ H.out.nodes H.out.fok HM1.out HK.out hg).mono ?_; rintro e w1 ⟨rfl, hb1⟩; have HB1 := hid hb1; have HM := hid (H.out.below hb1); have hg1 := Nat.lt_of_lt_of_le hg hb1.size; clear hb1) | (go_at_call 45; refine (implTrace_is L true HT.out eb ec H.out.lok HM2.out _ HM.out.evs (HK.out.below HB1.out hg) hg1).mono ?_; rintro e w2 ⟨rfl, hb2⟩; have HB2 := hid (HB1.out.trans (hb2.mono HB1.out.size)); have HMM := hid (HM.out.below hb2); have hz2 := HB2.out.size; have hg2 := Nat.lt_of_lt_of_le hg hz2; clear hb2) | (go_at_call 12; refine (implMNew_any f fb fc _ HMM.out.nodes H.out.fok hfl (HK.out.below HB2.out hg) hg2 f 0 HCF.out.1 HCF.out.2).mono ?_; rintro e w3 ⟨fa, gc, va, vc, rfl, hn3, _, hc3, hf3, hv3, _, hb3⟩; have HB3 := hid (HB2.out.trans (hb3.mono HB2.out.size)); have hz3 := hb3.size; obtain ⟨g, rfl, hn3'⟩ := hn3.resolve_left (by omega); have HN3 := hid hn3'; have HC3 := hid hc3.cks; unfold outV; clear hb3 hn3 hn3' hc3 hf3 hv3))
  have HX4 : Hid (RunP w (w3.alloc (.cells #[.slice (some ⟨g, 0, none⟩) f.length gc, .int .i64 0, .int .i64 0, .slice va f.length vc, .bool false, .slice none 0 0, .int .i64 0] 36)) w3.heap.size f L 0 g gc va vc false none 0 0 (.slice none 0 0)) := ⟨World.ownsRow_nil _ _ _ _, fun e => by simp [Value.ownBlock] at e, by have := (OBox.new2 w3 (some ⟨g, 0, none⟩) f.length gc 0 0 va f.length vc false none 0 0 0).1; simpa [nowK] using this, (OBox.new2 w3 (some ⟨g, 0, none⟩) f.length gc 0 0 va f.length vc false none 0 0 0).2, HN3.out.below (below_one' w3 _) HN3.out.1, HC3.out.on (below_one' w3 _), HB3.out.trans ((below_one' w3 _).mono HB3.out.size), HB3.out.size⟩
  have hq4 : w3.heap.size < (w3.alloc (.cells #[.slice (some ⟨g, 0, none⟩) f.length gc, .int .i64 0, .int .i64 0, .slice va f.length vc, .bool false, .slice none 0 0, .int .i64 0] 36)).heap.size := by simp
  generalize w3.alloc (.cells #[.slice (some ⟨g, 0, none⟩) f.length gc, .int .i64 0, .int .i64 0, .slice va f.length vc, .bool false, .slice none 0 0, .int .i64 0] 36) = W4 at *
  generalize w3.heap.size = q at *
  clear HN3 HC3
  go_loopw [6, 21] (fun v t wr => ∃ (k g gc : Nat) (ca : Option Addr) (cc : Nat) (yes : Bool) (aa : Option Addr) (an ac : Nat), k ≤ L.length ∧ t = .int .i64 k ∧ RunP w wr q f L k g gc ca cc yes aa an ac v) (fun _ t _ => L.length - (intOf t).toNat)
  case atStart => exact ⟨0, g, gc, va, vc, false, none, 0, 0, Nat.zero_le _, rfl, HX4.out⟩
  case round =>
    clear HX4
    obtain ⟨k, g1, gc1, ca, cc, yes, aa, an, ac, hk, rfl, hR⟩ := hrel
    have HR1 := hid hR
    have HVS := hid (rTo_succ f L k)
    have HVL := hid (rTo_len f L k)
    obtain ⟨va', vc', hva, _⟩ := hR.own.form
    rw [rTo_len] at hva
    subst hva
    have HBr := hid hR.bel
    clear hR
    by_cases hlt : k < L.length
    · obtain ⟨e0, na, nc, e1, hT⟩ := (H.out.below HBr.out).evs.2 k hlt
      have heb := (H.out.below HBr.out).evs.1
      have HT1 := hid hT
      have hl := runC_len f L k
      have HSt := hid (fun W' (hb : Below wr.heap.size wr W') => implStep_ok f g1 gc1 (k : Int) (nowK L k) (runC f L k) ca cc (evAt L k).1 (evAt L k).2 na (evAt L k).2.length nc rfl (H.out.lok k hlt).2.2 (H.out.lok k hlt).2.1 (HRt.out k hk) (HEv.out k hlt) (nowK_le HMo.out HEv.out k hlt) (by omega) (runC f L (k + 1)) rfl (runG f L k) rfl W' (monIn_gen (HR1.out.nodes.below hb HR1.out.nodes.1) (H.out.fok) (HRt.out k hk) (HR1.out.cks.on hb)) (HT1.out.below hb) ((HK.out.below HBr.out hg).below hb (Nat.lt_of_lt_of_le hg HBr.out.size)) (Nat.lt_of_lt_of_le hg (Nat.le_trans HBr.out.size hb.size)))
      rw [hl] at HSt
      obtain ⟨m4, o0, o1, o2, o3, o4, o5, o6⟩ := HR1.out.box
      obtain ⟨p0, p1, p2, p3, p4, p5, p6⟩ := HR1.out.fr
      clear hT hl
      have hbl := below_one' wr (.cells #[.int .i64 (evAt L k).1, .slice na (evAt L k).2.length nc] 41)
      have HBl := hid hbl
      clear hbl
      go_wp2_with fail
      refine (HSt.out _ HBl.out).mono ?_
      rintro e w5 ⟨g5, gc5, cb5, ab5, V5, rfl, h51, h52, h53, hn5, _, hO5, _, _, hb5⟩
      have hz0 : (wr.alloc (.cells #[.int .i64 (evAt L k).1, .slice na (evAt L k).2.length nc] 41)).heap.size = wr.heap.size + 1 := by simp
      have HB5 := hid (HBl.out.trans (hb5.mono HBl.out.size))
      have HN5 := hid hn5
      have HO5 := hid hO5
      have hab : wr.heap.size ≤ ab5 := by omega
      clear hb5 hn5 hO5 o0 o1 o2 o3 o4 o5 o6 p0 p1 p2 p3 p4 p5 p6
      obtain ⟨l5, o0, o1, o2, o3, o4, o5, o6⟩ := HR1.out.box.on HB5.out
      obtain ⟨p0, p1, p2, p3, p4, p5, p6⟩ := HR1.out.fr.on HB5.out m4
      have hz5 := HB5.out.size
      have HOw : Hid (∀ o, OwnQ ((((((((w5.setCell ⟨q, 0, none⟩ (.slice (some ⟨g5, 0, none⟩) f.length gc5)).setCell ⟨q, 1, none⟩ (.int .i64 ((k : Int) + 1))).setCell ⟨q, 2, none⟩ (.int .i64 (evAt L k).1)).setCell ⟨q, 3, none⟩ (.slice (some ⟨cb5, 0, none⟩) f.length f.length)).setCell ⟨q, 4, none⟩ (.bool (runG f L k (f.length - 1)))).setCell ⟨q, 5, none⟩ (.slice (some ⟨ab5, 0, none⟩) f.length f.length)).setCell ⟨q, 6, none⟩ (.int .i64 0)).alloc o) w.heap.size (.slice va' k vc') (rTo f L k)) := fun o => ((HR1.out.own.save (Save.of_below HB5.out (fun j => j = q) (fun j h1 h2 => absurd h1 (by omega))) (fun j e h => HR1.out.nq (h ▸ e))).save (set7 w5 q (.slice (some ⟨g5, 0, none⟩) f.length gc5) (.int .i64 ((k : Int) + 1)) (.int .i64 (evAt L k).1) (.slice (some ⟨cb5, 0, none⟩) f.length f.length) (.bool (runG f L k (f.length - 1))) (.slice (some ⟨ab5, 0, none⟩) f.length f.length) (.int .i64 0)) (fun j e h => HR1.out.nq (h ▸ e))).save (S := fun _ => False) ((Save.refl _ (fun _ => False)).alloc o) (fun _ _ h => h)
      go_wp2_with (at_builtin; refine wpList_append_own_at _ rfl _ _ 27 rfl w.heap.size 4 i0 _ 1 1 Tryz.uBos hi hy0 hy1 hy2 rfl (by decide) _ _ _ rfl (HOw.out _) ⟨w5.heap.size, 0, none⟩ 1 1 [.bool (runG f L k (f.length - 1))] rfl rfl (cell_one' _ w5.heap.size (by simp) _ _) (by simp [Value.oneCell']) (by rw [HVL.out]; unfold maxLen; omega) (by rw [HVL.out]; omega) (by simp; have := HBr.out.size; omega) ?_; intro v8 w8 hown8 hgrow8 _ hat8; have HNx := hid (HR1.out.next HB5.out HN5.out (by omega) (by omega) HO5.out hgrow8 hat8 (by show w8.ownsRow _ _ _ _ _ _; rw [HVS.out, List.length_append, List.map_append]; exact hown8)); clear hown8 hgrow8 hat8)
      go_roundw
      case rel => exact ⟨k + 1, g5, gc5, some ⟨cb5, 0, none⟩, f.length, runG f L k (f.length - 1), some ⟨ab5, 0, none⟩, f.length, f.length, by omega, by go_num, HNx.out⟩
      case measure => simp [intOf]; omega
    · have hk' : k = L.length := by omega
      subst hk'
      obtain ⟨a9, c9, e9, hB9, hR9, hL9, hF9⟩ := HR1.out.own.form
      have HB9 := hid hB9
      have HR9 := hid hR9
      have HL9 := hid hL9
      have HF9 := hid hF9
      rw [rTo_len] at e9
      injection e9 with e9 _ e10
      subst e9 e10
      clear hB9 hR9 hL9 hF9
      go_wp2_with fail
      go_ret
      rw [HV.out]
      refine ⟨_, ⟨vc', ?_⟩, HB9.out, HR9.out, HL9.out, HF9.out, HBr.out⟩
      show Ending.returned (Value.slice va' L.length vc') = _
      rw [HVL.out]
end Go.Proofs.YtbfkbgmkibkbnaaGreatDoor
namespace Go.Proofs.YtbfkbgmkibkbnaaGreatDoor
open Go.RowKit
set_option linter.unusedVariables false
set_option linter.unusedSimpArgs false
theorem ofT_flat {a : Option Addr} {j : Nat} {P : Nat → Prop} (h : OfT a j) (hp : ∀ b, a = some ⟨b, 0, none⟩ → P b) (ha : ∀ q, a = some q → q = ⟨q.block, 0, none⟩) : P j := by
  obtain ⟨q, rfl, rfl⟩ := h
  exact hp _ (by rw [← ha q rfl])
def lenN (E : List Evt) (i : Nat) : Nat := (evAt E i).2.length
theorem kAt_sum (E : List Evt) (k0 : Nat) : ∀ k, kAt k0 (lenN E) k = k0 + k + sumN E k
  | 0 => rfl
  | k + 1 => by
    show kAt k0 (lenN E) k + 1 + lenN E k = k0 + (k + 1) + (sumN E k + (evAt E k).2.length)
    rw [kAt_sum E k0 k]
    unfold lenN
    omega
/-- A row of events as toEventS makes it, to be written to. -/
theorem EvRow.mk' {w : World} {b : Nat} {E : List Evt} {A : Nat → Nat} {z : Nat → Value} (h : EvRow w b E A z E.length) : EvMk w b E.length (fun i => some ⟨A i, 0, none⟩) (lenN E) (lenN E) := by
  refine ⟨⟨_, h.row, fun i hi => ?_⟩, fun i hi => Or.inr ⟨A i, _, rfl, h.names i hi⟩, fun i hi q e => ?_, fun i j hi hj hne q r e1 e2 => ?_⟩
  · unfold rowE
    rw [if_pos (by omega), if_neg (by omega), show (i * 2 + 1) / 2 = i by omega]
    rfl
  · injection e with e
    subst e
    have := h.above i hi
    show A i ≠ b
    omega
  · injection e1 with e1
    injection e2 with e2
    subst e1 e2
    show A i ≠ A j
    rcases Nat.lt_or_gt_of_ne hne with hl | hl
    · have := h.rising i j hl hj; omega
    · have := h.rising j i hl hi; omega
end Go.Proofs.YtbfkbgmkibkbnaaGreatDoor
