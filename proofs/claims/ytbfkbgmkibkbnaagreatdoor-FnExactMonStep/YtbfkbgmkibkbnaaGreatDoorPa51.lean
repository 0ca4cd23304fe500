/-
  The walk of the law FnExactMonStep.
-/
import Derived.Test.YtbfkbgmkibkbnaaGreatDoorPa50
import Derived.Test.YtbfkbgmkibkbnaaGreatDoorPa00
namespace Go.Proofs.YtbfkbgmkibkbnaaGreatDoor
open Go.RowKit
set_option linter.unusedVariables false
set_option linter.unusedSimpArgs false
theorem ms_each {C : List Cl} (h : sumT C C.length ≤ 1048576) : ∀ i, i < C.length → (clAt C i).ts.length ≤ 1048576 := fun i hi => by have := sumT_one C hi; omega
/-- A new MonOut's box. -/
structure OBF (W : World) (q : Nat) : Prop where
  o : OBox W q none 0 0 0 0 none 0 0 false none 0 0 0
  g : OFree W q
theorem OBF.on {W W' : World} {q : Nat} (h : OBF W q) (hb : Below W.heap.size W W') : OBF W' q := ⟨h.o.on hb, h.g.on hb h.o.lt⟩
theorem mozn {V w2 : World} (h : Below (V.alloc (.cells #[.slice none 0 0, .int .i64 0, .int .i64 0, .slice none 0 0, .bool false, .slice none 0 0, .int .i64 0] 36)).heap.size (V.alloc (.cells #[.slice none 0 0, .int .i64 0, .int .i64 0, .slice none 0 0, .bool false, .slice none 0 0, .int .i64 0] 36)) w2) : Below V.heap.size V w2 ∧ OBF w2 V.heap.size := by
  have hz : (V.alloc (.cells #[.slice none 0 0, .int .i64 0, .int .i64 0, .slice none 0 0, .bool false, .slice none 0 0, .int .i64 0] 36)).heap.size = V.heap.size + 1 := by simp
  have hs := h.size
  have hz0 := OBox.zero V
  unfold oZ at hz0
  exact ⟨(below_one' V _).trans (h.mono (by omega)), hz0.1.on h, hz0.2.on h (by omega)⟩
theorem mozq {V w2 : World} (h : Below (V.alloc (.cells #[.slice none 0 0, .int .i64 0, .int .i64 0, .slice none 0 0, .bool false, .slice none 0 0, .int .i64 0] 36)).drew.heap.size (V.alloc (.cells #[.slice none 0 0, .int .i64 0, .int .i64 0, .slice none 0 0, .bool false, .slice none 0 0, .int .i64 0] 36)).drew w2) : Below V.heap.size V w2 ∧ OBF w2 V.heap.size := mozn (below_undrew h)
theorem below_set7' {w W : World} {q : Nat} (h : Below w.heap.size w W) (hq : w.heap.size ≤ q) (x0 x1 x2 x3 x4 x5 x6 : Value) : Below w.heap.size w (((((((W.setCell ⟨q, 0, none⟩ x0).setCell ⟨q, 1, none⟩ x1).setCell ⟨q, 2, none⟩ x2).setCell ⟨q, 3, none⟩ x3).setCell ⟨q, 4, none⟩ x4).setCell ⟨q, 5, none⟩ x5).setCell ⟨q, 6, none⟩ x6) :=
  h.trans ((set7 W q x0 x1 x2 x3 x4 x5 x6).below (B := w.heap.size) h.size (fun j e => by omega))
theorem OBF.fill {W : World} {q : Nat} (h : OBF W q) (fa : Option Addr) (fn fc : Nat) (cnt now : Int) (ca : Option Addr) (cn cc : Nat) (yes : Bool) (aa : Option Addr) (an ac : Nat) (code : Int) : OBox (((((((W.setCell ⟨q, 0, none⟩ (.slice fa fn fc)).setCell ⟨q, 1, none⟩ (.int .i64 cnt)).setCell ⟨q, 2, none⟩ (.int .i64 now)).setCell ⟨q, 3, none⟩ (.slice ca cn cc)).setCell ⟨q, 4, none⟩ (.bool yes)).setCell ⟨q, 5, none⟩ (.slice aa an ac)).setCell ⟨q, 6, none⟩ (.int .i64 code)) q fa fn fc cnt now ca cn cc yes aa an ac code :=
  ⟨by simpa using h.o.lt, by simp [go_sem, h.o.o0], by simp [go_sem, h.o.o1], by simp [go_sem, h.o.o2], by simp [go_sem, h.o.o3], by simp [go_sem, h.o.o4], by simp [go_sem, h.o.o5], by simp [go_sem, h.o.o6]⟩
set_option maxRecDepth 20000 in
set_option maxHeartbeats 1000000 in
theorem markEvent_k (tm : Int) (n k0 : Nat) (hk0 : 0 < k0) (hk1 : k0 + n ≤ 1000000000) (a : Option Addr) (c : Nat) (w : World) (h : RowT w a n) :
    Calls Tryz.prog 26 #[.agg #[.int .i64 tm, .slice a n c], .int .i64 k0] w fun e w' => e = .returned (.int .i64 (k0 + n : Nat)) ∧ Save w w' (OfT a) := by
  have HB0 := hid (below_one' w (.cells #[.int .i64 tm, .slice a n c] 41))
  have H := hid (h.below HB0.out)
  have hS0 : Hid (Save w (w.alloc (.cells #[.int .i64 tm, .slice a n c] 41)) (OfT a)) := Save.alloc (Save.refl w _) _
  clear h
  go_enter Tryz.func26, Tryz.ntmps26
  go_wp2_with (go_at_call 70; refine (markStringS_from n k0 k0 rfl hk0 hk1 a c _ H.out).mono ?_; rintro e w1 ⟨rfl, _, _, hs1⟩; have HS1 := hid (hS0.out.trans hs1); clear hs1)
  go_ret
  exact ⟨rfl, HS1.out⟩
set_option maxRecDepth 20000 in
set_option maxHeartbeats 16000000 in
theorem walkMonStep (f : List Nd) (fa : Option Addr) (fc : Nat) (cnt now : Int) (C : List Cl) (ca : Option Addr) (cc : Nat) (tm : Int) (S : List ByteArray) (na : Option Addr) (nc : Nat) (w : World) (hF : InN w fa fc f) (hC : InCs w ca C) (hE : InE w na S) (hkw : Kw w) (hg : 1 < w.heap.size) :
    Calls Tryz.prog 4 #[.agg #[.slice fa f.length fc, .int .i64 cnt, .int .i64 now, .slice ca C.length cc], .agg #[.int .i64 tm, .slice na S.length nc]] w fun e w' => e = .returned (.bool true) ∧ Below w.heap.size w w' := by
  obtain ⟨F, D, V, n, m, cnt', now', yes, code, N, hPk⟩ := msPk f cnt now C tm S hE.ok hE.len
  have HP := hid hPk
  have hln := hPk.ln
  have hlm := hPk.lm
  have HF := hid hF
  have HC := hid hC
  have HE := hid hE
  have HK := hid hkw
  have HU : Hid (∀ fa fn fc cnt now ca cn cc, moV fa fn fc cnt now ca cn cc = .agg #[.slice fa fn fc, .int .i64 cnt, .int .i64 now, .slice ca cn cc]) := fun _ _ _ _ _ _ _ _ => rfl
  clear hF hC hE hkw hPk
  go_enter Tryz.func4, Tryz.ntmps4
  go_wp2_with fail
  have HB0 := hid (bbelow2' w (.cells #[.slice fa f.length fc, .int .i64 cnt, .int .i64 now, .slice ca C.length cc] 49) (.cells #[.int .i64 tm, .slice na S.length nc] 50))
  have HX0 := hid ((MBox.new w fa f.length fc cnt now ca C.length cc 49).on (below_one' _ (.cells #[.int .i64 tm, .slice na S.length nc] 50)))
  have HEb0 : Hid (BoxE ((w.alloc (.cells #[.slice fa f.length fc, .int .i64 cnt, .int .i64 now, .slice ca C.length cc] 49)).alloc (.cells #[.int .i64 tm, .slice na S.length nc] 50)) (w.heap.size + 1) tm (.slice na S.length nc)) := by
    have := BoxE.new (w.alloc (.cells #[.slice fa f.length fc, .int .i64 cnt, .int .i64 now, .slice ca C.length cc] 49)) tm (.slice na S.length nc) 50
    rw [World.size_alloc] at this
    exact this
  generalize (w.alloc (.cells #[.slice fa f.length fc, .int .i64 cnt, .int .i64 now, .slice ca C.length cc] 49)).alloc (.cells #[.int .i64 tm, .slice na S.length nc] 50) = W0 at *
  have hz0 := HB0.out.size
  have HSz := hid (fun w h1 h2 => szMon_any f fa fc cnt now C ca cc w h1 h2)
  rw [HU.out] at HSz
  refine (HSz.out _ ⟨HF.out.arg.below HB0.out (Nat.le_refl _), HF.out.ok, HF.out.len⟩ ⟨HC.out.arg.below HB0.out (Nat.le_refl _), HC.out.ok, HC.out.len⟩).mono ?_
  rintro e w1 ⟨r, rfl, q1, q2, hr, hb1⟩
  have HB1 := hid (HB0.out.trans (hb1.mono hz0))
  have hz1 := hb1.size
  have HX1 := hid (HX0.out.on hb1)
  have HEb1 := hid (HEb0.out.below hb1)
  by_cases hr0 : r < 0
  · clear hb1 hr
    go_wp2_with fail
    go_ret
    exact ⟨rfl, HB1.out⟩
  obtain ⟨⟨hl, _⟩, hl1, hl2'⟩ := hr (by omega)
  have hl2 := ms_each hl2'
  have HL2 := hid hl2
  have HLs := hid hl2'
  clear hb1 hr hl2 hl2'
  obtain ⟨_, e0, e1⟩ := HEb1.out
  obtain ⟨_, x0, x1, x2, x3⟩ := HX1.out
  go_wp2_with fail
  refine (szEvent_any tm S na nc HE.out.ok HE.out.len r (by omega) q2 _ (HE.out.arg.below HB1.out (Nat.le_refl _))).mono ?_
  rintro e w2 ⟨s, rfl, p1, p2, hs, hb2⟩
  have HB2 := hid (HB1.out.trans (hb2.mono (by omega)))
  have hz2 := hb2.size
  have HX2 := hid (HX1.out.on hb2)
  have HEb2 := hid (HEb1.out.below hb2)
  by_cases hs0 : s < 0
  · clear hb2 hs
    go_wp2_with fail
    go_ret
    exact ⟨rfl, HB2.out⟩
  obtain ⟨hls, _, _⟩ := hs (by omega)
  clear hb2 hs e0 e1 x0 x1 x2 x3
  have HTM := hid (fun w h1 h2 => toMon_any f fa fc cnt now C ca cc hl hl1 HL2.out w h1 h2)
  rw [HU.out] at HTM
  have HTE := hid (fun w h => toEvent_any tm S na nc hls w h)
  have HMI : Hid (∀ w b c A z, NodesAt w b f → CkRow w c C A z C.length → MonIn w b f (some ⟨c, 0, none⟩) C) := fun w b c A z h1 h2 => ⟨h1, HF.out.ok, hl, h2.at HL2.out, hl1, fun i hi => by have := HL2.out i hi; omega⟩
  have HAF8 := hid (fun X (hb : Below w2.heap.size w2 X) => HF.out.arg.below (HB2.out.trans (hb.mono HB2.out.size)) (Nat.le_refl _))
  have HAC8 := hid (fun X (hb : Below w2.heap.size w2 X) => HC.out.arg.below (HB2.out.trans (hb.mono HB2.out.size)) (Nat.le_refl _))
  have HAT8 := hid (fun X (hb : Below w2.heap.size w2 X) => HE.out.arg.below (HB2.out.trans (hb.mono HB2.out.size)) (Nat.le_refl _))
  have HBz8 := hid (Below.refl w2.heap.size w2)
  have HS8 := hid (fun W' (hb : Below w2.heap.size w2 W') => (by obtain ⟨_, x0, x1, x2, x3⟩ := HX2.out.on hb; obtain ⟨_, e0, e1⟩ := HEb2.out.below hb; exact ⟨x0, x1, x2, x3, e0, e1⟩ : W'.cell? ⟨w.heap.size, 0, none⟩ = some (.slice fa f.length fc) ∧ W'.cell? ⟨w.heap.size, 1, none⟩ = some (.int .i64 cnt) ∧ W'.cell? ⟨w.heap.size, 2, none⟩ = some (.int .i64 now) ∧ W'.cell? ⟨w.heap.size, 3, none⟩ = some (.slice ca C.length cc) ∧ W'.cell? ⟨w.heap.size + 1, 0, none⟩ = some (.int .i64 tm) ∧ W'.cell? ⟨w.heap.size + 1, 1, none⟩ = some (.slice na S.length nc)))
  obtain ⟨_, e0, e1⟩ := HEb2.out
  obtain ⟨_, x0, x1, x2, x3⟩ := HX2.out
  go_wp2_with fail
  clear e0 e1 x0 x1 x2 x3
  go_region_held3 (fun W' => W'.cell? ⟨w.heap.size, 0, none⟩ = some (.slice fa f.length fc) ∧ W'.cell? ⟨w.heap.size, 1, none⟩ = some (.int .i64 cnt) ∧ W'.cell? ⟨w.heap.size, 2, none⟩ = some (.int .i64 now) ∧ W'.cell? ⟨w.heap.size, 3, none⟩ = some (.slice ca C.length cc) ∧ W'.cell? ⟨w.heap.size + 1, 0, none⟩ = some (.int .i64 tm) ∧ W'.cell? ⟨w.heap.size + 1, 1, none⟩ = some (.slice na S.length nc)) (first | (with_reducible exact HS8.out _ (below_drew HBz8.out)) | (with_reducible exact HS8.out _ HBu83.out) | (with_reducible exact HS8.out _ HBu82.out) | (with_reducible exact HS8.out _ HBu81.out) | (with_reducible exact HS8.out _ (below_set7' HBu83.out (by first | exact Nat.le_refl _ | exact HBu81.out.size | exact HBu82.out.size) _ _ _ _ _ _ _)) | (refine HS8.out _ ?_; repeat (first | (with_reducible exact HBu83.out) | (with_reducible exact HBu82.out) | (with_reducible exact HBu81.out) | (with_reducible exact HBz8.out) | (with_reducible apply below_drew) | (with_reducible refine Below.alloc ?_ (by first | omega | (simp; done) | (simp; omega)) _)))) (first | (go_at_call 20; refine (HTM.out _ (HAF8.out _ (by (repeat (first | exact HBz8.out | exact HBu81.out | exact HBu81.out | apply below_drew | (refine Below.alloc ?_ (by first | omega | (simp; done) | (simp; omega)) _))))) (HAC8.out _ (by (repeat (first | exact HBz8.out | exact HBu81.out | exact HBu81.out | apply below_drew | (refine Below.alloc ?_ (by first | omega | (simp; done) | (simp; omega)) _)))))).mono ?_; rintro e u81 ⟨bm8, cm8, Am8, zm8, rfl, _, _, hnm, _, hrm, hb'⟩; (first | (have hb : Below w2.heap.size w2 u81 := (by first | exact hb' | exact below_undrew hb'); (first | (have HQ81 := hid (OBF.on HQ80.out hb)) | skip); have HBc81 := hid hb; clear hb) | (obtain ⟨hb, hq⟩ := (by first | exact mozq hb' | exact mozn hb' : Below w2.heap.size w2 u81 ∧ OBF u81 w2.heap.size); have HQ81 := hid hq; have HBc81 := hid hb; clear hb hq)); clear hb'; have HNu81 := hid hnm; have HRu81 := hid hrm; have HBu81 := hid HBc81.out; have hzu81 := HBu81.out.size; rw [HU.out]; clear hnm hrm) | (go_at_call 21; refine (HTE.out _ (HAT8.out _ (by (repeat (first | exact HBz8.out | exact HBu81.out | exact HBu81.out | apply below_drew | (refine Below.alloc ?_ (by first | omega | (simp; done) | (simp; omega)) _)))))).mono ?_; rintro e u82 ⟨be8, rfl, _, hre, hb'⟩; (first | (have hb : Below u81.heap.size u81 u82 := (by first | exact hb' | exact below_undrew hb'); (first | (have HQ82 := hid (OBF.on HQ81.out hb)) | skip); have HBc82 := hid hb; clear hb) | (obtain ⟨hb, hq⟩ := (by first | exact mozq hb' | exact mozn hb' : Below u81.heap.size u81 u82 ∧ OBF u82 u81.heap.size); have HQ82 := hid hq; have HBc82 := hid hb; clear hb hq)); clear hb'; have HIu82 := hid (HMI.out _ _ _ _ _ (HNu81.out.below HBc82.out HNu81.out.1) (HRu81.out.below HBc82.out)); have HTu82 := hid hre.ts; have HBu82 := hid (HBu81.out.trans (HBc82.out.mono hzu81)); have hzu82 := HBc82.out.size; clear hre) | (go_at_call 19; refine (HP.out.spec bm8 f.length (some ⟨cm8, 0, none⟩) C.length (some ⟨be8, 0, none⟩) S.length _ (HIu82.out.on (by (repeat (first | exact Below.refl _ _ | apply below_drew | (refine Below.alloc ?_ (by first | omega | (simp; done) | (simp; omega)) _))))) (HTu82.out.below (by (repeat (first | exact Below.refl _ _ | apply below_drew | (refine Below.alloc ?_ (by first | omega | (simp; done) | (simp; omega)) _)))))).mono ?_; rintro e u83 ⟨fa8, gc8, da8, dc8, aa8, ac8, rfl, hr0, hb'⟩; have HRo8 := hid hr0; clear hr0; (first | (have hb : Below u82.heap.size u82 u83 := (by first | exact hb' | exact below_undrew hb'); (first | (have HQ83 := hid (OBF.on HQ82.out hb)) | skip); have HBc83 := hid hb; clear hb) | (obtain ⟨hb, hq⟩ := (by first | exact mozq hb' | exact mozn hb' : Below u82.heap.size u82 u83 ∧ OBF u83 u82.heap.size); have HQ83 := hid hq; have HBc83 := hid hb; clear hb hq)); clear hb'; have HBu83 := hid (HBu82.out.trans (HBc83.out.mono HBu82.out.size)); have hzu83 := HBu83.out.size; (first | (obtain ⟨⟨_, y0, y1, y2, y3, y4, y5, y6⟩, ⟨f0, f1, f2, f3, f4, f5, f6⟩⟩ := HQ83.out) | skip)))
  all_goals (first | (have HWx := hid (OBF.fill (W := u83) (q := w2.heap.size) HQ83.out fa8 n gc8 cnt' now' da8 n dc8 yes aa8 m ac8 code); have HBx := hid (below_set7' (q := w2.heap.size) HBu83.out (Nat.le_refl _) (.slice fa8 n gc8) (.int .i64 cnt') (.int .i64 now') (.slice da8 n dc8) (.bool yes) (.slice aa8 m ac8) (.int .i64 code)); have HRx := hid (HRo8.out _ ((set7 u83 (w2.heap.size) (.slice fa8 n gc8) (.int .i64 cnt') (.int .i64 now') (.slice da8 n dc8) (.bool yes) (.slice aa8 m ac8) (.int .i64 code)).mono (fun j _ e => by have : j = w2.heap.size := e; first | (have := HQ82.out.o.lt; omega) | (simp; omega) | omega))); have HQl : Hid (w2.heap.size ≤ w2.heap.size) := Nat.le_refl _; generalize (((((((u83.setCell ⟨w2.heap.size, 0, none⟩ (.slice fa8 n gc8)).setCell ⟨w2.heap.size, 1, none⟩ (.int .i64 cnt')).setCell ⟨w2.heap.size, 2, none⟩ (.int .i64 now')).setCell ⟨w2.heap.size, 3, none⟩ (.slice da8 n dc8)).setCell ⟨w2.heap.size, 4, none⟩ (.bool yes)).setCell ⟨w2.heap.size, 5, none⟩ (.slice aa8 m ac8)).setCell ⟨w2.heap.size, 6, none⟩ (.int .i64 code)) = v8 at *; obtain ⟨Q8, hQe⟩ : ∃ Q, w2.heap.size = Q := ⟨_, rfl⟩; rw [hQe] at HWx HQl; simp only [hQe]) | (have HWx := hid (OBF.fill (W := u83) (q := u81.heap.size) HQ83.out fa8 n gc8 cnt' now' da8 n dc8 yes aa8 m ac8 code); have HBx := hid (below_set7' (q := u81.heap.size) HBu83.out (HBu81.out.size) (.slice fa8 n gc8) (.int .i64 cnt') (.int .i64 now') (.slice da8 n dc8) (.bool yes) (.slice aa8 m ac8) (.int .i64 code)); have HRx := hid (HRo8.out _ ((set7 u83 (u81.heap.size) (.slice fa8 n gc8) (.int .i64 cnt') (.int .i64 now') (.slice da8 n dc8) (.bool yes) (.slice aa8 m ac8) (.int .i64 code)).mono (fun j _ e => by have : j = u81.heap.size := e; first | (have := HQ82.out.o.lt; omega) | (simp; omega) | omega))); have HQl : Hid (w2.heap.size ≤ u81.heap.size) := HBu81.out.size; generalize (((((((u83.setCell ⟨u81.heap.size, 0, none⟩ (.slice fa8 n gc8)).setCell ⟨u81.heap.size, 1, none⟩ (.int .i64 cnt')).setCell ⟨u81.heap.size, 2, none⟩ (.int .i64 now')).setCell ⟨u81.heap.size, 3, none⟩ (.slice da8 n dc8)).setCell ⟨u81.heap.size, 4, none⟩ (.bool yes)).setCell ⟨u81.heap.size, 5, none⟩ (.slice aa8 m ac8)).setCell ⟨u81.heap.size, 6, none⟩ (.int .i64 code)) = v8 at *; obtain ⟨Q8, hQe⟩ : ∃ Q, u81.heap.size = Q := ⟨_, rfl⟩; rw [hQe] at HWx HQl; simp only [hQe]) | (have HWx := hid (OBF.fill (W := u83) (q := u82.heap.size) HQ83.out fa8 n gc8 cnt' now' da8 n dc8 yes aa8 m ac8 code); have HBx := hid (below_set7' (q := u82.heap.size) HBu83.out (HBu82.out.size) (.slice fa8 n gc8) (.int .i64 cnt') (.int .i64 now') (.slice da8 n dc8) (.bool yes) (.slice aa8 m ac8) (.int .i64 code)); have HRx := hid (HRo8.out _ ((set7 u83 (u82.heap.size) (.slice fa8 n gc8) (.int .i64 cnt') (.int .i64 now') (.slice da8 n dc8) (.bool yes) (.slice aa8 m ac8) (.int .i64 code)).mono (fun j _ e => by have : j = u82.heap.size := e; first | (have := HQ82.out.o.lt; omega) | (simp; omega) | omega))); have HQl : Hid (w2.heap.size ≤ u82.heap.size) := HBu82.out.size; generalize (((((((u83.setCell ⟨u82.heap.size, 0, none⟩ (.slice fa8 n gc8)).setCell ⟨u82.heap.size, 1, none⟩ (.int .i64 cnt')).setCell ⟨u82.heap.size, 2, none⟩ (.int .i64 now')).setCell ⟨u82.heap.size, 3, none⟩ (.slice da8 n dc8)).setCell ⟨u82.heap.size, 4, none⟩ (.bool yes)).setCell ⟨u82.heap.size, 5, none⟩ (.slice aa8 m ac8)).setCell ⟨u82.heap.size, 6, none⟩ (.int .i64 code)) = v8 at *; obtain ⟨Q8, hQe⟩ : ∃ Q, u82.heap.size = Q := ⟨_, rfl⟩; rw [hQe] at HWx HQl; simp only [hQe]) | (have HWx := hid (OBox.new2 u83 fa8 n gc8 cnt' now' da8 n dc8 yes aa8 m ac8 code).1; have HBx := hid (HBu83.out.trans ((below_one' u83 (.cells #[.slice fa8 n gc8, .int .i64 cnt', .int .i64 now', .slice da8 n dc8, .bool yes, .slice aa8 m ac8, .int .i64 code] 36)).mono HBu83.out.size)); have HRx := hid (HRo8.out _ (Save.alloc (Save.refl u83 _) (.cells #[.slice fa8 n gc8, .int .i64 cnt', .int .i64 now', .slice da8 n dc8, .bool yes, .slice aa8 m ac8, .int .i64 code] 36))); have HQl : Hid (w2.heap.size ≤ u83.heap.size) := HBu83.out.size; generalize (u83.alloc (.cells #[.slice fa8 n gc8, .int .i64 cnt', .int .i64 now', .slice da8 n dc8, .bool yes, .slice aa8 m ac8, .int .i64 code] 36)) = v8 at *; generalize u83.heap.size = Q8 at *))
  all_goals
    have HB8 := hid (HB2.out.trans (HBx.out.mono HB2.out.size))
    have HX8 := hid (HX2.out.on HBx.out)
    have HEb8 := hid (HEb2.out.below HBx.out)
    have HW8 := HWx
    have HR8 := HRx
    have hq8 := HWx.out.lt
    clear HWx HRx HBx HS8 HBz8 HAF8 HAC8 HAT8
    have HAF := hid (fun X (hb : Below v8.heap.size v8 X) => HF.out.arg.below (HB8.out.trans (hb.mono HB8.out.size)) (Nat.le_refl _))
    have HAC := hid (fun X (hb : Below v8.heap.size v8 X) => HC.out.arg.below (HB8.out.trans (hb.mono HB8.out.size)) (Nat.le_refl _))
    have HAT := hid (fun X (hb : Below v8.heap.size v8 X) => HE.out.arg.below (HB8.out.trans (hb.mono HB8.out.size)) (Nat.le_refl _))
    have HAK := hid (fun X (hb : Below v8.heap.size v8 X) => (⟨HK.out.below (HB8.out.trans (hb.mono HB8.out.size)) hg, Nat.lt_of_lt_of_le hg (Nat.le_trans HB8.out.size hb.size)⟩ : Kw X ∧ 1 < X.heap.size))
    have hkw8 := HB8.out.size
    obtain ⟨_, x0, x1, x2, x3⟩ := HX8.out
    go_wp2_with fail
    refine (HTM.out _ (HAF.out _ (Below.refl _ _)) (HAC.out _ (Below.refl _ _))).mono ?_
    rintro e w9 ⟨b9, c9, A9, z9, rfl, hb9, hbc9, hn9, ⟨zn9, hrn9⟩, hr9, hbl9⟩
    have HM9 : Hid (OutM w9 v8.heap.size (some ⟨b9, 0, none⟩) (some ⟨c9, 0, none⟩) none f.length C.length 0 (fun i => some ⟨A9 i, 0, none⟩) (fun i => (clAt C i).ts.length) (fun i => (clAt C i).ts.length)) := ⟨Or.inr ⟨b9, f.length * 6, zn9, rfl, Nat.le_refl _, hrn9⟩, Or.inr ⟨c9, rfl, hr9.mu⟩, Or.inl rfl, fun q e => by injection e with e; subst e; exact ⟨rfl, hb9, hrn9.lt⟩, fun q e => by injection e with e; subst e; exact ⟨rfl, by show _ ≤ c9; omega, hr9.row.lt⟩, fun q e => by (cases e), fun i hi q e => by injection e with e; subst e; exact ⟨by have := hr9.above i hi; show _ ≤ A9 i; omega, World.rowIs.lt (hr9.times i hi)⟩, fun p q e1 e2 => by injection e1 with e1; injection e2 with e2; subst e1 e2; show b9 ≠ c9; omega, fun p q e1 e2 => by (cases e2), fun p q e1 e2 => by (cases e2), fun i hi p q e1 e2 => by injection e1 with e1; injection e2 with e2; subst e1 e2; have := hr9.above i hi; show A9 i ≠ b9; omega, fun i hi p q e1 e2 => by (cases e2)⟩
    have HI9 := hid (HMI.out _ _ _ _ _ hn9 hr9)
    have HBw9 := hid hbl9
    have hz9 := hbl9.size
    rw [HU.out]
    clear hn9 hrn9 hr9 x0 x1 x2 x3
    obtain ⟨_, e0, e1⟩ := HEb8.out.below hbl9
    clear hbl9
    go_wp2_with fail
    have hbo := below_one' w9 (.cells #[.slice (some ⟨b9, 0, none⟩) f.length f.length, .int .i64 cnt, .int .i64 now, .slice (some ⟨c9, 0, none⟩) C.length C.length] 34)
    have HY9 := hid (MBox.new w9 (some ⟨b9, 0, none⟩) f.length f.length cnt now (some ⟨c9, 0, none⟩) C.length C.length 34)
    have HMv9 := hid (HM9.out.on hbo)
    have HIv9 := hid (HI9.out.on hbo)
    have HB9 := hid (HBw9.out.trans (hbo.mono hz9))
    have hv9 : (w9.alloc (.cells #[.slice (some ⟨b9, 0, none⟩) f.length f.length, .int .i64 cnt, .int .i64 now, .slice (some ⟨c9, 0, none⟩) C.length C.length] 34)).heap.size = w9.heap.size + 1 := by simp
    clear hbo e0 e1
    generalize w9.alloc (.cells #[.slice (some ⟨b9, 0, none⟩) f.length f.length, .int .i64 cnt, .int .i64 now, .slice (some ⟨c9, 0, none⟩) C.length C.length] 34) = v9 at *
    refine (HTE.out _ (HAT.out _ HB9.out)).mono ?_
    rintro e w10 ⟨b10, rfl, hb10, hr10, hbl10⟩
    have HBw10 := hid (HB9.out.trans (hbl10.mono HB9.out.size))
    have HYw10 := hid (HY9.out.on hbl10)
    have HMw10 := hid (HMv9.out.on hbl10)
    have HIw10 := hid (HIv9.out.on hbl10)
    have hz10 := hbl10.size
    have hl10 := World.rowIs.lt hr10
    have HRw10 := hid hr10
    clear hbl10 hr10
    obtain ⟨_, x0, x1, x2, x3⟩ := HYw10.out
    go_wp2_with fail
    have hbo := below_one' w10 (.cells #[.int .i64 tm, .slice (some ⟨b10, 0, none⟩) S.length S.length] 41)
    have HZ10 := hid (BoxE.new w10 tm (.slice (some ⟨b10, 0, none⟩) S.length S.length) 41)
    have HY10 := hid (HYw10.out.on hbo)
    have HM10 := hid (HMw10.out.on hbo)
    have HI10 := hid (HIw10.out.on hbo)
    have HR10 := hid (HRw10.out.below hbo hl10)
    have HB10 := hid (HBw10.out.trans (hbo.mono HBw10.out.size))
    have hv10 : (w10.alloc (.cells #[.int .i64 tm, .slice (some ⟨b10, 0, none⟩) S.length S.length] 41)).heap.size = w10.heap.size + 1 := by simp
    clear hbo x0 x1 x2 x3
    generalize w10.alloc (.cells #[.int .i64 tm, .slice (some ⟨b10, 0, none⟩) S.length S.length] 41) = v10 at *
    refine (HP.out.impl b9 f.length (some ⟨c9, 0, none⟩) C.length (some ⟨b10, 0, none⟩) S.length _ HI10.out HR10.out.ts (HAK.out _ HB10.out).1 (HAK.out _ HB10.out).2).mono ?_
    rintro e w11 ⟨fa1, gc1, da1, dc1, aa1, ac1, A1, C1, rfl, hM1, hRd1, hbl11⟩
    have HBw11 := hid (HB10.out.trans (hbl11.mono HB10.out.size))
    have HMg := hid hM1
    have HRd := hid hRd1
    have HYw11 := hid (HY10.out.on hbl11)
    have HZw11 := hid (HZ10.out.below hbl11)
    have HMw11 := hid (HM10.out.on hbl11)
    have HIw11 := hid (HI10.out.on hbl11)
    have HRw11 := hid (HR10.out.below hbl11 (by omega))
    have hz11 := hbl11.size
    clear hM1 hRd1 hbl11
    obtain ⟨_, o0, o1, o2, o3, o4, o5, o6⟩ := HW8.out.on HBw11.out
    go_wp2_with fail
    have hbo := below_one' w11 (.cells #[.slice fa1 n gc1, .int .i64 cnt', .int .i64 now', .slice da1 n dc1, .bool yes, .slice aa1 m ac1, .int .i64 code] 36)
    have HG11 := hid (OBox.new2 w11 fa1 n gc1 cnt' now' da1 n dc1 yes aa1 m ac1 code).1
    have HSg11 : Hid (Save w11 (w11.alloc (.cells #[.slice fa1 n gc1, .int .i64 cnt', .int .i64 now', .slice da1 n dc1, .bool yes, .slice aa1 m ac1, .int .i64 code] 36)) (fun j => j < v10.heap.size)) := Save.alloc (Save.refl w11 _) _
    have HY11 := hid (HYw11.out.on hbo)
    have HZ11 := hid (HZw11.out.below hbo)
    have HM11 := hid (HMw11.out.on hbo)
    have HI11 := hid (HIw11.out.on hbo)
    have HR11 := hid (HRw11.out.below hbo (by omega))
    have HMg11 := hid (HMg.out.on hbo)
    have HB11 := hid (HBw11.out.trans (hbo.mono HBw11.out.size))
    have hv11 : (w11.alloc (.cells #[.slice fa1 n gc1, .int .i64 cnt', .int .i64 now', .slice da1 n dc1, .bool yes, .slice aa1 m ac1, .int .i64 code] 36)).heap.size = w11.heap.size + 1 := by simp
    clear hbo o0 o1 o2 o3 o4 o5 o6
    generalize w11.alloc (.cells #[.slice fa1 n gc1, .int .i64 cnt', .int .i64 now', .slice da1 n dc1, .bool yes, .slice aa1 m ac1, .int .i64 code] 36) = v11 at *
    have HEQ := hid (fun a1 a2 d1 d2 b1 b2 c1 c2 e1 e2 g1 g2 w r1 r2 => eqOutG F D V n m HP.out.hn HP.out.hd HP.out.hv cnt' now' yes code a1 a2 d1 d2 b1 b2 c1 c2 e1 e2 g1 g2 (by omega) (by omega) HP.out.lt w r1 r2)
    have HMM := hid (fun w h => markMonG f.length C.length cnt now (some ⟨b9, 0, none⟩) f.length (some ⟨c9, 0, none⟩) C.length none 0 (fun i => some ⟨A9 i, 0, none⟩) (fun i => (clAt C i).ts.length) (fun i => (clAt C i).ts.length) hl hl1 (fun i hi => by have := HL2.out i hi; omega) (by rw [kC_sum]; have := HLs.out; omega) v8.heap.size w h)
    have hKm : kC (1 + f.length * 6) (fun i => (clAt C i).ts.length) C.length ≤ 20000000 := by rw [kC_sum]; have := HLs.out; omega
    generalize hK0 : kC (1 + f.length * 6) (fun i => (clAt C i).ts.length) C.length = K0 at *
    have hK1 : 0 < K0 ∨ K0 = 0 := by omega
    have HK0 := hid hK0
    have hKp : 0 < K0 := by rw [← hK0, kC_sum]; omega
    clear hK0 hK1
    have HMO := hid (fun w h => markOutG n m cnt' now' yes code fa1 gc1 da1 dc1 aa1 ac1 A1 N C1 (by omega) (by omega) HP.out.lN HP.out.lk v10.heap.size w h)
    have HHO := hid (fun w h => heldOutG n m cnt' now' yes code fa1 gc1 da1 dc1 aa1 ac1 A1 N C1 (by omega) (by omega) HP.out.lN HP.out.lk w h)
    have hKg : kC (1 + n * 6) N n ≤ 900000000 := HP.out.lk
    simp only [outV] at HEQ HMO HHO
    generalize hK2 : kC (1 + n * 6) N n = KG at *
    clear hK2
    refine (HEQ.out fa1 fa8 gc1 gc8 da1 da8 dc1 dc8 aa1 aa8 ac1 ac8 _ (HRd.out _ HSg11.out) (HR8.out.below HB11.out)).mono ?_
    rintro e w12 ⟨rfl, hbl12⟩
    have HY12 := hid (HY11.out.on hbl12)
    have HZ12 := hid (HZ11.out.below hbl12)
    have HM12 := hid (HM11.out.on hbl12)
    have HI12 := hid (HI11.out.on hbl12)
    have HR12 : Hid (RowS _ b10 S) := HR11.out.below hbl12 (World.rowIs.lt HR11.out)
    have HG12 := hid (HG11.out.on hbl12)
    have HMg12 := hid (HMg11.out.on hbl12)
    have HSg12 := hid (HSg11.out.trans (Save.of_below hbl12 _ (fun j h1 h2 => absurd h1 (by omega))))
    have HB12 := hid (HB11.out.trans (hbl12.mono HB11.out.size))
    clear hbl12
    have HEM := hid (fun b2 a2 w n1 n2 h1 h2 => eqMon_any f b9 b2 f.length f.length cnt now C (some ⟨c9, 0, none⟩) a2 C.length C.length hl hl1 (fun i hi => by have := HL2.out i hi; omega) w n1 n2 h1 h2)
    simp only [HU.out] at HEM
    have HS14 := hid (fun W' (hb : Below w12.heap.size w12 W') => (by obtain ⟨_, y0, y1, y2, y3⟩ := HY12.out.on hb; obtain ⟨_, x0, x1, x2, x3⟩ := HX8.out.on (HB12.out.trans (hb.mono HB12.out.size)); exact ⟨y0, y1, y2, y3, x0, x1, x2, x3⟩ : W'.cell? ⟨w9.heap.size, 0, none⟩ = some (.slice (some ⟨b9, 0, none⟩) f.length f.length) ∧ W'.cell? ⟨w9.heap.size, 1, none⟩ = some (.int .i64 cnt) ∧ W'.cell? ⟨w9.heap.size, 2, none⟩ = some (.int .i64 now) ∧ W'.cell? ⟨w9.heap.size, 3, none⟩ = some (.slice (some ⟨c9, 0, none⟩) C.length C.length) ∧ W'.cell? ⟨w.heap.size, 0, none⟩ = some (.slice fa f.length fc) ∧ W'.cell? ⟨w.heap.size, 1, none⟩ = some (.int .i64 cnt) ∧ W'.cell? ⟨w.heap.size, 2, none⟩ = some (.int .i64 now) ∧ W'.cell? ⟨w.heap.size, 3, none⟩ = some (.slice ca C.length cc)))
    have HBz14 := hid (Below.refl w12.heap.size w12)
    obtain ⟨_, y0, y1, y2, y3⟩ := HY12.out
    obtain ⟨_, x0, x1, x2, x3⟩ := HX8.out.on HB12.out
    go_wp2_with fail
    go_region_held3 (fun W' => W'.cell? ⟨w9.heap.size, 0, none⟩ = some (.slice (some ⟨b9, 0, none⟩) f.length f.length) ∧ W'.cell? ⟨w9.heap.size, 1, none⟩ = some (.int .i64 cnt) ∧ W'.cell? ⟨w9.heap.size, 2, none⟩ = some (.int .i64 now) ∧ W'.cell? ⟨w9.heap.size, 3, none⟩ = some (.slice (some ⟨c9, 0, none⟩) C.length C.length) ∧ W'.cell? ⟨w.heap.size, 0, none⟩ = some (.slice fa f.length fc) ∧ W'.cell? ⟨w.heap.size, 1, none⟩ = some (.int .i64 cnt) ∧ W'.cell? ⟨w.heap.size, 2, none⟩ = some (.int .i64 now) ∧ W'.cell? ⟨w.heap.size, 3, none⟩ = some (.slice ca C.length cc)) (first | (with_reducible exact HS14.out _ (below_drew HBz14.out)) | (with_reducible exact HS14.out _ HB14b.out) | (with_reducible exact HS14.out _ HB14a.out)) (first | (go_at_call 20; refine (HTM.out _ (HAF.out _ (below_drew HB12.out)) (HAC.out _ (below_drew HB12.out))).mono ?_; rintro e w13 ⟨b13, c13, A13, z13, rfl, _, _, hn13, _, hr13, hb'⟩; have hb := below_undrew hb'; have HB14a := hid hb; have HQ13 := hid (HMI.out _ _ _ _ _ hn13 hr13); rw [HU.out]; clear hn13 hr13 hb hb') | (go_at_call 23; refine (HEM.out b13 _ _ (HI12.out.on HB14a.out).nodes HQ13.out.nodes (HI12.out.on HB14a.out).cells HQ13.out.cells).mono ?_; rintro e w14 ⟨rfl, hb⟩; have HB14b := hid (HB14a.out.trans (hb.mono HB14a.out.size)); clear hb))
    have hbl14 : Below w12.heap.size w12 w14 := HB14b.out
    clear x0 x1 x2 x3 y0 y1 y2 y3
    have HY14 := hid (HY12.out.on hbl14)
    have HZ14 := hid (HZ12.out.below hbl14)
    have HM14 := hid (HM12.out.on hbl14)
    have HR14 : Hid (RowS _ b10 S) := HR12.out.below hbl14 (World.rowIs.lt HR12.out)
    have HG14 := hid (HG12.out.on hbl14)
    have HMg14 := hid (HMg12.out.on hbl14)
    have HSg14 := hid (HSg12.out.trans (Save.of_below hbl14 _ (fun j h1 h2 => absurd h1 (by omega))))
    have HB14 := hid (HB12.out.trans (hbl14.mono HB12.out.size))
    clear hbl14
    have HS16 := hid (fun W' (hb : Below w14.heap.size w14 W') => (by obtain ⟨_, y0, y1⟩ := HZ14.out.below hb; obtain ⟨_, x0, x1⟩ := HEb8.out.below (HB14.out.trans (hb.mono HB14.out.size)); exact ⟨y0, y1, x0, x1⟩ : W'.cell? ⟨w10.heap.size, 0, none⟩ = some (.int .i64 tm) ∧ W'.cell? ⟨w10.heap.size, 1, none⟩ = some (.slice (some ⟨b10, 0, none⟩) S.length S.length) ∧ W'.cell? ⟨w.heap.size + 1, 0, none⟩ = some (.int .i64 tm) ∧ W'.cell? ⟨w.heap.size + 1, 1, none⟩ = some (.slice na S.length nc)))
    have HBz16 := hid (Below.refl w14.heap.size w14)
    obtain ⟨_, y0, y1⟩ := HZ14.out
    obtain ⟨_, x0, x1⟩ := HEb8.out.below HB14.out
    go_wp2_with fail
    go_region_held3 (fun W' => W'.cell? ⟨w10.heap.size, 0, none⟩ = some (.int .i64 tm) ∧ W'.cell? ⟨w10.heap.size, 1, none⟩ = some (.slice (some ⟨b10, 0, none⟩) S.length S.length) ∧ W'.cell? ⟨w.heap.size + 1, 0, none⟩ = some (.int .i64 tm) ∧ W'.cell? ⟨w.heap.size + 1, 1, none⟩ = some (.slice na S.length nc)) (first | (with_reducible exact HS16.out _ (below_drew HBz16.out)) | (with_reducible exact HS16.out _ HB16b.out) | (with_reducible exact HS16.out _ HB16a.out)) (first | (go_at_call 21; refine (HTE.out _ (HAT.out _ (below_drew HB14.out))).mono ?_; rintro e w15 ⟨b15, rfl, _, hr15, hb'⟩; have hb := below_undrew hb'; have HB16a := hid hb; have HQ15 := hid hr15.ts; clear hr15 hb hb') | (go_at_call 24; refine (eqEvent_any tm S S.length rfl _ _ S.length S.length hls _ (HR14.out.ts.below HB16a.out) HQ15.out).mono ?_; rintro e w16 ⟨rfl, hb⟩; have HB16b := hid (HB16a.out.trans (hb.mono HB16a.out.size)); clear hb))
    have hbl16 : Below w14.heap.size w14 w16 := HB16b.out
    clear x0 x1 y0 y1
    have HY16 := hid (HY14.out.on hbl16)
    have HZ16 := hid (HZ14.out.below hbl16)
    have HM16 := hid (HM14.out.on hbl16)
    have HR16 : Hid (RowS _ b10 S) := HR14.out.below hbl16 (World.rowIs.lt HR14.out)
    have HG16 := hid (HG14.out.on hbl16)
    have HMg16 := hid (HMg14.out.on hbl16)
    have HSg16 := hid (HSg14.out.trans (Save.of_below hbl16 _ (fun j h1 h2 => absurd h1 (by omega))))
    have HB16 := hid (HB14.out.trans (hbl16.mono HB14.out.size))
    clear hbl16
    obtain ⟨_, y0, y1, y2, y3⟩ := HY16.out
    go_wp2_with fail
    refine (HMM.out _ HM16.out).mono ?_
    rintro e w19 ⟨rfl, _, _, hs19'⟩
    have hs19 : Save w16 w19 (fun j => v8.heap.size ≤ j ∧ j < w9.heap.size) := hs19'.mono (fun j _ hj => by rcases hj with ⟨q, e3, h3⟩ | ⟨q, e3, h3⟩ | ⟨i, hi, q, e3, h3⟩; (have := HM9.out.bf q e3; omega); (have := HM9.out.bc q e3; omega); (have := HM9.out.bt i hi q e3; omega))
    clear hs19' y0 y1 y2 y3
    have HZ19 : Hid (BoxE w19 w10.heap.size tm (.slice (some ⟨b10, 0, none⟩) S.length S.length)) := ⟨Nat.lt_of_lt_of_le HZ16.out.1 hs19.size, (hs19.cell (p := ⟨w10.heap.size, 0, none⟩) HZ16.out.1 (by show ¬ (_ ∧ w10.heap.size < _); omega)).trans HZ16.out.2.1, (hs19.cell (p := ⟨w10.heap.size, 1, none⟩) HZ16.out.1 (by show ¬ (_ ∧ w10.heap.size < _); omega)).trans HZ16.out.2.2⟩
    have HR19 : Hid (RowS w19 b10 S) := World.rowIs.of_block HR16.out (hs19.block b10 (World.rowIs.lt HR16.out) (by omega))
    have HG19 := hid (HG16.out.save hs19 (by omega))
    have HMg19 := hid (HMg16.out.save hs19 (fun j h1 h2 h3 => by omega))
    have HSg19 := hid (HSg16.out.trans (hs19.mono (fun j _ h => by omega)))
    have HB19 := hid (HB16.out.trans (hs19.below (B := v8.heap.size) HB16.out.size (fun j h => h.1)))
    clear hs19
    obtain ⟨_, y0, y1⟩ := HZ19.out
    go_wp2_with fail
    refine (markEvent_k tm S.length K0 hKp (by omega) (some ⟨b10, 0, none⟩) S.length _ (Or.inr ⟨b10, _, rfl, HR19.out⟩)).mono ?_
    rintro e w20 ⟨rfl, hs20'⟩
    have hs20 : Save w19 w20 (fun j => j = b10) := hs20'.mono (fun j _ hj => by obtain ⟨q, e3, h3⟩ := hj; injection e3 with e3; subst e3; exact h3.symm)
    clear hs20' y0 y1
    have HG20 := hid (HG19.out.save hs20 (by omega))
    have HMg20 := hid (HMg19.out.save hs20 (fun j h1 h2 h3 => by omega))
    have HSg20 := hid (HSg19.out.trans (hs20.mono (fun j _ h => by omega)))
    have HB20 := hid (HB19.out.trans (hs20.below (B := v8.heap.size) HB19.out.size (fun j h => by have := HB9.out.size; omega)))
    clear hs20
    have hk20 : ¬ (((K0 + S.length : Nat) : Int) < 0) := by omega
    obtain ⟨_, p0, p1, p2, p3, p4, p5, p6⟩ := HG20.out
    obtain ⟨_, o0, o1, o2, o3, o4, o5, o6⟩ := HW8.out.on HB20.out
    go_wp2_with fail
    refine (HEQ.out fa1 fa8 gc1 gc8 da1 da8 dc1 dc8 aa1 aa8 ac1 ac8 _ (HRd.out _ HSg20.out) (HR8.out.below HB20.out)).mono ?_
    rintro e w21 ⟨rfl, hbl21⟩
    clear o0 o1 o2 o3 o4 o5 o6 p0 p1 p2 p3 p4 p5 p6
    have HG21 := hid (HG20.out.on hbl21)
    have HMg21 := hid (HMg20.out.on hbl21)
    have HB21 := hid (HB20.out.trans (hbl21.mono HB20.out.size))
    clear hbl21
    obtain ⟨_, p0, p1, p2, p3, p4, p5, p6⟩ := HG21.out
    go_wp2_with fail
    refine (HMO.out _ HMg21.out).mono ?_
    rintro e w24 ⟨rfl, hH24, hs24'⟩
    have hs24 : Save w21 w24 (fun j => v10.heap.size ≤ j ∧ j < w11.heap.size) := hs24'.mono (fun j _ hj => by rcases hj with ⟨q, e3, h3⟩ | (⟨q, e3, h3⟩ | ⟨i, hi, q, e3, h3⟩) | ⟨q, e3, h3⟩; (have := HMg.out.bf q e3; omega); (have := HMg.out.bc q e3; omega); (have := HMg.out.bt i hi q e3; omega); (have := HMg.out.bb q e3; omega))
    have HH24 := hid hH24
    have HG24 := hid (HG21.out.save hs24 (by omega))
    have HB24 := hid (HB21.out.trans (hs24.below (B := v8.heap.size) HB21.out.size (fun j h => by have := HB10.out.size; omega)))
    clear hs24 hs24' hH24 p0 p1 p2 p3 p4 p5 p6
    have hk24 : ¬ (((KG + m : Nat) : Int) < 0) := by omega
    have hk25 : (((KG + m : Nat) : Int) != ((KG + m : Nat) : Int)) = false := by simp
    obtain ⟨_, p0, p1, p2, p3, p4, p5, p6⟩ := HG24.out
    go_wp2_with fail
    refine (HHO.out _ HH24.out).mono ?_
    rintro e w26 ⟨rfl, hbl26⟩
    clear p0 p1 p2 p3 p4 p5 p6
    have HG26 := hid (HG24.out.on hbl26)
    have HH26 := hid (HH24.out.on hbl26)
    have HB26 := hid (HB24.out.trans (hbl26.mono HB24.out.size))
    clear hbl26
    have HAF31 := hid (fun X (hb : Below w26.heap.size w26 X) => HAF.out X (HB26.out.trans (hb.mono HB26.out.size)))
    have HAC31 := hid (fun X (hb : Below w26.heap.size w26 X) => HAC.out X (HB26.out.trans (hb.mono HB26.out.size)))
    have HAT31 := hid (fun X (hb : Below w26.heap.size w26 X) => HAT.out X (HB26.out.trans (hb.mono HB26.out.size)))
    have HAK31 := hid (fun X (hb : Below w26.heap.size w26 X) => HAK.out X (HB26.out.trans (hb.mono HB26.out.size)))
    have HX26 := hid (HX8.out.on HB26.out)
    have HEb26 := hid (HEb8.out.below HB26.out)
    have HBz31 := hid (Below.refl w26.heap.size w26)
    have HS31 := hid (fun W' (hb : Below w26.heap.size w26 W') => (by obtain ⟨_, x0, x1, x2, x3⟩ := HX26.out.on hb; obtain ⟨_, e0, e1⟩ := HEb26.out.below hb; exact ⟨x0, x1, x2, x3, e0, e1⟩ : W'.cell? ⟨w.heap.size, 0, none⟩ = some (.slice fa f.length fc) ∧ W'.cell? ⟨w.heap.size, 1, none⟩ = some (.int .i64 cnt) ∧ W'.cell? ⟨w.heap.size, 2, none⟩ = some (.int .i64 now) ∧ W'.cell? ⟨w.heap.size, 3, none⟩ = some (.slice ca C.length cc) ∧ W'.cell? ⟨w.heap.size + 1, 0, none⟩ = some (.int .i64 tm) ∧ W'.cell? ⟨w.heap.size + 1, 1, none⟩ = some (.slice na S.length nc)))
    obtain ⟨_, e0, e1⟩ := HEb26.out
    obtain ⟨_, x0, x1, x2, x3⟩ := HX26.out
    go_wp2_with fail
    clear e0 e1 x0 x1 x2 x3
    go_region_held3 (fun W' => W'.cell? ⟨w.heap.size, 0, none⟩ = some (.slice fa f.length fc) ∧ W'.cell? ⟨w.heap.size, 1, none⟩ = some (.int .i64 cnt) ∧ W'.cell? ⟨w.heap.size, 2, none⟩ = some (.int .i64 now) ∧ W'.cell? ⟨w.heap.size, 3, none⟩ = some (.slice ca C.length cc) ∧ W'.cell? ⟨w.heap.size + 1, 0, none⟩ = some (.int .i64 tm) ∧ W'.cell? ⟨w.heap.size + 1, 1, none⟩ = some (.slice na S.length nc)) (first | (with_reducible exact HS31.out _ (below_drew HBz31.out)) | (with_reducible exact HS31.out _ HBu313.out) | (with_reducible exact HS31.out _ HBu312.out) | (with_reducible exact HS31.out _ HBu311.out) | (with_reducible exact HS31.out _ (below_set7' HBu313.out (by first | exact Nat.le_refl _ | exact HBu311.out.size | exact HBu312.out.size) _ _ _ _ _ _ _)) | (refine HS31.out _ ?_; repeat (first | (with_reducible exact HBu313.out) | (with_reducible exact HBu312.out) | (with_reducible exact HBu311.out) | (with_reducible exact HBz31.out) | (with_reducible apply below_drew) | (with_reducible refine Below.alloc ?_ (by first | omega | (simp; done) | (simp; omega)) _)))) (first | (go_at_call 20; refine (HTM.out _ (HAF31.out _ (by (repeat (first | exact HBz31.out | exact HBu311.out | exact HBu311.out | apply below_drew | (refine Below.alloc ?_ (by first | omega | (simp; done) | (simp; omega)) _))))) (HAC31.out _ (by (repeat (first | exact HBz31.out | exact HBu311.out | exact HBu311.out | apply below_drew | (refine Below.alloc ?_ (by first | omega | (simp; done) | (simp; omega)) _)))))).mono ?_; rintro e u311 ⟨bm31, cm31, Am31, zm31, rfl, _, _, hnm, _, hrm, hb'⟩; (first | (have hb : Below w26.heap.size w26 u311 := (by first | exact hb' | exact below_undrew hb'); (first | (have HQ311 := hid (OBF.on HQ310.out hb)) | skip); have HBc311 := hid hb; clear hb) | (obtain ⟨hb, hq⟩ := (by first | exact mozq hb' | exact mozn hb' : Below w26.heap.size w26 u311 ∧ OBF u311 w26.heap.size); have HQ311 := hid hq; have HBc311 := hid hb; clear hb hq)); clear hb'; have HNu311 := hid hnm; have HRu311 := hid hrm; have HBu311 := hid HBc311.out; have hzu311 := HBu311.out.size; rw [HU.out]; clear hnm hrm) | (go_at_call 21; refine (HTE.out _ (HAT31.out _ (by (repeat (first | exact HBz31.out | exact HBu311.out | exact HBu311.out | apply below_drew | (refine Below.alloc ?_ (by first | omega | (simp; done) | (simp; omega)) _)))))).mono ?_; rintro e u312 ⟨be31, rfl, _, hre, hb'⟩; (first | (have hb : Below u311.heap.size u311 u312 := (by first | exact hb' | exact below_undrew hb'); (first | (have HQ312 := hid (OBF.on HQ311.out hb)) | skip); have HBc312 := hid hb; clear hb) | (obtain ⟨hb, hq⟩ := (by first | exact mozq hb' | exact mozn hb' : Below u311.heap.size u311 u312 ∧ OBF u312 u311.heap.size); have HQ312 := hid hq; have HBc312 := hid hb; clear hb hq)); clear hb'; have HIu312 := hid (HMI.out _ _ _ _ _ (HNu311.out.below HBc312.out HNu311.out.1) (HRu311.out.below HBc312.out)); have HTu312 := hid hre.ts; have HBu312 := hid (HBu311.out.trans (HBc312.out.mono hzu311)); have hzu312 := HBc312.out.size; clear hre) | (go_at_call 13; refine (HP.out.impl bm31 f.length (some ⟨cm31, 0, none⟩) C.length (some ⟨be31, 0, none⟩) S.length _ (HIu312.out.on (by (repeat (first | exact Below.refl _ _ | apply below_drew | (refine Below.alloc ?_ (by first | omega | (simp; done) | (simp; omega)) _))))) (HTu312.out.below (by (repeat (first | exact Below.refl _ _ | apply below_drew | (refine Below.alloc ?_ (by first | omega | (simp; done) | (simp; omega)) _))))) (HAK31.out _ (by (repeat (first | exact HBz31.out | exact HBu312.out | exact HBu311.out | apply below_drew | (refine Below.alloc ?_ (by first | omega | (simp; done) | (simp; omega)) _))))).1 (HAK31.out _ (by (repeat (first | exact HBz31.out | exact HBu312.out | exact HBu311.out | apply below_drew | (refine Below.alloc ?_ (by first | omega | (simp; done) | (simp; omega)) _))))).2).mono ?_; rintro e u313 ⟨fa31, gc31, da31, dc31, aa31, ac31, A31, Cc31, rfl, _, hr0, hb'⟩; have HRo31 := hid hr0; clear hr0; (first | (have hb : Below u312.heap.size u312 u313 := (by first | exact hb' | exact below_undrew hb'); (first | (have HQ313 := hid (OBF.on HQ312.out hb)) | skip); have HBc313 := hid hb; clear hb) | (obtain ⟨hb, hq⟩ := (by first | exact mozq hb' | exact mozn hb' : Below u312.heap.size u312 u313 ∧ OBF u313 u312.heap.size); have HQ313 := hid hq; have HBc313 := hid hb; clear hb hq)); clear hb'; have HBu313 := hid (HBu312.out.trans (HBc313.out.mono HBu312.out.size)); have hzu313 := HBu313.out.size; (first | (obtain ⟨⟨_, y0, y1, y2, y3, y4, y5, y6⟩, ⟨f0, f1, f2, f3, f4, f5, f6⟩⟩ := HQ313.out) | skip)))
    all_goals (first | (have HWx := hid (OBF.fill (W := u313) (q := w26.heap.size) HQ313.out fa31 n gc31 cnt' now' da31 n dc31 yes aa31 m ac31 code); have HBx := hid (below_set7' (q := w26.heap.size) HBu313.out (Nat.le_refl _) (.slice fa31 n gc31) (.int .i64 cnt') (.int .i64 now') (.slice da31 n dc31) (.bool yes) (.slice aa31 m ac31) (.int .i64 code)); have HRx := hid (HRo31.out _ ((set7 u313 (w26.heap.size) (.slice fa31 n gc31) (.int .i64 cnt') (.int .i64 now') (.slice da31 n dc31) (.bool yes) (.slice aa31 m ac31) (.int .i64 code)).mono (fun j _ e => by have : j = w26.heap.size := e; first | (have := HQ312.out.o.lt; omega) | (simp; omega) | omega))); have HQl : Hid (w26.heap.size ≤ w26.heap.size) := Nat.le_refl _; generalize (((((((u313.setCell ⟨w26.heap.size, 0, none⟩ (.slice fa31 n gc31)).setCell ⟨w26.heap.size, 1, none⟩ (.int .i64 cnt')).setCell ⟨w26.heap.size, 2, none⟩ (.int .i64 now')).setCell ⟨w26.heap.size, 3, none⟩ (.slice da31 n dc31)).setCell ⟨w26.heap.size, 4, none⟩ (.bool yes)).setCell ⟨w26.heap.size, 5, none⟩ (.slice aa31 m ac31)).setCell ⟨w26.heap.size, 6, none⟩ (.int .i64 code)) = v31 at *; obtain ⟨Q31, hQe⟩ : ∃ Q, w26.heap.size = Q := ⟨_, rfl⟩; rw [hQe] at HWx HQl; simp only [hQe]) | (have HWx := hid (OBF.fill (W := u313) (q := u311.heap.size) HQ313.out fa31 n gc31 cnt' now' da31 n dc31 yes aa31 m ac31 code); have HBx := hid (below_set7' (q := u311.heap.size) HBu313.out (HBu311.out.size) (.slice fa31 n gc31) (.int .i64 cnt') (.int .i64 now') (.slice da31 n dc31) (.bool yes) (.slice aa31 m ac31) (.int .i64 code)); have HRx := hid (HRo31.out _ ((set7 u313 (u311.heap.size) (.slice fa31 n gc31) (.int .i64 cnt') (.int .i64 now') (.slice da31 n dc31) (.bool yes) (.slice aa31 m ac31) (.int .i64 code)).mono (fun j _ e => by have : j = u311.heap.size := e; first | (have := HQ312.out.o.lt; omega) | (simp; omega) | omega))); have HQl : Hid (w26.heap.size ≤ u311.heap.size) := HBu311.out.size; generalize (((((((u313.setCell ⟨u311.heap.size, 0, none⟩ (.slice fa31 n gc31)).setCell ⟨u311.heap.size, 1, none⟩ (.int .i64 cnt')).setCell ⟨u311.heap.size, 2, none⟩ (.int .i64 now')).setCell ⟨u311.heap.size, 3, none⟩ (.slice da31 n dc31)).setCell ⟨u311.heap.size, 4, none⟩ (.bool yes)).setCell ⟨u311.heap.size, 5, none⟩ (.slice aa31 m ac31)).setCell ⟨u311.heap.size, 6, none⟩ (.int .i64 code)) = v31 at *; obtain ⟨Q31, hQe⟩ : ∃ Q, u311.heap.size = Q := ⟨_, rfl⟩; rw [hQe] at HWx HQl; simp only [hQe]) | (have HWx := hid (OBF.fill (W := u313) (q := u312.heap.size) HQ313.out fa31 n gc31 cnt' now' da31 n dc31 yes aa31 m ac31 code); have HBx := hid (below_set7' (q := u312.heap.size) HBu313.out (HBu312.out.size) (.slice fa31 n gc31) (.int .i64 cnt') (.int .i64 now') (.slice da31 n dc31) (.bool yes) (.slice aa31 m ac31) (.int .i64 code)); have HRx := hid (HRo31.out _ ((set7 u313 (u312.heap.size) (.slice fa31 n gc31) (.int .i64 cnt') (.int .i64 now') (.slice da31 n dc31) (.bool yes) (.slice aa31 m ac31) (.int .i64 code)).mono (fun j _ e => by have : j = u312.heap.size := e; first | (have := HQ312.out.o.lt; omega) | (simp; omega) | omega))); have HQl : Hid (w26.heap.size ≤ u312.heap.size) := HBu312.out.size; generalize (((((((u313.setCell ⟨u312.heap.size, 0, none⟩ (.slice fa31 n gc31)).setCell ⟨u312.heap.size, 1, none⟩ (.int .i64 cnt')).setCell ⟨u312.heap.size, 2, none⟩ (.int .i64 now')).setCell ⟨u312.heap.size, 3, none⟩ (.slice da31 n dc31)).setCell ⟨u312.heap.size, 4, none⟩ (.bool yes)).setCell ⟨u312.heap.size, 5, none⟩ (.slice aa31 m ac31)).setCell ⟨u312.heap.size, 6, none⟩ (.int .i64 code)) = v31 at *; obtain ⟨Q31, hQe⟩ : ∃ Q, u312.heap.size = Q := ⟨_, rfl⟩; rw [hQe] at HWx HQl; simp only [hQe]) | (have HWx := hid (OBox.new2 u313 fa31 n gc31 cnt' now' da31 n dc31 yes aa31 m ac31 code).1; have HBx := hid (HBu313.out.trans ((below_one' u313 (.cells #[.slice fa31 n gc31, .int .i64 cnt', .int .i64 now', .slice da31 n dc31, .bool yes, .slice aa31 m ac31, .int .i64 code] 36)).mono HBu313.out.size)); have HRx := hid (HRo31.out _ (Save.alloc (Save.refl u313 _) (.cells #[.slice fa31 n gc31, .int .i64 cnt', .int .i64 now', .slice da31 n dc31, .bool yes, .slice aa31 m ac31, .int .i64 code] 36))); have HQl : Hid (w26.heap.size ≤ u313.heap.size) := HBu313.out.size; generalize (u313.alloc (.cells #[.slice fa31 n gc31, .int .i64 cnt', .int .i64 now', .slice da31 n dc31, .bool yes, .slice aa31 m ac31, .int .i64 code] 36)) = v31 at *; generalize u313.heap.size = Q31 at *))
    all_goals
      have HB31 := hid (HB26.out.trans (HBx.out.mono HB26.out.size))
      have HG31 := hid (HG26.out.on HBx.out)
      have HH31 := hid (HH26.out.on HBx.out)
      obtain ⟨_, p0, p1, p2, p3, p4, p5, p6⟩ := HWx.out
      obtain ⟨_, o0, o1, o2, o3, o4, o5, o6⟩ := HW8.out.on HB31.out
      go_wp2_with fail
      refine (HEQ.out fa31 fa8 gc31 gc8 da31 da8 dc31 dc8 aa31 aa8 ac31 ac8 _ HRx.out (HR8.out.below HB31.out)).mono ?_
      rintro e w32 ⟨rfl, hbl32⟩
      have HB32 := hid (HB31.out.trans (hbl32.mono HB31.out.size))
      have HG32 := hid (HG31.out.on hbl32)
      have HH32 := hid (HH31.out.on hbl32)
      clear o0 o1 o2 o3 o4 o5 o6 p0 p1 p2 p3 p4 p5 p6 hbl32
      obtain ⟨_, p0, p1, p2, p3, p4, p5, p6⟩ := HG32.out
      go_wp2_with fail
      refine (HHO.out _ HH32.out).mono ?_
      rintro e w35 ⟨rfl, hbl35⟩
      have HB35 := hid (HB8.out.trans ((HB32.out.trans (hbl35.mono HB32.out.size)).mono HB8.out.size))
      clear p0 p1 p2 p3 p4 p5 p6 hbl35
      go_wp2_with fail
      go_ret
      exact ⟨rfl, HB35.out⟩
end Go.Proofs.YtbfkbgmkibkbnaaGreatDoor
