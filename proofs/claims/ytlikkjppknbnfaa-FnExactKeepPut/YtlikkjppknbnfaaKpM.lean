/-
  The program's KeepPut, by its contract.
-/
import Derived.Test.YtlikkjppknbnfaaKpJ
namespace Go.Proofs.Ytlikkjppknbnfaa
open Go.RowKit
set_option linter.unusedVariables false
set_option linter.unusedSimpArgs false
theorem argI_cells' {W : World} {a : Option Addr} {n c : Nat} {Z : List Int} (hS : SlV a n c) (h : ArgI W a Z) : ∀ b, a = some b → ∀ j u, (Z.map (Value.int .i64))[j]? = some u → W.cell? (b.add j) = some u := by
  intro b e
  rcases hS with ⟨h1, _, _⟩ | ⟨b', off, h1, _, _⟩
  · rw [h1] at e
    cases e
  · rw [h1] at e h
    injection e with e
    subst e
    exact argI_cells h
theorem slV_none {a : Option Addr} {n c : Nat} (hS : SlV a n c) : a = none → n = 0 ∧ c = 0 := by
  intro e
  rcases hS with ⟨_, h1, h2⟩ | ⟨b', off, h1, _, _⟩
  · exact ⟨h1, h2⟩
  · rw [h1] at e
    cases e
/-- What stands behind the append. -/
theorem put_append {w w2 w5 : World} {lo hi tm : Int} {D Y : List Int} {a : Option Addr} {n c m : Nat} {v5 : Value} (o : Obj) (hY : D ++ [tm] = Y) (hm : D.length = m) (hB : Below w.heap.size w w2) (hX : KBox w2 w.heap.size lo hi a n c) (hR : KBox w2 (w.heap.size + 1) 0 0 none 0 0) (hF : KFree w2 (w.heap.size + 1)) (hg : w2.frozen? ⟨w.heap.size, 2, none⟩ = false)
    (hown : w5.ownsRow (w2.alloc o).heap.size 2 1 v5 (m + 1) (D.map (Value.int .i64) ++ [.int .i64 tm])) (hgr : (w2.alloc o).grownBy w5 none) :
    ∃ va vc, v5 = .slice va Y.length vc ∧ SlV va Y.length vc ∧ KBox w5 w.heap.size lo hi a n c ∧ w5.frozen? ⟨w.heap.size, 2, none⟩ = false ∧ ArgI (w5.setCell ⟨w.heap.size, 2, none⟩ (.slice va Y.length vc)) va Y ∧ KBox (w5.setCell ⟨w.heap.size, 2, none⟩ (.slice va Y.length vc)) (w.heap.size + 1) 0 0 none 0 0 ∧ KFree (w5.setCell ⟨w.heap.size, 2, none⟩ (.slice va Y.length vc)) (w.heap.size + 1) ∧ Below w.heap.size w (w5.setCell ⟨w.heap.size, 2, none⟩ (.slice va Y.length vc)) ∧ w.heap.size + 2 ≤ (w5.setCell ⟨w.heap.size, 2, none⟩ (.slice va Y.length vc)).heap.size := by
  have hq := hR.lt
  have hl : Y.length = m + 1 := by rw [← hY]; simp [hm]
  have hO5 : OwnI w5 (w2.alloc o).heap.size v5 Y := by
    show w5.ownsRow _ _ _ _ _ _
    rw [hl, ← hY]
    simpa using hown
  have hs5 : Save w2 w5 (fun _ => False) := ((Save.refl w2 (fun _ => False)).alloc o).grown hgr (fun k hk h => by cases hk)
  obtain ⟨va, vc, e, hA5, _, hF5⟩ := hO5.form
  subst e
  have hst : Save w5 (w5.setCell ⟨w.heap.size, 2, none⟩ (.slice va Y.length vc)) (fun j => j = w.heap.size) := Save.setCell (S := fun j => j = w.heap.size) (Save.refl w5 _) (p := ⟨w.heap.size, 2, none⟩) (fun _ => rfl) _
  have hz5 := hs5.size
  have hz6 := hst.size
  have hz2 : (w2.alloc o).heap.size = w2.heap.size + 1 := by simp
  refine ⟨va, vc, rfl, hO5.sl, hX.save hs5 (fun h => h), (hs5.frozen (p := ⟨w.heap.size, 2, none⟩) hX.lt (fun h => h)).trans hg, hA5.save hst (fun q e h => by have := hF5 q e; omega), (hR.save hs5 (fun h => h)).save hst (by omega), (hF.save hs5 hq (fun h => h)).save hst (by omega) (by omega), (hB.trans (hs5.below (B := w.heap.size) hB.size (fun j h => h.elim))).trans (hst.below (B := w.heap.size) (by omega) (fun j e => by omega)), by omega⟩
set_option maxRecDepth 20000 in
set_option maxHeartbeats 8000000 in
theorem implPut_any (lo hi : Int) (Z : List Int) (n : Nat) (hn : Z.length = n) (a : Option Addr) (c : Nat) (hS : SlV a n c) (hl : n ≤ 2000000) (tm : Int) (lo' hi' : Int) (Y : List Int) (hY : (if okK lo hi Z tm then (lo, hi, putI hi tm Z) else (0, 0, [])) = (lo', hi', Y)) (w : World) (hA : ArgI w a Z) :
    Calls Try.prog 10 #[kpV lo hi a n c, .int .i64 tm] w fun e w' => ∃ va vc, e = .returned (kpV lo' hi' va Y.length vc) ∧ OwnI w' w.heap.size (.slice va Y.length vc) Y ∧ Below w.heap.size w w' := by
  obtain ⟨i0, hi0, hz0, hz1', hz2⟩ := info_parts Try.infoI
  have HN := hid hn
  have HU : Hid (∀ lo hi a n c, kpV lo hi a n c = .agg #[.int .i64 lo, .int .i64 hi, .slice a n c]) := fun _ _ _ _ _ => rfl
  have HB0 := hid (below2 w (kO lo hi a n c) (kO 0 0 none 0 0))
  have HK := hid (KBox2.new w lo hi a n c)
  have HA := hid hA
  have HKf := hid HK.out.fr
  have hWz := HK.out.sz
  unfold kO at HB0 HK HKf hWz
  rw [HU.out]
  clear hA
  rcases Bool.eq_false_or_eq_true (okK lo hi Z tm) with hok | hok
  · rw [hok, if_pos rfl] at hY
    injection hY with e1 hY
    injection hY with e2 e3
    obtain ⟨hk, ht⟩ := okK_yes hok
    have hl9 := krB_len hk
    have hh1 := (spanB_hi1 (krB_parts hk).1).1
    have HKr : Hid (∀ w, ArgI w a Z → Calls Try.prog 18 #[.agg #[.int .i64 lo, .int .i64 hi, .slice a n c]] w fun e w' => e = .returned (.bool true) ∧ Below w.heap.size w w') := fun w h => implKr_is lo hi Z true hk n hn a c (by omega) w h
    have HTm := hid (fun w => timeI_is tm true ht w)
    have hYl : Y.length ≤ 1000000 + 1 := by rw [← e3]; have := dropTo_len hi tm Z Z.length; unfold putI dropI; split <;> simp <;> omega
    have hYm : Y.length ≤ 1000000 := by have h9 := krB_len hk; rw [← e3]; have := dropTo_len hi tm Z Z.length; unfold putI dropI; split <;> simp <;> omega
    have HOw : Hid (∀ w a' m c', Y.length = m → SlV a' m c' → ArgI w a' Y → Calls Try.prog 36 #[.agg #[.int .i64 lo, .int .i64 hi, .slice a' m c']] w fun e w' => ∃ va vc, e = .returned (.agg #[.int .i64 lo', .int .i64 hi', .slice va Y.length vc]) ∧ OwnI w' w.heap.size (.slice va Y.length vc) Y ∧ Below w.heap.size w w') := fun w a' m c' h1 h2 h3 => by
      subst e1 e2
      exact own_any lo hi Y m h1 a' c' h2 (by omega) w h3
    have hKR : ∀ w1 : World, True := fun _ => trivial
    rcases Bool.eq_false_or_eq_true (stayB hi tm Z) with hst | hst
    · have HTk : Hid (∀ w, ArgI w a Z → Calls Try.prog 34 #[.agg #[.int .i64 lo, .int .i64 hi, .slice a n c], .int .i64 tm] w fun e w' => e = .returned (.bool false) ∧ Below w.heap.size w w') := fun w h => takes_any lo hi hh1 Z n hn a c (by omega) tm false (by rw [hst]; rfl) w h
      have eY : Z = Y := by rw [← e3]; unfold putI; rw [hst]; rfl
      subst eY
      have HS := hid hS
      clear hok hk ht hn e1 e2 e3 hS hh1 hst hKR
      go_enter Try.func10, Try.ntmps10
      go_wp2_with (first | (go_at_call 18; refine (HKr.out _ (HA.out.on HB0.out)).mono ?_; rintro e w1 ⟨rfl, hb1⟩; have HB1 := hid (HB0.out.trans (hb1.mono HB0.out.size)); have HR1 := hid (HK.out.r.on hb1); have HF1 := hid (HKf.out.on hb1 (by omega)); have HX1 := hid (HK.out.x.on hb1); obtain ⟨hq1, x0, x1, x2⟩ := HX1.out; have hz1 := (by have := hb1.size; omega : w.heap.size + 2 ≤ w1.heap.size); clear hb1) | (go_at_call 33; refine (HTm.out _).mono ?_; rintro e w' ⟨rfl, rfl⟩) | (go_at_call 34; refine (HTk.out _ (HA.out.on HB1.out)).mono ?_; rintro e w2 ⟨rfl, hb2⟩; have HB2 := hid (HB1.out.trans (hb2.mono HB1.out.size)); have HR2 := hid (HR1.out.on hb2); have HF2 := hid (HF1.out.on hb2 (by omega)); clear x0 x1 x2; obtain ⟨hq2, x0, x1, x2⟩ := HX1.out.on hb2; have hz2' := hb2.size; clear hb2) | (go_at_call 36; refine (HOw.out _ a n c HN.out HS.out (HA.out.on HB2.out)).mono ?_; rintro e w4 ⟨va, vc, rfl, hO4, hb4⟩; have HO4 := hid hO4; have HB4 := hid (HB2.out.trans (hb4.mono HB2.out.size)); obtain ⟨_, r0, r1, r2⟩ := HR2.out.on hb4; obtain ⟨f0, f1, f2⟩ := HF2.out.on hb4 (by omega); have hz4 := hb4.size; clear hO4 hb4))
      refine bodyPost_ret (v := .agg #[.int .i64 lo', .int .i64 hi', .slice va Z.length vc]) (by simp [results, Try.results10, go_sem, r0, r1, r2, f0, f1, f2]) rfl ?_
      have hs2 := set3 w4 (w.heap.size + 1) lo' hi' (.slice va Z.length vc)
      have hz5 := HB4.out.size
      exact ⟨va, vc, rfl, (HO4.out.save hs2 (fun k e => by have := (HO4.out.lt k e).1; omega)).low (by omega), HB4.out.trans (hs2.below (B := w.heap.size) (by omega) (fun j e => by omega))⟩
    · have HTk : Hid (∀ w, ArgI w a Z → Calls Try.prog 34 #[.agg #[.int .i64 lo, .int .i64 hi, .slice a n c], .int .i64 tm] w fun e w' => e = .returned (.bool true) ∧ Below w.heap.size w w') := fun w h => takes_any lo hi hh1 Z n hn a c (by omega) tm true (by rw [hst]; rfl) w h
      obtain ⟨D, hD⟩ : ∃ D, dropI hi tm Z = D := ⟨_, rfl⟩
      have eY : D ++ [tm] = Y := by rw [← e3]; unfold putI; rw [hst, ← hD]; rfl
      have hDl : D.length ≤ 1000000 := by rw [← hD]; have := dropTo_len hi tm Z Z.length; unfold dropI; omega
      have HRc : Hid (∀ w, ArgI w a Z → Calls Try.prog 35 #[.agg #[.int .i64 lo, .int .i64 hi, .slice a n c], .int .i64 tm] w fun e w' => ∃ a' m, e = .returned (.slice a' m m) ∧ D.length = m ∧ SlV a' m m ∧ ArgI w' a' D ∧ Below w.heap.size w w') := fun w h => by
        refine (recent_any lo hi Z n hn a c hS (by omega) tm (timeB_parts ht) (fun i hi' => krB_times hk i (by omega)) w h).mono ?_
        rintro e w' ⟨r, a', rfl, h1, h2, h3, h4, h5, h7, h6⟩
        have hd := drop_over hh1 (krB_parts hk).2.2 r (by omega) h2 (fun h => h3 (by omega))
        rw [hd, hD] at h5
        refine ⟨a', n - r, rfl, ?_, h4, h5, h6⟩
        rw [← hD, ← hd, List.length_drop, hn]
      have HEY := hid eY
      clear hok hk ht hn e1 e2 e3 hS hh1 hst hKR hD eY
      go_enter Try.func10, Try.ntmps10
      go_wp2_with (first | (go_at_call 18; refine (HKr.out _ (HA.out.on HB0.out)).mono ?_; rintro e w1 ⟨rfl, hb1⟩; have HB1 := hid (HB0.out.trans (hb1.mono HB0.out.size)); have HR1 := hid (HK.out.r.on hb1); have HF1 := hid (HKf.out.on hb1 (by omega)); have HX1 := hid (HK.out.x.on hb1); have hg1 := (hb1.frozen (p := ⟨w.heap.size, 2, none⟩) (by show w.heap.size < _; omega)).trans HK.out.g2; obtain ⟨hq1, x0, x1, x2⟩ := HX1.out; have hz1 := (by have := hb1.size; omega : w.heap.size + 2 ≤ w1.heap.size); clear hb1) | (go_at_call 33; refine (HTm.out _).mono ?_; rintro e w' ⟨rfl, rfl⟩) | (go_at_call 34; refine (HTk.out _ (HA.out.on HB1.out)).mono ?_; rintro e w2 ⟨rfl, hb2⟩; have HB2 := hid (HB1.out.trans (hb2.mono HB1.out.size)); have HR2 := hid (HR1.out.on hb2); have HF2 := hid (HF1.out.on hb2 (by omega)); have HX2 := hid (HX1.out.on hb2); have hg2 := (hb2.frozen (p := ⟨w.heap.size, 2, none⟩) hq1).trans hg1; clear x0 x1 x2; obtain ⟨hq2, x0, x1, x2⟩ := HX2.out; have hz2' := hb2.size; clear hb2) | (go_at_call 35; refine (HRc.out _ (HA.out.on HB2.out)).mono ?_; rintro e w3 ⟨a2, m2, rfl, hm2, hs2, ha2, hb3⟩; have HM2 := hid hm2; have HS2 := hid hs2; have HA3 := hid (ha2.on (below_one' w3 (.cells #[.int .i64 tm] 2))); have HB3 := hid (HB2.out.trans (hb3.mono HB2.out.size)); have HR3 := hid (HR2.out.on hb3); have HF3 := hid (HF2.out.on hb3 (by omega)); have HX3 := hid (HX2.out.on hb3); have hg3 := (hb3.frozen (p := ⟨w.heap.size, 2, none⟩) hq2).trans hg2; clear x0 x1 x2; have hz3 := hb3.size; have hm3 : m2 ≤ 1000000 := (by omega); clear hb3 hm2 hs2 ha2) | (at_builtin; refine wpList_append_grows _ rfl _ _ 23 rfl 2 i0 _ 1 8 Try.uIs hi0 hz0 hz1' hz2 rfl (by decide) a2 m2 m2 (D.map (Value.int .i64)) rfl (slV_none HS2.out) (by simp [HM2.out]) (argI_cells' HS2.out HA3.out) ⟨w3.heap.size, 0, none⟩ 1 1 [.int .i64 tm] rfl rfl (cell_one' _ _ rfl _ _) (by simp [Value.oneCell']) (by omega) (by unfold maxLen; omega) (by omega) ?_; intro v5 w5 hown5 hgrow5; obtain ⟨va5, vc5, rfl, hsl5, hx5, hf5, ha5, hr5, hkf5, hb5, hz5⟩ := put_append _ HEY.out HM2.out HB3.out HX3.out HR3.out HF3.out hg3 hown5 hgrow5; have HSL5 := hid hsl5; have HA5 := hid ha5; have HR5 := hid hr5; have HF5 := hid hkf5; have HB5 := hid hb5; obtain ⟨hq5, x0, x1, x2⟩ := hx5; clear hown5 hgrow5 hsl5 ha5 hr5 hkf5 hb5 hg1 hg2 hg3) | (go_at_call 36; refine (HOw.out _ va5 Y.length vc5 rfl HSL5.out HA5.out).mono ?_; rintro e w4 ⟨va, vc, rfl, hO4, hb4⟩; have HO4 := hid hO4; have HB4 := hid (HB5.out.trans (hb4.mono HB5.out.size)); obtain ⟨_, r0, r1, r2⟩ := HR5.out.on hb4; obtain ⟨f0, f1, f2⟩ := HF5.out.on hb4 (by omega); have hz4 := hb4.size; clear hO4 hb4))
      refine bodyPost_ret (v := .agg #[.int .i64 lo', .int .i64 hi', .slice va Y.length vc]) (by simp [results, Try.results10, go_sem, r0, r1, r2, f0, f1, f2]) rfl ?_
      have hs2 := set3 w4 (w.heap.size + 1) lo' hi' (.slice va Y.length vc)
      have hz5' := HB4.out.size
      exact ⟨va, vc, rfl, (HO4.out.save hs2 (fun k e => by have := (HO4.out.lt k e).1; omega)).low (by omega), HB4.out.trans (hs2.below (B := w.heap.size) (by omega) (fun j e => by omega))⟩
  · rw [hok] at hY
    simp only [Bool.false_eq_true, if_false] at hY
    injection hY with e1 hY
    injection hY with e2 e3
    subst e1 e2 e3
    rcases okK_no hok with hk | ⟨hk, ht⟩
    · have HKr : Hid (∀ w, ArgI w a Z → Calls Try.prog 18 #[.agg #[.int .i64 lo, .int .i64 hi, .slice a n c]] w fun e w' => e = .returned (.bool false) ∧ Below w.heap.size w w') := fun w h => implKr_is lo hi Z false hk n hn a c (by omega) w h
      clear hok hk hn hS
      go_enter Try.func10, Try.ntmps10
      go_wp2_with (first | (go_at_call 18; refine (HKr.out _ (HA.out.on HB0.out)).mono ?_; rintro e w1 ⟨rfl, hb1⟩; have HB1 := hid (HB0.out.trans (hb1.mono HB0.out.size)); obtain ⟨_, r0, r1, r2⟩ := HK.out.r.on hb1; obtain ⟨f0, f1, f2⟩ := HKf.out.on hb1 (by omega); have hz1 := (by have := hb1.size; omega : w.heap.size + 2 ≤ w1.heap.size); clear hb1))
      refine bodyPost_ret (v := .agg #[.int .i64 0, .int .i64 0, .slice none 0 0]) (by simp [results, Try.results10, go_sem, r0, r1, r2, f0, f1, f2]) rfl ?_
      have hs2 := set3 w1 (w.heap.size + 1) 0 0 (.slice none 0 0)
      exact ⟨none, 0, rfl, OwnI.nil _ _, HB1.out.trans (hs2.below (B := w.heap.size) (by omega) (fun j e => by omega))⟩
    · have HKr : Hid (∀ w, ArgI w a Z → Calls Try.prog 18 #[.agg #[.int .i64 lo, .int .i64 hi, .slice a n c]] w fun e w' => e = .returned (.bool true) ∧ Below w.heap.size w w') := fun w h => implKr_is lo hi Z true hk n hn a c (by omega) w h
      have HTm := hid (fun w => timeI_is tm false ht w)
      clear hok hk hn ht hS
      go_enter Try.func10, Try.ntmps10
      go_wp2_with (first | (go_at_call 18; refine (HKr.out _ (HA.out.on HB0.out)).mono ?_; rintro e w1 ⟨rfl, hb1⟩; have HB1 := hid (HB0.out.trans (hb1.mono HB0.out.size)); obtain ⟨_, r0, r1, r2⟩ := HK.out.r.on hb1; obtain ⟨f0, f1, f2⟩ := HKf.out.on hb1 (by omega); have hz1 := (by have := hb1.size; omega : w.heap.size + 2 ≤ w1.heap.size); clear hb1) | (go_at_call 33; refine (HTm.out _).mono ?_; rintro e w' ⟨rfl, rfl⟩))
      refine bodyPost_ret (v := .agg #[.int .i64 0, .int .i64 0, .slice none 0 0]) (by simp [results, Try.results10, go_sem, r0, r1, r2, f0, f1, f2]) rfl ?_
      have hs2 := set3 w1 (w.heap.size + 1) 0 0 (.slice none 0 0)
      exact ⟨none, 0, rfl, OwnI.nil _ _, HB1.out.trans (hs2.below (B := w.heap.size) (by omega) (fun j e => by omega))⟩
end Go.Proofs.Ytlikkjppknbnfaa
