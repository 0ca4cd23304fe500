/-
  The program's KeepDrop, by its contract.
-/
import Derived.Test.YtlikkjppknbnfaaKpI
namespace Go.Proofs.Ytlikkjppknbnfaa
open Go.RowKit
set_option linter.unusedVariables false
set_option linter.unusedSimpArgs false
theorem argI_after {w w2 w3 : World} {a a2 : Option Addr} {Z Y : List Int} (hA : ArgI w a Z) (h2 : ArgI w2 a2 Y) (hl : Z.length = 0 → Y.length = 0) (hab : ∀ b off, a2 = some ⟨b, off, none⟩ → ∃ off', a = some ⟨b, off', none⟩) (hs : Save w2 w3 (fun j => w.heap.size ≤ j)) : ArgI w3 a2 Y := by
  rcases h2 with h | ⟨b, off, e, hb, hc⟩
  · exact Or.inl h
  · obtain ⟨off', e'⟩ := hab b off e
    rcases hA with h0 | ⟨b', off2, e2, hb2, _⟩
    · exact Or.inl (hl h0)
    · rw [e'] at e2
      injection e2 with e2
      injection e2 with e3 e4
      subst e3
      exact Or.inr ⟨b, off, e, Nat.lt_of_lt_of_le hb hs.size, fun i hi => (hs.cell (p := ⟨b, off + i, none⟩) hb (by show ¬ w.heap.size ≤ b; omega)).trans (hc i hi)⟩
set_option maxRecDepth 20000 in
set_option maxHeartbeats 4000000 in
theorem implDrop_any (lo hi : Int) (Z : List Int) (n : Nat) (hn : Z.length = n) (a : Option Addr) (c : Nat) (hS : SlV a n c) (hl : n ≤ 2000000) (tm : Int) (lo' hi' : Int) (Y : List Int) (hY : (if okK lo hi Z tm then (lo, hi, dropI hi tm Z) else (0, 0, [])) = (lo', hi', Y)) (w : World) (hA : ArgI w a Z) :
    Calls Try.prog 12 #[kpV lo hi a n c, .int .i64 tm] w fun e w' => ∃ va vc, e = .returned (kpV lo' hi' va Y.length vc) ∧ OwnI w' w.heap.size (.slice va Y.length vc) Y ∧ Below w.heap.size w w' := by
  have HN := hid hn
  have HU : Hid (∀ lo hi a n c, kpV lo hi a n c = .agg #[.int .i64 lo, .int .i64 hi, .slice a n c]) := fun _ _ _ _ _ => rfl
  have HB0 := hid (below2 w (kO lo hi a n c) (kO 0 0 none 0 0))
  have HK := hid (KBox2.new w lo hi a n c)
  have HA := hid hA
  have HKf := hid HK.out.fr
  have hWz := HK.out.sz
  unfold kO at HB0 HK HKf hWz
  rw [HU.out]
  clear hA
  rcases Bool.eq_false_or_eq_true (okK lo hi Z tm) with hok | hok
  · rw [hok, if_pos rfl] at hY
    injection hY with e1 hY
    injection hY with e2 e3
    obtain ⟨hk, ht⟩ := okK_yes hok
    have hl9 := krB_len hk
    have hh1 := (spanB_hi1 (krB_parts hk).1).1
    have HKr : Hid (∀ w, ArgI w a Z → Calls Try.prog 18 #[.agg #[.int .i64 lo, .int .i64 hi, .slice a n c]] w fun e w' => e = .returned (.bool true) ∧ Below w.heap.size w w') := fun w h => implKr_is lo hi Z true hk n hn a c (by omega) w h
    have HTm := hid (fun w => timeI_is tm true ht w)
    have HRc : Hid (∀ w, ArgI w a Z → Calls Try.prog 35 #[.agg #[.int .i64 lo, .int .i64 hi, .slice a n c], .int .i64 tm] w fun e w' => ∃ a' m, e = .returned (.slice a' m m) ∧ Y.length = m ∧ SlV a' m m ∧ ArgI w' a' Y ∧ (∀ b off, a' = some ⟨b, off, none⟩ → ∃ off', a = some ⟨b, off', none⟩) ∧ Below w.heap.size w w') := fun w h => by
      refine (recent_any lo hi Z n hn a c hS (by omega) tm (timeB_parts ht) (fun i hi' => krB_times hk i (by omega)) w h).mono ?_
      rintro e w' ⟨r, a', rfl, h1, h2, h3, h4, h5, h7, h6⟩
      have hd := drop_over hh1 (krB_parts hk).2.2 r (by omega) h2 (fun h => h3 (by omega))
      rw [hd, e3] at h5
      refine ⟨a', n - r, rfl, ?_, h4, h5, h7, h6⟩
      rw [← e3, ← hd, List.length_drop, hn]
    have hYl : Y.length ≤ 1000000 := by rw [← e3]; have := dropTo_len hi tm Z Z.length; unfold dropI; omega
    have HOw : Hid (∀ w a' m, Y.length = m → SlV a' m m → ArgI w a' Y → Calls Try.prog 36 #[.agg #[.int .i64 lo, .int .i64 hi, .slice a' m m]] w fun e w' => ∃ va vc, e = .returned (.agg #[.int .i64 lo', .int .i64 hi', .slice va Y.length vc]) ∧ OwnI w' w.heap.size (.slice va Y.length vc) Y ∧ Below w.heap.size w w') := fun w a' m h1 h2 h3 => by
      subst e1 e2
      exact own_any lo hi Y m h1 a' m h2 (by omega) w h3
    have HLen : Hid (Z.length = 0 → Y.length = 0) := fun h => by rw [← e3]; have := dropTo_len hi tm Z Z.length; unfold dropI; omega
    clear hok hk ht hn e1 e2 e3 hS hh1
    go_enter Try.func12, Try.ntmps12
    go_wp2_with (first | (go_at_call 18; refine (HKr.out _ (HA.out.on HB0.out)).mono ?_; rintro e w1 ⟨rfl, hb1⟩; have HB1 := hid (HB0.out.trans (hb1.mono HB0.out.size)); have HR1 := hid (HK.out.r.on hb1); have HF1 := hid (HKf.out.on hb1 (by omega)); have HX1 := hid (HK.out.x.on hb1); have hg1 := (hb1.frozen (p := ⟨w.heap.size, 2, none⟩) (by show w.heap.size < _; omega)).trans HK.out.g2; obtain ⟨hq1, x0, x1, x2⟩ := HX1.out; have hz1 := (by have := hb1.size; omega : w.heap.size + 2 ≤ w1.heap.size); clear hb1) | (go_at_call 33; refine (HTm.out _).mono ?_; rintro e w' ⟨rfl, rfl⟩) | (go_at_call 35; refine (HRc.out _ (HA.out.on HB1.out)).mono ?_; rintro e w2 ⟨a2, m2, rfl, hm2, hs2, ha2, hab, hb2⟩; have HM2 := hid hm2; have HS2 := hid hs2; have hst : Save w2 (w2.setCell ⟨w.heap.size, 2, none⟩ (.slice a2 m2 m2)) (fun j => w.heap.size ≤ j) := Save.setCell (S := fun j => w.heap.size ≤ j) (Save.refl w2 _) (p := ⟨w.heap.size, 2, none⟩) (fun _ => Nat.le_refl _) _; have HA2 := hid (argI_after HA.out ha2 HLen.out hab hst); have HB2 := hid (HB1.out.trans (hb2.mono HB1.out.size)); have HR2 := hid (HR1.out.on hb2); have HF2 := hid (HF1.out.on hb2 (by omega)); obtain ⟨hq2, y0, y1, y2⟩ := HX1.out.on hb2; have hg2 := (hb2.frozen (p := ⟨w.heap.size, 2, none⟩) hq1).trans hg1; have hz2 := hb2.size; have hst2 : Save w2 (w2.setCell ⟨w.heap.size, 2, none⟩ (.slice a2 m2 m2)) (fun j => j = w.heap.size) := Save.setCell (S := fun j => j = w.heap.size) (Save.refl w2 _) (p := ⟨w.heap.size, 2, none⟩) (fun _ => rfl) _; have HR3 := hid (HR2.out.save hst2 (by omega)); have HF3 := hid (HF2.out.save hst2 (by omega) (by omega)); have HB3 := hid (HB2.out.trans (hst.below (B := w.heap.size) (by omega) (fun j e => e))); have hz3 := hst.size; clear hb2 hm2 hs2 ha2 hab hst hst2) | (go_at_call 36; refine (HOw.out _ a2 m2 HM2.out HS2.out HA2.out).mono ?_; rintro e w4 ⟨va, vc, rfl, hO4, hb4⟩; have HO4 := hid hO4; have HB4 := hid (HB3.out.trans (hb4.mono HB3.out.size)); obtain ⟨_, r0, r1, r2⟩ := HR3.out.on hb4; obtain ⟨f0, f1, f2⟩ := HF3.out.on hb4 (by omega); have hz4 := hb4.size; clear hO4 hb4))
    refine bodyPost_ret (v := .agg #[.int .i64 lo', .int .i64 hi', .slice va Y.length vc]) (by simp [results, Try.results12, go_sem, r0, r1, r2, f0, f1, f2]) rfl ?_
    have hs2 := set3 w4 (w.heap.size + 1) lo' hi' (.slice va Y.length vc)
    have hz5 := HB4.out.size
    exact ⟨va, vc, rfl, (HO4.out.save hs2 (fun k e => by have := (HO4.out.lt k e).1; omega)).low (by omega), HB4.out.trans (hs2.below (B := w.heap.size) (by omega) (fun j e => by omega))⟩
  · rw [hok] at hY
    simp only [Bool.false_eq_true, if_false] at hY
    injection hY with e1 hY
    injection hY with e2 e3
    subst e1 e2 e3
    rcases okK_no hok with hk | ⟨hk, ht⟩
    · have HKr : Hid (∀ w, ArgI w a Z → Calls Try.prog 18 #[.agg #[.int .i64 lo, .int .i64 hi, .slice a n c]] w fun e w' => e = .returned (.bool false) ∧ Below w.heap.size w w') := fun w h => implKr_is lo hi Z false hk n hn a c (by omega) w h
      clear hok hk hn hS
      go_enter Try.func12, Try.ntmps12
      go_wp2_with (first | (go_at_call 18; refine (HKr.out _ (HA.out.on HB0.out)).mono ?_; rintro e w1 ⟨rfl, hb1⟩; have HB1 := hid (HB0.out.trans (hb1.mono HB0.out.size)); obtain ⟨_, r0, r1, r2⟩ := HK.out.r.on hb1; obtain ⟨f0, f1, f2⟩ := HKf.out.on hb1 (by omega); have hz1 := (by have := hb1.size; omega : w.heap.size + 2 ≤ w1.heap.size); clear hb1))
      refine bodyPost_ret (v := .agg #[.int .i64 0, .int .i64 0, .slice none 0 0]) (by simp [results, Try.results12, go_sem, r0, r1, r2, f0, f1, f2]) rfl ?_
      have hs2 := set3 w1 (w.heap.size + 1) 0 0 (.slice none 0 0)
      exact ⟨none, 0, rfl, OwnI.nil _ _, HB1.out.trans (hs2.below (B := w.heap.size) (by omega) (fun j e => by omega))⟩
    · have HKr : Hid (∀ w, ArgI w a Z → Calls Try.prog 18 #[.agg #[.int .i64 lo, .int .i64 hi, .slice a n c]] w fun e w' => e = .returned (.bool true) ∧ Below w.heap.size w w') := fun w h => implKr_is lo hi Z true hk n hn a c (by omega) w h
      have HTm := hid (fun w => timeI_is tm false ht w)
      clear hok hk hn ht hS
      go_enter Try.func12, Try.ntmps12
      go_wp2_with (first | (go_at_call 18; refine (HKr.out _ (HA.out.on HB0.out)).mono ?_; rintro e w1 ⟨rfl, hb1⟩; have HB1 := hid (HB0.out.trans (hb1.mono HB0.out.size)); obtain ⟨_, r0, r1, r2⟩ := HK.out.r.on hb1; obtain ⟨f0, f1, f2⟩ := HKf.out.on hb1 (by omega); have hz1 := (by have := hb1.size; omega : w.heap.size + 2 ≤ w1.heap.size); clear hb1) | (go_at_call 33; refine (HTm.out _).mono ?_; rintro e w' ⟨rfl, rfl⟩))
      refine bodyPost_ret (v := .agg #[.int .i64 0, .int .i64 0, .slice none 0 0]) (by simp [results, Try.results12, go_sem, r0, r1, r2, f0, f1, f2]) rfl ?_
      have hs2 := set3 w1 (w.heap.size + 1) 0 0 (.slice none 0 0)
      exact ⟨none, 0, rfl, OwnI.nil _ _, HB1.out.trans (hs2.below (B := w.heap.size) (by omega) (fun j e => by omega))⟩
end Go.Proofs.Ytlikkjppknbnfaa
