/-
  RingPop, the model's, by its contract.
-/
import Derived.Test.YtfafeomegoikkaaRgS2
import Derived.Lib.QuietBelow
namespace Go.Proofs.Ytfafeomegoikkaa
open Go.RowKit
set_option linter.unusedVariables false
set_option linter.unusedSimpArgs false
theorem sv2 (w : World) (b o o' : Nat) (v v' : Value) : Save w ((w.setCell ⟨b, o, none⟩ v).setCell ⟨b, o', none⟩ v').drew (fun j => j = b) :=
  (Save.setCell (S := fun j => j = b) (Save.setCell (S := fun j => j = b) (Save.refl w _) (p := ⟨b, o, none⟩) (fun _ => rfl) v) (p := ⟨b, o', none⟩) (fun _ => rfl) v').drew
theorem sv7 (w : World) (q : Nat) (v0 v1 v2 v3 v4 v5 v6 : Value) :
    Save w (((((((w.setCell ⟨q, 0, none⟩ v0).setCell ⟨q, 1, none⟩ v1).setCell ⟨q, 2, none⟩ v2).setCell ⟨q, 3, none⟩ v3).setCell ⟨q, 4, none⟩ v4).setCell ⟨q, 5, none⟩ v5).setCell ⟨q, 6, none⟩ v6) (fun j => j = q) := by
  refine Save.setCell (S := fun j => j = q) (Save.setCell (S := fun j => j = q) (Save.setCell (S := fun j => j = q) (Save.setCell (S := fun j => j = q) (Save.setCell (S := fun j => j = q) (Save.setCell (S := fun j => j = q) (Save.setCell (S := fun j => j = q) (Save.refl w _) ?_ _) ?_ _) ?_ _) ?_ _) ?_ _) ?_ _) ?_ _ <;> exact fun _ => rfl
theorem size_set6 (w : World) (p : Addr) (v : Value) : (w.setCell p v).heap.size = w.heap.size := by simp
set_option maxRecDepth 20000 in
set_option maxHeartbeats 4000000 in
theorem specPop_any (cap hd tl : Int) (Z : List Int) (n : Nat) (hn : Z.length = n * 2) (a : Option Addr) (c : Nat) (hl : n ≤ 2000000) (w : World) (hA : ArgI w a Z) :
    Calls Try.prog 21 #[rgV cap hd tl a n c] w fun e w' => ∃ a' c', e = .returned (roV (popR cap hd tl n Z).cap (popR cap hd tl n Z).hd (popR cap hd tl n Z).tl a' (popR cap hd tl n Z).n c' (popR cap hd tl n Z).pos (popR cap hd tl n Z).item (popR cap hd tl n Z).code) ∧ RgOut w w' a' (popR cap hd tl n Z).n (popR cap hd tl n Z).Z := by
  have HV : Hid (∀ cap hd tl a n c, rgV cap hd tl a n c = .agg #[.int .i64 cap, .int .i64 hd, .int .i64 tl, .slice a n c]) := fun _ _ _ _ _ _ => rfl
  have HB0 := hid (((Below.refl w.heap.size w).alloc (Nat.le_refl _) (.cells #[.int .i64 cap, .int .i64 hd, .int .i64 tl, .slice a n c] 25)).alloc (by simp) (.cells #[.int .i64 0, .int .i64 0, .int .i64 0, .slice none 0 0, .int .i64 0, .int .i64 0, .int .i64 0] 32))
  have HK := hid (RBox2.new w cap hd tl a n c)
  have HA := hid (hA.on HB0.out)
  have HN := hid hn
  have HR := hid (fun w h => specRr_any cap hd tl Z n hn a c hl w h)
  have HIll := hid (fun code w => ill_any code w)
  rw [HV.out] at HR ⊢
  unfold roV
  clear hA hn
  have hWz := HK.out.sz
  rcases Bool.eq_false_or_eq_true (ringB cap hd tl n Z) with h1 | h1
  rotate_left
  · have HZ : Hid (popR cap hd tl n Z = roIll 1) := by show popR cap hd tl n Z = _; simp [popR, h1]
    rw [h1] at HR
    clear h1
    rw [HZ.out]
    go_enter Try.func21, Try.ntmps21
    go_wp2_with fail
    generalize (w.alloc (.cells #[.int .i64 cap, .int .i64 hd, .int .i64 tl, .slice a n c] 25)).alloc (.cells #[.int .i64 0, .int .i64 0, .int .i64 0, .slice none 0 0, .int .i64 0, .int .i64 0, .int .i64 0] 32) = W at *
    go_wp2_with (first | (go_at_call 30; refine (HR.out _ HA.out).mono ?_; rintro e w1 ⟨rfl, hb1⟩; have HB1 := hid (hb1.mono (Nat.le_of_eq hWz.symm)); obtain ⟨k0, k1, k2, k3, o0, o1, o2, o3, o4, o5, o6, f0, f1, f2, f3, f4, f5, f6⟩ := HK.out.at HB1.out; clear hb1) | (go_at_call 49; refine (HIll.out _ _).mono ?_; rintro e w9 ⟨rfl, hb9⟩; have HB9 := hid (HB1.out.trans (hb9.mono (by have := HB1.out.size; omega))); obtain ⟨k0, k1, k2, k3, o0, o1, o2, o3, o4, o5, o6, f0, f1, f2, f3, f4, f5, f6⟩ := HK.out.at HB9.out; clear hb9))
    refine bodyPost_ret (v := .agg #[.int .i64 0, .int .i64 0, .int .i64 0, .slice none 0 0, .int .i64 0, .int .i64 0, .int .i64 1]) (by simp [results, Try.results21, go_sem, o0, o1, o2, o3, o4, o5, o6]) rfl ⟨none, 0, rfl, RgOut.none ?_⟩
    exact below_set7 (HB0.out.trans (HB9.out.mono (by omega))) _ (by omega) _ _ _ _ _ _ _
  obtain ⟨n', H, T, rfl, rfl, rfl, hnn, -, hH, hT, hHT, hTC, hC1, hC16, -⟩ := ringB_parts h1
  subst hnn
  by_cases h2 : (H : Int) = (T : Int)
  · have HZ : Hid (popR (n : Int) (H : Int) (T : Int) n Z = roIll 6) := by show popR _ _ _ n Z = _; simp only [popR, h1]; simp [h2]
    rw [h1] at HR
    have q1 : ((H : Int) == (T : Int)) = true := by simpa using h2
    clear h1 h2
    rw [HZ.out]
    go_enter Try.func21, Try.ntmps21
    go_wp2_with fail
    generalize (w.alloc (.cells #[.int .i64 n, .int .i64 H, .int .i64 T, .slice a n c] 25)).alloc (.cells #[.int .i64 0, .int .i64 0, .int .i64 0, .slice none 0 0, .int .i64 0, .int .i64 0, .int .i64 0] 32) = W at *
    go_wp2_with (first | (go_at_call 30; refine (HR.out _ HA.out).mono ?_; rintro e w1 ⟨rfl, hb1⟩; have HB1 := hid (hb1.mono (Nat.le_of_eq hWz.symm)); obtain ⟨k0, k1, k2, k3, o0, o1, o2, o3, o4, o5, o6, f0, f1, f2, f3, f4, f5, f6⟩ := HK.out.at HB1.out; clear hb1) | (go_at_call 49; refine (HIll.out _ _).mono ?_; rintro e w9 ⟨rfl, hb9⟩; have HB9 := hid (HB1.out.trans (hb9.mono (by have := HB1.out.size; omega))); obtain ⟨k0, k1, k2, k3, o0, o1, o2, o3, o4, o5, o6, f0, f1, f2, f3, f4, f5, f6⟩ := HK.out.at HB9.out; clear hb9))
    refine bodyPost_ret (v := .agg #[.int .i64 0, .int .i64 0, .int .i64 0, .slice none 0 0, .int .i64 0, .int .i64 0, .int .i64 6]) (by simp [results, Try.results21, go_sem, o0, o1, o2, o3, o4, o5, o6]) rfl ⟨none, 0, rfl, RgOut.none ?_⟩
    exact below_set7 (HB0.out.trans (HB9.out.mono (by omega))) _ (by omega) _ _ _ _ _ _ _
  have q1 : ((H : Int) == (T : Int)) = false := by simpa using h2
  have HCU := hid (fun w hA => specCup_any n H H T Z HN.out hC1 hC16 (by omega) a c w hA)
  unfold cuV at HCU
  rw [HV.out] at HCU
  have hlt : H % n < n := Nat.mod_lt _ hC1
  by_cases h0 : sqAt Z n H = (H : Int)
  · have HZ : Hid (popR (n : Int) (H : Int) (T : Int) n Z = roIll 10) := by show popR _ _ _ n Z = _; simp only [popR, h1]; simp [h2, h0]
    rw [h1] at HR
    rw [HZ.out]
    have q0 : (sqAt Z n H == (H : Int)) = true := by simpa using h0
    clear h1 h0 h2
    generalize sqAt Z n H = sq at *
    generalize itAt Z n H = it at *
    go_enter Try.func21, Try.ntmps21
    go_wp2_with fail
    generalize (w.alloc (.cells #[.int .i64 n, .int .i64 H, .int .i64 T, .slice a n c] 25)).alloc (.cells #[.int .i64 0, .int .i64 0, .int .i64 0, .slice none 0 0, .int .i64 0, .int .i64 0, .int .i64 0] 32) = W at *
    go_wp2_with (go_at_call 30; refine (HR.out _ HA.out).mono ?_; rintro e w1 ⟨rfl, hb1⟩; have HB1 := hid (hb1.mono (Nat.le_of_eq hWz.symm)); obtain ⟨k0, k1, k2, k3, o0, o1, o2, o3, o4, o5, o6, f0, f1, f2, f3, f4, f5, f6⟩ := HK.out.at HB1.out; clear hb1)
    have HB1' := hid HB1.out
    have e0 := cell_regrown k0
    have e1 := cell_regrown k1
    have e2 := cell_regrown k2
    have e3 := cell_regrown k3
    have HCq := hid (fun d os => Calls.regrown_of (HCU.out (Sort.grow (redrawn w1 d) os) ((HA.out.below HB1.out (Nat.le_of_eq hWz)).on (below_regrown w1 d os))))
    have hf := fun w => run_seq w sq it
    refine wp_region_quiet_below (by kernel_rfl) (by kernel_rfl) ?_
    repeat (go_big_quiet_step (exact HCq.out _ _))
    refine wpQuiet_nil ?_
    intro _ hw'
    obtain ⟨⟨dq, osq⟩, hw''⟩ := hw'
    subst hw''
    have HB2 := hid (HB1.out.trans ((below_regrown w1 dq osq).mono (by have := HB1.out.size; omega)))
    obtain ⟨k0, k1, k2, k3, o0, o1, o2, o3, o4, o5, o6, f0, f1, f2, f3, f4, f5, f6⟩ := HK.out.at HB2.out
    clear e0 e1 e2 e3 HCq
    generalize Sort.grow (redrawn w1 dq) osq = w2 at *
    go_wp2_with (go_at_call 49; refine (HIll.out _ _).mono ?_; rintro e w9 ⟨rfl, hb9⟩; have HB9 := hid (HB2.out.trans (hb9.mono (by have := HB2.out.size; omega))); obtain ⟨k0, k1, k2, k3, o0, o1, o2, o3, o4, o5, o6, f0, f1, f2, f3, f4, f5, f6⟩ := HK.out.at HB9.out; clear hb9)
    refine bodyPost_ret (v := .agg #[.int .i64 0, .int .i64 0, .int .i64 0, .slice none 0 0, .int .i64 0, .int .i64 0, .int .i64 10]) (by simp [results, Try.results21, go_sem, o0, o1, o2, o3, o4, o5, o6]) rfl ⟨none, 0, rfl, RgOut.none ?_⟩
    exact below_set7 (HB0.out.trans (HB9.out.mono (by omega))) _ (by omega) _ _ _ _ _ _ _
  have HZ : Hid (popR (n : Int) (H : Int) (T : Int) n Z = ⟨n, (H : Int) + 1, T, n, (Z.set (H % n * 2) ((H : Int) + n)).set (H % n * 2 + 1) 0, H, itAt Z n H, 0⟩) := by show popR _ _ _ n Z = _; simp only [popR, h1]; simp [h2, h0]
  have HCp := hid (fun w h => copy_any (n : Int) (H : Int) (T : Int) n Z HN.out hC1 hC16 a c w h)
  rw [h1] at HR
  rw [HZ.out]
  have q0 : (sqAt Z n H == (H : Int)) = false := by simpa using h0
  clear h1 h0 h2
  generalize sqAt Z n H = sq at *
  generalize itAt Z n H = it at *
  go_enter Try.func21, Try.ntmps21
  go_wp2_with fail
  generalize (w.alloc (.cells #[.int .i64 n, .int .i64 H, .int .i64 T, .slice a n c] 25)).alloc (.cells #[.int .i64 0, .int .i64 0, .int .i64 0, .slice none 0 0, .int .i64 0, .int .i64 0, .int .i64 0] 32) = W at *
  go_wp2_with (go_at_call 30; refine (HR.out _ HA.out).mono ?_; rintro e w1 ⟨rfl, hb1⟩; have HB1 := hid (hb1.mono (Nat.le_of_eq hWz.symm)); obtain ⟨k0, k1, k2, k3, o0, o1, o2, o3, o4, o5, o6, f0, f1, f2, f3, f4, f5, f6⟩ := HK.out.at HB1.out; clear hb1)
  have HB1' := hid HB1.out
  have e0 := cell_regrown k0
  have e1 := cell_regrown k1
  have e2 := cell_regrown k2
  have e3 := cell_regrown k3
  have HCq := hid (fun d os => Calls.regrown_of (HCU.out (Sort.grow (redrawn w1 d) os) ((HA.out.below HB1.out (Nat.le_of_eq hWz)).on (below_regrown w1 d os))))
  have hf := fun w => run_seq w sq it
  refine wp_region_quiet_below (by kernel_rfl) (by kernel_rfl) ?_
  repeat (go_big_quiet_step (exact HCq.out _ _))
  refine wpQuiet_nil ?_
  intro _ hw'
  obtain ⟨⟨dq, osq⟩, hw''⟩ := hw'
  subst hw''
  have HB2 := hid (HB1.out.trans ((below_regrown w1 dq osq).mono (by have := HB1.out.size; omega)))
  obtain ⟨k0, k1, k2, k3, o0, o1, o2, o3, o4, o5, o6, f0, f1, f2, f3, f4, f5, f6⟩ := HK.out.at HB2.out
  clear e0 e1 e2 e3 HCq
  generalize Sort.grow (redrawn w1 dq) osq = w2 at *
  go_wp2_with (go_at_call 50; refine (HCp.out _ (HA.out.below HB2.out (Nat.le_of_eq hWz))).mono ?_; rintro e w3 ⟨g, c', rfl, hg, hcp, hb3⟩; have HB3 := hid (HB2.out.trans (hb3.mono (by have := HB2.out.size; omega))); have HCP := hid hcp; have hcl := hcp.lt; have hz1 := HB2.out.size; have hz2 := hb3.size; have hq2 : w.heap.size < w3.heap.size := (by omega); have hq3 : w.heap.size + 1 < w3.heap.size := (by omega); have hq4 : ¬ w.heap.size = w3.heap.size := (by omega); have hq5 : ¬ w.heap.size + 1 = w3.heap.size := (by omega); obtain ⟨k0, k1, k2, k3, o0, o1, o2, o3, o4, o5, o6, f0, f1, f2, f3, f4, f5, f6⟩ := HK.out.at HB3.out; clear hb3 hcp)
  have HBX := hid (RBox.new w3 n H T (some ⟨g, 0, none⟩) n c' 25)
  have HFX := hid (OFree.new w3 #[.int .i64 n, .int .i64 H, .int .i64 T, .slice (some ⟨g, 0, none⟩) n c'] 25)
  have HB4 := hid (HB3.out.alloc (by omega) (.cells #[.int .i64 n, .int .i64 H, .int .i64 T, .slice (some ⟨g, 0, none⟩) n c'] 25))
  have HC4 := hid (HCP.out.on (below_one' w3 (.cells #[.int .i64 n, .int .i64 H, .int .i64 T, .slice (some ⟨g, 0, none⟩) n c'] 25)))
  clear k0 k1 k2 k3 o0 o1 o2 o3 o4 o5 o6 f0 f1 f2 f3 f4 f5 f6
  generalize w3.alloc (.cells #[.int .i64 n, .int .i64 H, .int .i64 T, .slice (some ⟨g, 0, none⟩) n c'] 25) = w4 at *
  obtain ⟨k0, k1, k2, k3, o0, o1, o2, o3, o4, o5, o6, f0, f1, f2, f3, f4, f5, f6⟩ := HK.out.at HB4.out
  obtain ⟨hbl, x0, x1, x2, x3⟩ := HBX.out
  have fx1 := HFX.out 1
  have hm : (H : Int).tmod (n : Int) = ((H % n : Nat) : Int) := by rw [Int.tmod_eq_emod_of_nonneg (by omega)]; rfl
  have hn0 : ¬ n = 0 := by omega
  have r1 : IntKind.i64.wrap ((H : Int) + (n : Int)) = (H : Int) + (n : Int) := by rw [IntKind.wrap_i64]; omega
  generalize hPi : H % n = i at *
  have HPi := hid hPi
  clear hPi
  obtain ⟨y0, z0⟩ := HC4.out.cell (i * 2) (by omega)
  obtain ⟨y1, z1⟩ := HC4.out.cell (i * 2 + 1) (by omega)
  have hgw : ¬ w3.heap.size = g := by omega
  have hgw' : ¬ g = w3.heap.size := by omega
  have hgq : ¬ g = w.heap.size + 1 := by omega
  have hgq' : ¬ w.heap.size + 1 = g := by omega
  have hgr' : ¬ w.heap.size = g := by omega
  go_region
  all_goals
    have HB5 := hid (below_drew ((HB4.out.setCell (p := ⟨g, i * 2, none⟩) (by show _ ≤ g; omega) (.int .i64 ((H : Int) + n))).setCell (p := ⟨g, i * 2 + 1, none⟩) (by show _ ≤ g; omega) (.int .i64 0)))
    have HC5 := hid ((HC4.out.set (i * 2) (by omega) ((H : Int) + n)).set (i * 2 + 1) (by omega) 0).drew
    have HX5 := hid (HBX.out.save (sv2 w4 g (i * 2) (i * 2 + 1) (.int .i64 ((H : Int) + n)) (.int .i64 0)) hgw)
    have HF5 : Hid (((w4.setCell ⟨g, i * 2, none⟩ (.int .i64 ((H : Int) + n))).setCell ⟨g, i * 2 + 1, none⟩ (.int .i64 0)).drew.frozen? ⟨w3.heap.size, 1, none⟩ = false) := ((sv2 w4 g (i * 2) (i * 2 + 1) (.int .i64 ((H : Int) + n)) (.int .i64 0)).frozen (p := ⟨w3.heap.size, 1, none⟩) HBX.out.lt hgw).trans (HFX.out 1)
    clear k0 k1 k2 k3 o0 o1 o2 o3 o4 o5 o6 f0 f1 f2 f3 f4 f5 f6 x0 x1 x2 x3 y0 z0 y1 z1 fx1 hbl
    generalize ((w4.setCell ⟨g, i * 2, none⟩ (.int .i64 ((H : Int) + n))).setCell ⟨g, i * 2 + 1, none⟩ (.int .i64 0)).drew = w5 at *
    obtain ⟨k0, k1, k2, k3, o0, o1, o2, o3, o4, o5, o6, f0, f1, f2, f3, f4, f5, f6⟩ := HK.out.at HB5.out
    obtain ⟨hbl, x0, x1, x2, x3⟩ := HX5.out
    have fx1 := HF5.out
    go_wp2_with fail
    have HB6 := hid (HB5.out.setCell (p := ⟨w3.heap.size, 1, none⟩) (by show _ ≤ w3.heap.size; omega) (.int .i64 ((H : Int) + 1)))
    have HC6 := hid (HC5.out.other (a := ⟨w3.heap.size, 1, none⟩) (fun e => hgw' e) (.int .i64 ((H : Int) + 1)))
    have hbl6 : w3.heap.size < (w5.setCell ⟨w3.heap.size, 1, none⟩ (.int .i64 ((H : Int) + 1))).heap.size := by rw [size_set6]; exact hbl
    have X6 : Hid (∀ V, Below (w5.setCell ⟨w3.heap.size, 1, none⟩ (.int .i64 ((H : Int) + 1))).heap.size (w5.setCell ⟨w3.heap.size, 1, none⟩ (.int .i64 ((H : Int) + 1))) V → V.cell? ⟨w3.heap.size, 0, none⟩ = some (.int .i64 n) ∧ V.cell? ⟨w3.heap.size, 1, none⟩ = some (.int .i64 ((H : Int) + 1)) ∧ V.cell? ⟨w3.heap.size, 2, none⟩ = some (.int .i64 T) ∧ V.cell? ⟨w3.heap.size, 3, none⟩ = some (.slice (some ⟨g, 0, none⟩) n c')) := fun V hV =>
      ⟨(hV.cell (p := ⟨w3.heap.size, 0, none⟩) hbl6).trans (by simp [go_sem, x0]), (hV.cell (p := ⟨w3.heap.size, 1, none⟩) hbl6).trans (by simp [go_sem, x1]), (hV.cell (p := ⟨w3.heap.size, 2, none⟩) hbl6).trans (by simp [go_sem, x2]), (hV.cell (p := ⟨w3.heap.size, 3, none⟩) hbl6).trans (by simp [go_sem, x3])⟩
    clear k0 k1 k2 k3 o0 o1 o2 o3 o4 o5 o6 f0 f1 f2 f3 f4 f5 f6 x0 x1 x2 x3 fx1 hbl
    generalize w5.setCell ⟨w3.heap.size, 1, none⟩ (.int .i64 ((H : Int) + 1)) = w6 at *
    obtain ⟨k0, k1, k2, k3, o0, o1, o2, o3, o4, o5, o6, f0, f1, f2, f3, f4, f5, f6⟩ := HK.out.at HB6.out
    obtain ⟨x0, x1, x2, x3⟩ := X6.out w6 (Below.refl _ _)
    have hz6 := HB6.out.size
    have HSx := hid (fun W' (hs : Save w6 W' (fun j => j = w.heap.size + 1)) => (⟨(hs.cell (p := ⟨w.heap.size, 0, none⟩) (by show w.heap.size < _; omega) (by show ¬ w.heap.size = w.heap.size + 1; omega)).trans k0, (hs.cell (p := ⟨w.heap.size, 1, none⟩) (by show w.heap.size < _; omega) (by show ¬ w.heap.size = w.heap.size + 1; omega)).trans k1, (hs.cell (p := ⟨w.heap.size, 2, none⟩) (by show w.heap.size < _; omega) (by show ¬ w.heap.size = w.heap.size + 1; omega)).trans k2, (hs.cell (p := ⟨w.heap.size, 3, none⟩) (by show w.heap.size < _; omega) (by show ¬ w.heap.size = w.heap.size + 1; omega)).trans k3, (hs.cell (p := ⟨w3.heap.size, 0, none⟩) hbl6 (by show ¬ w3.heap.size = w.heap.size + 1; omega)).trans x0, (hs.cell (p := ⟨w3.heap.size, 1, none⟩) hbl6 (by show ¬ w3.heap.size = w.heap.size + 1; omega)).trans x1, (hs.cell (p := ⟨w3.heap.size, 2, none⟩) hbl6 (by show ¬ w3.heap.size = w.heap.size + 1; omega)).trans x2, (hs.cell (p := ⟨w3.heap.size, 3, none⟩) hbl6 (by show ¬ w3.heap.size = w.heap.size + 1; omega)).trans x3⟩ : W'.cell? ⟨w.heap.size, 0, none⟩ = some (.int .i64 n) ∧ W'.cell? ⟨w.heap.size, 1, none⟩ = some (.int .i64 H) ∧ W'.cell? ⟨w.heap.size, 2, none⟩ = some (.int .i64 T) ∧ W'.cell? ⟨w.heap.size, 3, none⟩ = some (.slice a n c) ∧ W'.cell? ⟨w3.heap.size, 0, none⟩ = some (.int .i64 n) ∧ W'.cell? ⟨w3.heap.size, 1, none⟩ = some (.int .i64 ((H : Int) + 1)) ∧ W'.cell? ⟨w3.heap.size, 2, none⟩ = some (.int .i64 T) ∧ W'.cell? ⟨w3.heap.size, 3, none⟩ = some (.slice (some ⟨g, 0, none⟩) n c')))
    have hrf := fun w => run_item w sq it
    have HCw := hid (HCU.out w6.drew (HA.out.below (below_drew HB6.out) (Nat.le_of_eq hWz)))
    have HS1 := hid (HSx.out w6.drew (Save.refl w6 _).drew)
    have HFin : Hid (g ≠ w.heap.size + 1 ∧ w.heap.size ≤ g ∧ i < n ∧ W.heap.size ≤ w6.heap.size ∧ W.heap.size = w.heap.size + 1 + 1 ∧ w.heap.size + 1 + 1 ≤ w6.heap.size) := ⟨by omega, by omega, hlt, hz6, hWz, by omega⟩
    clear HCU HCp HR HIll HV hm hn0 r1 hgw hgw' hgq hgq' hgr' hq2 hq3 hq4 hq5 hcl hz1 hz2 hg hlt q1 q0 hH hT hHT hTC hC1 hC16 HN HZ HB2 HB3 HB4 HC4 HBX HFX HB5 HC5 HX5 HF5 HCP hz6 hWz hbl6 HA X6
    go_region_held3 (fun W' => W'.cell? ⟨w.heap.size, 0, none⟩ = some (.int .i64 n) ∧ W'.cell? ⟨w.heap.size, 1, none⟩ = some (.int .i64 H) ∧ W'.cell? ⟨w.heap.size, 2, none⟩ = some (.int .i64 T) ∧ W'.cell? ⟨w.heap.size, 3, none⟩ = some (.slice a n c) ∧ W'.cell? ⟨w3.heap.size, 0, none⟩ = some (.int .i64 n) ∧ W'.cell? ⟨w3.heap.size, 1, none⟩ = some (.int .i64 ((H : Int) + 1)) ∧ W'.cell? ⟨w3.heap.size, 2, none⟩ = some (.int .i64 T) ∧ W'.cell? ⟨w3.heap.size, 3, none⟩ = some (.slice (some ⟨g, 0, none⟩) n c')) (first | (with_reducible exact HS1.out) | (with_reducible exact HS2.out) | (exact HS3.out)) ((go_at_call 54; refine HCw.out.mono ?_; rintro e w7 ⟨rfl, hb7'⟩; have hb7 := below_undrew hb7'; clear hb7'; have HS7 := hid (Save.of_below hb7 (fun j => j = w.heap.size + 1) (fun j h1 h2 => absurd h1 (by omega))); have HB7 := hid (HB6.out.trans (hb7.mono (by have := HFin.out; omega))); have HC7 := hid (HC6.out.on hb7); have HS2 := hid (HSx.out w7 HS7.out); have HS3 := hid (HSx.out _ (HS7.out.trans (sv7 w7 (w.heap.size + 1) (.int .i64 n) (.int .i64 ((H : Int) + 1)) (.int .i64 T) (.slice (some ⟨g, 0, none⟩) n c') (.int .i64 H) (.int .i64 it) (.int .i64 0)))); have hf7 := run_item w7 sq it; obtain ⟨l0, l1, l2, l3, o0, o1, o2, o3, o4, o5, o6, f0, f1, f2, f3, f4, f5, f6⟩ := HK.out.at HB7.out; clear hb7 l0 l1 l2 l3))
    all_goals
      go_wp2_with fail
      refine bodyPost_ret (v := .agg #[.int .i64 n, .int .i64 ((H : Int) + 1), .int .i64 T, .slice (some ⟨g, 0, none⟩) n c', .int .i64 H, .int .i64 it, .int .i64 0]) (by simp [results, Try.results21, go_sem, o0, o1, o2, o3, o4, o5, o6]) rfl ⟨some ⟨g, 0, none⟩, c', rfl, CpM.out ?_ HFin.out.2.1 ?_⟩
      · rw [HPi.out]
        exact HC7.out.set7 (w.heap.size + 1) HFin.out.1 _ _ _ _ _ _ _
      · have hfin := HFin.out
        exact below_set7 (HB0.out.trans (HB7.out.mono (by omega))) (w.heap.size + 1) (by omega) _ _ _ _ _ _ _
end Go.Proofs.Ytfafeomegoikkaa
