/-
  RingClaim, RingFill, RingPop, the model's, by their contracts.
-/
import Derived.Test.YtfafeomegoikkaaRgS
import Derived.Deep.QuietTactic
import Derived.Deep.RegionHeld3
namespace Go.Proofs.Ytfafeomegoikkaa
open Go.RowKit
set_option linter.unusedVariables false
set_option linter.unusedSimpArgs false
theorem OBox.sv {W W' : World} {q : Nat} {B : Nat} {cap hd tl : Int} {a : Option Addr} {n c : Nat} {pos item code : Int} (h : OBox W q cap hd tl a n c pos item code) (hb : Below B W W') (hq : q < B) : OBox W' q cap hd tl a n c pos item code := h.below hb hq
theorem CpM.drew {w : World} {g n : Nat} {Z : List Int} (h : CpM w g n Z) : CpM w.drew g n Z := h.on (below_drew (Below.refl _ _))
def roZ : Obj := .cells #[.int .i64 0, .int .i64 0, .int .i64 0, .slice none 0 0, .int .i64 0, .int .i64 0, .int .i64 0] 32
/-- Two boxes of a call over rings: the argument's, and the answer's. -/
structure RBox2 (W : World) (q : Nat) (cap hd tl : Int) (a : Option Addr) (n c : Nat) : Prop where
  sz : W.heap.size = q + 1 + 1
  x : RBox W q cap hd tl a n c
  o : OBox W (q + 1) 0 0 0 none 0 0 0 0 0
  f : OFree W (q + 1)
theorem RBox2.new (w : World) (cap hd tl : Int) (a : Option Addr) (n c : Nat) : RBox2 ((w.alloc (.cells #[.int .i64 cap, .int .i64 hd, .int .i64 tl, .slice a n c] 25)).alloc (.cells #[.int .i64 0, .int .i64 0, .int .i64 0, .slice none 0 0, .int .i64 0, .int .i64 0, .int .i64 0] 32)) w.heap.size cap hd tl a n c := by
  have e1 : (w.alloc (.cells #[.int .i64 cap, .int .i64 hd, .int .i64 tl, .slice a n c] 25)).heap.size = w.heap.size + 1 := by simp
  refine ⟨by simp, (RBox.new w cap hd tl a n c 25).on (below_one' _ _), ?_, ?_⟩
  · rw [← e1]; exact OBox.new _ _ _ _ _ _ _ _ _ _ _
  · rw [← e1]; exact OFree.new _ _ _
/-- What is wanted of the two boxes later. -/
structure RCells (W : World) (q : Nat) (cap hd tl : Int) (a : Option Addr) (n c : Nat) : Prop where
  k0 : W.cell? ⟨q, 0, none⟩ = some (.int .i64 cap)
  k1 : W.cell? ⟨q, 1, none⟩ = some (.int .i64 hd)
  k2 : W.cell? ⟨q, 2, none⟩ = some (.int .i64 tl)
  k3 : W.cell? ⟨q, 3, none⟩ = some (.slice a n c)
  o0 : W.cell? ⟨q + 1, 0, none⟩ = some (.int .i64 0)
  o1 : W.cell? ⟨q + 1, 1, none⟩ = some (.int .i64 0)
  o2 : W.cell? ⟨q + 1, 2, none⟩ = some (.int .i64 0)
  o3 : W.cell? ⟨q + 1, 3, none⟩ = some (.slice none 0 0)
  o4 : W.cell? ⟨q + 1, 4, none⟩ = some (.int .i64 0)
  o5 : W.cell? ⟨q + 1, 5, none⟩ = some (.int .i64 0)
  o6 : W.cell? ⟨q + 1, 6, none⟩ = some (.int .i64 0)
  f0 : W.frozen? ⟨q + 1, 0, none⟩ = false
  f1 : W.frozen? ⟨q + 1, 1, none⟩ = false
  f2 : W.frozen? ⟨q + 1, 2, none⟩ = false
  f3 : W.frozen? ⟨q + 1, 3, none⟩ = false
  f4 : W.frozen? ⟨q + 1, 4, none⟩ = false
  f5 : W.frozen? ⟨q + 1, 5, none⟩ = false
  f6 : W.frozen? ⟨q + 1, 6, none⟩ = false
theorem RBox2.at {W W' : World} {q : Nat} {cap hd tl : Int} {a : Option Addr} {n c : Nat} (h : RBox2 W q cap hd tl a n c) (hb : Below (q + 1 + 1) W W') : RCells W' q cap hd tl a n c := by
  obtain ⟨hs, hx, ho, hf⟩ := h
  obtain ⟨_, a0, a1, a2, a3⟩ := hx.below hb (by omega)
  obtain ⟨_, b0, b1, b2, b3, b4, b5, b6⟩ := ho.below hb (by omega)
  have hf' := hf.below hb (by omega)
  exact ⟨a0, a1, a2, a3, b0, b1, b2, b3, b4, b5, b6, hf' 0, hf' 1, hf' 2, hf' 3, hf' 4, hf' 5, hf' 6⟩
theorem RCells.drew {W : World} {q : Nat} {cap hd tl : Int} {a : Option Addr} {n c : Nat} (h : RCells W q cap hd tl a n c) : RCells W.drew q cap hd tl a n c := ⟨h.k0, h.k1, h.k2, h.k3, h.o0, h.o1, h.o2, h.o3, h.o4, h.o5, h.o6, h.f0, h.f1, h.f2, h.f3, h.f4, h.f5, h.f6⟩
theorem below_set7 {B : Nat} {w W : World} (h : Below B w W) (q : Nat) (hq : B ≤ q) (v0 v1 v2 v3 v4 v5 v6 : Value) :
    Below B w (((((((W.setCell ⟨q, 0, none⟩ v0).setCell ⟨q, 1, none⟩ v1).setCell ⟨q, 2, none⟩ v2).setCell ⟨q, 3, none⟩ v3).setCell ⟨q, 4, none⟩ v4).setCell ⟨q, 5, none⟩ v5).setCell ⟨q, 6, none⟩ v6) :=
  ((((((h.setCell hq _).setCell hq _).setCell hq _).setCell hq _).setCell hq _).setCell hq _).setCell hq _
theorem CpM.set7 {W : World} {g n : Nat} {Z : List Int} (h : CpM W g n Z) (q : Nat) (hq : g ≠ q) (v0 v1 v2 v3 v4 v5 v6 : Value) :
    CpM (((((((W.setCell ⟨q, 0, none⟩ v0).setCell ⟨q, 1, none⟩ v1).setCell ⟨q, 2, none⟩ v2).setCell ⟨q, 3, none⟩ v3).setCell ⟨q, 4, none⟩ v4).setCell ⟨q, 5, none⟩ v5).setCell ⟨q, 6, none⟩ v6) g n Z :=
  ((((((h.other hq _).other hq _).other hq _).other hq _).other hq _).other hq _).other hq _
set_option maxRecDepth 20000 in
set_option maxHeartbeats 4000000 in
theorem specClaim_any (cap hd tl : Int) (Z : List Int) (n : Nat) (hn : Z.length = n * 2) (a : Option Addr) (c : Nat) (hl : n ≤ 2000000) (w : World) (hA : ArgI w a Z) :
    Calls Try.prog 17 #[rgV cap hd tl a n c] w fun e w' => ∃ a' c', e = .returned (roV (claimR cap hd tl n Z).cap (claimR cap hd tl n Z).hd (claimR cap hd tl n Z).tl a' (claimR cap hd tl n Z).n c' (claimR cap hd tl n Z).pos (claimR cap hd tl n Z).item (claimR cap hd tl n Z).code) ∧ RgOut w w' a' (claimR cap hd tl n Z).n (claimR cap hd tl n Z).Z := by
  have HV : Hid (∀ cap hd tl a n c, rgV cap hd tl a n c = .agg #[.int .i64 cap, .int .i64 hd, .int .i64 tl, .slice a n c]) := fun _ _ _ _ _ _ => rfl
  have HB0 := hid (((Below.refl w.heap.size w).alloc (Nat.le_refl _) (.cells #[.int .i64 cap, .int .i64 hd, .int .i64 tl, .slice a n c] 25)).alloc (by simp) (.cells #[.int .i64 0, .int .i64 0, .int .i64 0, .slice none 0 0, .int .i64 0, .int .i64 0, .int .i64 0] 32))
  have HK := hid (RBox2.new w cap hd tl a n c)
  have HA := hid (hA.on HB0.out)
  have HN := hid hn
  have HR := hid (fun w h => specRr_any cap hd tl Z n hn a c hl w h)
  have HIll := hid (fun code w => ill_any code w)
  rw [HV.out] at HR ⊢
  unfold roV
  clear hA hn
  have hWz := HK.out.sz
  rcases Bool.eq_false_or_eq_true (ringB cap hd tl n Z) with h1 | h1
  rotate_left
  · have HZ : Hid (claimR cap hd tl n Z = roIll 1) := by show claimR cap hd tl n Z = _; simp [claimR, h1]
    rw [h1] at HR
    clear h1
    rw [HZ.out]
    go_enter Try.func17, Try.ntmps17
    go_wp2_with fail
    generalize (w.alloc (.cells #[.int .i64 cap, .int .i64 hd, .int .i64 tl, .slice a n c] 25)).alloc (.cells #[.int .i64 0, .int .i64 0, .int .i64 0, .slice none 0 0, .int .i64 0, .int .i64 0, .int .i64 0] 32) = W at *
    go_wp2_with (first | (go_at_call 30; refine (HR.out _ HA.out).mono ?_; rintro e w1 ⟨rfl, hb1⟩; have HB1 := hid (hb1.mono (Nat.le_of_eq hWz.symm)); obtain ⟨k0, k1, k2, k3, o0, o1, o2, o3, o4, o5, o6, f0, f1, f2, f3, f4, f5, f6⟩ := HK.out.at HB1.out; clear hb1) | (go_at_call 49; refine (HIll.out _ _).mono ?_; rintro e w9 ⟨rfl, hb9⟩; have HB9 := hid (HB1.out.trans (hb9.mono (by have := HB1.out.size; omega))); obtain ⟨k0, k1, k2, k3, o0, o1, o2, o3, o4, o5, o6, f0, f1, f2, f3, f4, f5, f6⟩ := HK.out.at HB9.out; clear hb9))
    refine bodyPost_ret (v := .agg #[.int .i64 0, .int .i64 0, .int .i64 0, .slice none 0 0, .int .i64 0, .int .i64 0, .int .i64 1]) (by simp [results, Try.results17, go_sem, o0, o1, o2, o3, o4, o5, o6]) rfl ⟨none, 0, rfl, RgOut.none ?_⟩
    exact below_set7 (HB0.out.trans (HB9.out.mono (by omega))) _ (by omega) _ _ _ _ _ _ _
  obtain ⟨n', H, T, rfl, rfl, rfl, hnn, -, hH, hT, hHT, hTC, hC1, hC16, -⟩ := ringB_parts h1
  subst hnn
  by_cases h2 : (T : Int) = (H : Int) + n ∨ (T : Int) = 1000000
  · have HZ : Hid (claimR (n : Int) (H : Int) (T : Int) n Z = roIll 9) := by show claimR _ _ _ n Z = _; simp [claimR, h1, h2]
    rw [h1] at HR
    clear h1
    by_cases h3 : (T : Int) = (H : Int) + n
    · have q1 : ((T : Int) == (H : Int) + (n : Int)) = true := by simpa using h3
      clear h2 h3
      rw [HZ.out]
      go_enter Try.func17, Try.ntmps17
      go_wp2_with fail
      generalize (w.alloc (.cells #[.int .i64 n, .int .i64 H, .int .i64 T, .slice a n c] 25)).alloc (.cells #[.int .i64 0, .int .i64 0, .int .i64 0, .slice none 0 0, .int .i64 0, .int .i64 0, .int .i64 0] 32) = W at *
      go_wp2_with (first | (go_at_call 30; refine (HR.out _ HA.out).mono ?_; rintro e w1 ⟨rfl, hb1⟩; have HB1 := hid (hb1.mono (Nat.le_of_eq hWz.symm)); obtain ⟨k0, k1, k2, k3, o0, o1, o2, o3, o4, o5, o6, f0, f1, f2, f3, f4, f5, f6⟩ := HK.out.at HB1.out; clear hb1) | (go_at_call 49; refine (HIll.out _ _).mono ?_; rintro e w9 ⟨rfl, hb9⟩; have HB9 := hid (HB1.out.trans (hb9.mono (by have := HB1.out.size; omega))); obtain ⟨k0, k1, k2, k3, o0, o1, o2, o3, o4, o5, o6, f0, f1, f2, f3, f4, f5, f6⟩ := HK.out.at HB9.out; clear hb9))
      refine bodyPost_ret (v := .agg #[.int .i64 0, .int .i64 0, .int .i64 0, .slice none 0 0, .int .i64 0, .int .i64 0, .int .i64 9]) (by simp [results, Try.results17, go_sem, o0, o1, o2, o3, o4, o5, o6]) rfl ⟨none, 0, rfl, RgOut.none ?_⟩
      exact below_set7 (HB0.out.trans (HB9.out.mono (by omega))) _ (by omega) _ _ _ _ _ _ _
    · have q1 : ((T : Int) == (H : Int) + (n : Int)) = false := by simpa using h3
      have q2 : ((T : Int) == 1000000) = true := by simp; omega
      clear h2 h3
      rw [HZ.out]
      go_enter Try.func17, Try.ntmps17
      go_wp2_with fail
      generalize (w.alloc (.cells #[.int .i64 n, .int .i64 H, .int .i64 T, .slice a n c] 25)).alloc (.cells #[.int .i64 0, .int .i64 0, .int .i64 0, .slice none 0 0, .int .i64 0, .int .i64 0, .int .i64 0] 32) = W at *
      go_wp2_with (first | (go_at_call 30; refine (HR.out _ HA.out).mono ?_; rintro e w1 ⟨rfl, hb1⟩; have HB1 := hid (hb1.mono (Nat.le_of_eq hWz.symm)); obtain ⟨k0, k1, k2, k3, o0, o1, o2, o3, o4, o5, o6, f0, f1, f2, f3, f4, f5, f6⟩ := HK.out.at HB1.out; clear hb1) | (go_at_call 49; refine (HIll.out _ _).mono ?_; rintro e w9 ⟨rfl, hb9⟩; have HB9 := hid (HB1.out.trans (hb9.mono (by have := HB1.out.size; omega))); obtain ⟨k0, k1, k2, k3, o0, o1, o2, o3, o4, o5, o6, f0, f1, f2, f3, f4, f5, f6⟩ := HK.out.at HB9.out; clear hb9))
      refine bodyPost_ret (v := .agg #[.int .i64 0, .int .i64 0, .int .i64 0, .slice none 0 0, .int .i64 0, .int .i64 0, .int .i64 9]) (by simp [results, Try.results17, go_sem, o0, o1, o2, o3, o4, o5, o6]) rfl ⟨none, 0, rfl, RgOut.none ?_⟩
      exact below_set7 (HB0.out.trans (HB9.out.mono (by omega))) _ (by omega) _ _ _ _ _ _ _
  · have q1 : ((T : Int) == (H : Int) + (n : Int)) = false := by simp; omega
    have q2 : ((T : Int) == 1000000) = false := by simp; omega
    have HZ : Hid (claimR (n : Int) (H : Int) (T : Int) n Z = ⟨n, H, (T : Int) + 1, n, Z, T, 0, 0⟩) := by show claimR _ _ _ n Z = _; simp [claimR, h1, h2]
    have HCp := hid (fun w h => copy_any (n : Int) (H : Int) (T : Int) n Z HN.out hC1 hC16 a c w h)
    rw [h1] at HR
    rw [HZ.out]
    clear h1 h2
    go_enter Try.func17, Try.ntmps17
    go_wp2_with fail
    generalize (w.alloc (.cells #[.int .i64 n, .int .i64 H, .int .i64 T, .slice a n c] 25)).alloc (.cells #[.int .i64 0, .int .i64 0, .int .i64 0, .slice none 0 0, .int .i64 0, .int .i64 0, .int .i64 0] 32) = W at *
    go_wp2_with (first | (go_at_call 30; refine (HR.out _ HA.out).mono ?_; rintro e w1 ⟨rfl, hb1⟩; have HB1 := hid (hb1.mono (Nat.le_of_eq hWz.symm)); obtain ⟨k0, k1, k2, k3, o0, o1, o2, o3, o4, o5, o6, f0, f1, f2, f3, f4, f5, f6⟩ := HK.out.at HB1.out; clear hb1) | (go_at_call 50; refine (HCp.out _ (HA.out.below HB1.out (Nat.le_of_eq hWz))).mono ?_; rintro e w2 ⟨g, c', rfl, hg, hcp, hb2⟩; have HB2 := hid (HB1.out.trans (hb2.mono (by have := HB1.out.size; omega))); have HCP := hid hcp; have hcl := hcp.lt; have hz1 := HB1.out.size; have hz2 := hb2.size; have hq2 : w.heap.size < w2.heap.size := (by omega); have hq3 : w.heap.size + 1 < w2.heap.size := (by omega); have hq4 : ¬ w.heap.size = w2.heap.size := (by omega); have hq5 : ¬ w.heap.size + 1 = w2.heap.size := (by omega); obtain ⟨k0, k1, k2, k3, o0, o1, o2, o3, o4, o5, o6, f0, f1, f2, f3, f4, f5, f6⟩ := HK.out.at HB2.out; clear hb2 hcp))
    refine bodyPost_ret (v := .agg #[.int .i64 n, .int .i64 H, .int .i64 ((T : Int) + 1), .slice (some ⟨g, 0, none⟩) n c', .int .i64 T, .int .i64 0, .int .i64 0]) (by simp [results, Try.results17, go_sem, o0, o1, o2, o3, o4, o5, o6, hq3, hq5]) rfl ⟨some ⟨g, 0, none⟩, c', rfl, CpM.out ?_ (by omega) ?_⟩
    · exact (HCP.out.set7 (w.heap.size + 1) (by omega) _ _ _ _ _ _ _).on (below_one' _ _)
    · exact (below_set7 (HB0.out.trans (HB2.out.mono (by omega))) (w.heap.size + 1) (by omega) _ _ _ _ _ _ _).alloc (by simp; omega) _
theorem is_any (t lo hi : Int) (w : World) : Calls Try.prog 53 #[.int .i64 t, .int .i64 lo, .int .i64 hi] w fun e w' => e = .returned (.bool (decide (lo ≤ t) && decide (t ≤ hi))) ∧ w' = w := by
  by_cases h1 : lo ≤ t <;> by_cases h2 : t ≤ hi
  all_goals
    go_enter Try.func53, Try.ntmps53
    go_wp2
    go_ret
    exact ⟨ret_bool (by simp; omega), rfl⟩
theorem itemB_two (t : Int) : itemB t = (decide (1 ≤ t) && decide (t ≤ 1000000)) := by simp [itemB]
set_option maxRecDepth 20000 in
set_option maxHeartbeats 4000000 in
theorem specFill_any (cap hd tl : Int) (Z : List Int) (n : Nat) (hn : Z.length = n * 2) (a : Option Addr) (c : Nat) (hl : n ≤ 2000000) (pos : Int) (item : Int) (w : World) (hA : ArgI w a Z) :
    Calls Try.prog 19 #[rgV cap hd tl a n c, .int .i64 pos, .int .i64 item] w fun e w' => ∃ a' c', e = .returned (roV (fillR cap hd tl n Z pos item).cap (fillR cap hd tl n Z pos item).hd (fillR cap hd tl n Z pos item).tl a' (fillR cap hd tl n Z pos item).n c' (fillR cap hd tl n Z pos item).pos (fillR cap hd tl n Z pos item).item (fillR cap hd tl n Z pos item).code) ∧ RgOut w w' a' (fillR cap hd tl n Z pos item).n (fillR cap hd tl n Z pos item).Z := by
  have HV : Hid (∀ cap hd tl a n c, rgV cap hd tl a n c = .agg #[.int .i64 cap, .int .i64 hd, .int .i64 tl, .slice a n c]) := fun _ _ _ _ _ _ => rfl
  have HB0 := hid (((Below.refl w.heap.size w).alloc (Nat.le_refl _) (.cells #[.int .i64 cap, .int .i64 hd, .int .i64 tl, .slice a n c] 25)).alloc (by simp) (.cells #[.int .i64 0, .int .i64 0, .int .i64 0, .slice none 0 0, .int .i64 0, .int .i64 0, .int .i64 0] 32))
  have HK := hid (RBox2.new w cap hd tl a n c)
  have HA := hid (hA.on HB0.out)
  have HN := hid hn
  have HR := hid (fun w h => specRr_any cap hd tl Z n hn a c hl w h)
  have HIll := hid (fun code w => ill_any code w)
  rw [HV.out] at HR ⊢
  unfold roV
  clear hA hn
  have hWz := HK.out.sz
  have HIs2 := hid (fun t lo hi w => is_any t lo hi w)
  rcases Bool.eq_false_or_eq_true (ringB cap hd tl n Z) with h1 | h1
  rotate_left
  · have HZ : Hid (fillR cap hd tl n Z pos item = roIll 1) := by show fillR cap hd tl n Z pos item = _; simp [fillR, h1]
    rw [h1] at HR
    clear h1
    rw [HZ.out]
    go_enter Try.func19, Try.ntmps19
    go_wp2_with fail
    generalize (w.alloc (.cells #[.int .i64 cap, .int .i64 hd, .int .i64 tl, .slice a n c] 25)).alloc (.cells #[.int .i64 0, .int .i64 0, .int .i64 0, .slice none 0 0, .int .i64 0, .int .i64 0, .int .i64 0] 32) = W at *
    go_wp2_with (first | (go_at_call 30; refine (HR.out _ HA.out).mono ?_; rintro e w1 ⟨rfl, hb1⟩; have HB1 := hid (hb1.mono (Nat.le_of_eq hWz.symm)); obtain ⟨k0, k1, k2, k3, o0, o1, o2, o3, o4, o5, o6, f0, f1, f2, f3, f4, f5, f6⟩ := HK.out.at HB1.out; clear hb1) | (go_at_call 49; refine (HIll.out _ _).mono ?_; rintro e w9 ⟨rfl, hb9⟩; have HB9 := hid (HB1.out.trans (hb9.mono (by have := HB1.out.size; omega))); obtain ⟨k0, k1, k2, k3, o0, o1, o2, o3, o4, o5, o6, f0, f1, f2, f3, f4, f5, f6⟩ := HK.out.at HB9.out; clear hb9))
    refine bodyPost_ret (v := .agg #[.int .i64 0, .int .i64 0, .int .i64 0, .slice none 0 0, .int .i64 0, .int .i64 0, .int .i64 1]) (by simp [results, Try.results19, go_sem, o0, o1, o2, o3, o4, o5, o6]) rfl ⟨none, 0, rfl, RgOut.none ?_⟩
    exact below_set7 (HB0.out.trans (HB9.out.mono (by omega))) _ (by omega) _ _ _ _ _ _ _
  obtain ⟨n', H, T, rfl, rfl, rfl, hnn, -, hH, hT, hHT, hTC, hC1, hC16, -⟩ := ringB_parts h1
  subst hnn
  rcases Bool.eq_false_or_eq_true (itemB item) with hi | hi
  rotate_left
  · have HZ : Hid (fillR (n : Int) (H : Int) (T : Int) n Z pos item = roIll 1) := by show fillR _ _ _ n Z pos item = _; simp [fillR, h1, hi]
    rw [h1] at HR
    clear h1
    have hi' := (itemB_two item).symm.trans hi
    clear hi
    rw [HZ.out]
    go_enter Try.func19, Try.ntmps19
    go_wp2_with fail
    generalize (w.alloc (.cells #[.int .i64 n, .int .i64 H, .int .i64 T, .slice a n c] 25)).alloc (.cells #[.int .i64 0, .int .i64 0, .int .i64 0, .slice none 0 0, .int .i64 0, .int .i64 0, .int .i64 0] 32) = W at *
    go_wp2_with (first | (go_at_call 30; refine (HR.out _ HA.out).mono ?_; rintro e w1 ⟨rfl, hb1⟩; have HB1 := hid (hb1.mono (Nat.le_of_eq hWz.symm)); obtain ⟨k0, k1, k2, k3, o0, o1, o2, o3, o4, o5, o6, f0, f1, f2, f3, f4, f5, f6⟩ := HK.out.at HB1.out; clear hb1) | (go_at_call 53; refine (HIs2.out _ _ _ _).mono ?_; rintro e w' ⟨rfl, rfl⟩) | (go_at_call 49; refine (HIll.out _ _).mono ?_; rintro e w9 ⟨rfl, hb9⟩; have HB9 := hid (HB1.out.trans (hb9.mono (by have := HB1.out.size; omega))); obtain ⟨k0, k1, k2, k3, o0, o1, o2, o3, o4, o5, o6, f0, f1, f2, f3, f4, f5, f6⟩ := HK.out.at HB9.out; clear hb9))
    refine bodyPost_ret (v := .agg #[.int .i64 0, .int .i64 0, .int .i64 0, .slice none 0 0, .int .i64 0, .int .i64 0, .int .i64 1]) (by simp [results, Try.results19, go_sem, o0, o1, o2, o3, o4, o5, o6]) rfl ⟨none, 0, rfl, RgOut.none ?_⟩
    exact below_set7 (HB0.out.trans (HB9.out.mono (by omega))) _ (by omega) _ _ _ _ _ _ _
  by_cases hp : (H : Int) ≤ pos ∧ pos < (T : Int)
  rotate_left
  · have HZ : Hid (fillR (n : Int) (H : Int) (T : Int) n Z pos item = roIll 6) := by show fillR _ _ _ n Z pos item = _; simp only [fillR, h1, hi]; simp [hp]
    rw [h1] at HR
    have hi' := (itemB_two item).symm.trans hi
    have hp' : (decide ((H : Int) ≤ pos) && decide (pos ≤ (T : Int) - 1)) = false := by simp; omega
    clear h1 hi hp
    rw [HZ.out]
    go_enter Try.func19, Try.ntmps19
    go_wp2_with fail
    generalize (w.alloc (.cells #[.int .i64 n, .int .i64 H, .int .i64 T, .slice a n c] 25)).alloc (.cells #[.int .i64 0, .int .i64 0, .int .i64 0, .slice none 0 0, .int .i64 0, .int .i64 0, .int .i64 0] 32) = W at *
    go_wp2_with (first | (go_at_call 30; refine (HR.out _ HA.out).mono ?_; rintro e w1 ⟨rfl, hb1⟩; have HB1 := hid (hb1.mono (Nat.le_of_eq hWz.symm)); obtain ⟨k0, k1, k2, k3, o0, o1, o2, o3, o4, o5, o6, f0, f1, f2, f3, f4, f5, f6⟩ := HK.out.at HB1.out; clear hb1) | (go_at_call 53; refine (HIs2.out _ _ _ _).mono ?_; rintro e w' ⟨rfl, rfl⟩) | (go_at_call 49; refine (HIll.out _ _).mono ?_; rintro e w9 ⟨rfl, hb9⟩; have HB9 := hid (HB1.out.trans (hb9.mono (by have := HB1.out.size; omega))); obtain ⟨k0, k1, k2, k3, o0, o1, o2, o3, o4, o5, o6, f0, f1, f2, f3, f4, f5, f6⟩ := HK.out.at HB9.out; clear hb9))
    refine bodyPost_ret (v := .agg #[.int .i64 0, .int .i64 0, .int .i64 0, .slice none 0 0, .int .i64 0, .int .i64 0, .int .i64 6]) (by simp [results, Try.results19, go_sem, o0, o1, o2, o3, o4, o5, o6]) rfl ⟨none, 0, rfl, RgOut.none ?_⟩
    exact below_set7 (HB0.out.trans (HB9.out.mono (by omega))) _ (by omega) _ _ _ _ _ _ _
  obtain ⟨P, rfl⟩ : ∃ P : Nat, pos = P := ⟨pos.toNat, by omega⟩
  have hi' := (itemB_two item).symm.trans hi
  have hp1 : decide ((P : Int) ≤ (T : Int) - 1) = true := by simp; omega
  have hp2 : decide ((H : Int) ≤ (P : Int)) = true := by simp; omega
  have hP : P ≤ 1000016 := by omega
  have HCU := hid (fun w hA => specCup_any n P H T Z HN.out hC1 hC16 (by omega) a c w hA)
  unfold cuV at HCU
  rw [HV.out] at HCU
  have hlt : P % n < n := Nat.mod_lt _ hC1
  by_cases h0 : sqAt Z n P = (P : Int)
  rotate_left
  · have HZ : Hid (fillR (n : Int) (H : Int) (T : Int) n Z P item = roIll 7) := by show fillR _ _ _ n Z P item = _; simp only [fillR, h1, hi]; simp [hp, h0]
    rw [h1] at HR
    have q0 : (sqAt Z n P != (P : Int)) = true := by simpa using h0
    clear h1 hi h0
    generalize sqAt Z n P = sq at *
    generalize itAt Z n P = it at *
    rw [HZ.out]
    go_enter Try.func19, Try.ntmps19
    go_wp2_with fail
    generalize (w.alloc (.cells #[.int .i64 n, .int .i64 H, .int .i64 T, .slice a n c] 25)).alloc (.cells #[.int .i64 0, .int .i64 0, .int .i64 0, .slice none 0 0, .int .i64 0, .int .i64 0, .int .i64 0] 32) = W at *
    go_wp2_with (first | (go_at_call 30; refine (HR.out _ HA.out).mono ?_; rintro e w1 ⟨rfl, hb1⟩; have HB1 := hid (hb1.mono (Nat.le_of_eq hWz.symm)); obtain ⟨k0, k1, k2, k3, o0, o1, o2, o3, o4, o5, o6, f0, f1, f2, f3, f4, f5, f6⟩ := HK.out.at HB1.out; clear hb1) | (go_at_call 53; refine (HIs2.out _ _ _ _).mono ?_; rintro e w' ⟨rfl, rfl⟩) | (go_at_call 54; refine (HCU.out _ (HA.out.below HB1.out (Nat.le_of_eq hWz))).mono ?_; rintro e w2 ⟨rfl, hb2⟩; have HB2 := hid (HB1.out.trans (hb2.mono (by have := HB1.out.size; omega))); have hf2 := run_seq w2 sq it; obtain ⟨k0, k1, k2, k3, o0, o1, o2, o3, o4, o5, o6, f0, f1, f2, f3, f4, f5, f6⟩ := HK.out.at HB2.out; clear hb2) | (go_at_call 49; refine (HIll.out _ _).mono ?_; rintro e w9 ⟨rfl, hb9⟩; have HB9 := hid (HB2.out.trans (hb9.mono (by have := HB2.out.size; omega))); obtain ⟨k0, k1, k2, k3, o0, o1, o2, o3, o4, o5, o6, f0, f1, f2, f3, f4, f5, f6⟩ := HK.out.at HB9.out; clear hb9))
    refine bodyPost_ret (v := .agg #[.int .i64 0, .int .i64 0, .int .i64 0, .slice none 0 0, .int .i64 0, .int .i64 0, .int .i64 7]) (by simp [results, Try.results19, go_sem, o0, o1, o2, o3, o4, o5, o6]) rfl ⟨none, 0, rfl, RgOut.none ?_⟩
    exact below_set7 (HB0.out.trans (HB9.out.mono (by omega))) _ (by omega) _ _ _ _ _ _ _
  have HZ : Hid (fillR (n : Int) (H : Int) (T : Int) n Z P item = ⟨n, H, T, n, (Z.set (P % n * 2) ((P : Int) + 1)).set (P % n * 2 + 1) item, 0, 0, 0⟩) := by show fillR _ _ _ n Z P item = _; simp only [fillR, h1, hi]; simp [hp, h0]
  have HCp := hid (fun w h => copy_any (n : Int) (H : Int) (T : Int) n Z HN.out hC1 hC16 a c w h)
  rw [h1] at HR
  rw [HZ.out]
  have q0 : (sqAt Z n P != (P : Int)) = false := by simpa using h0
  clear h1 hi h0
  generalize sqAt Z n P = sq at *
  generalize itAt Z n P = it at *
  go_enter Try.func19, Try.ntmps19
  go_wp2_with fail
  generalize (w.alloc (.cells #[.int .i64 n, .int .i64 H, .int .i64 T, .slice a n c] 25)).alloc (.cells #[.int .i64 0, .int .i64 0, .int .i64 0, .slice none 0 0, .int .i64 0, .int .i64 0, .int .i64 0] 32) = W at *
  go_wp2_with (first | (go_at_call 30; refine (HR.out _ HA.out).mono ?_; rintro e w1 ⟨rfl, hb1⟩; have HB1 := hid (hb1.mono (Nat.le_of_eq hWz.symm)); obtain ⟨k0, k1, k2, k3, o0, o1, o2, o3, o4, o5, o6, f0, f1, f2, f3, f4, f5, f6⟩ := HK.out.at HB1.out; clear hb1) | (go_at_call 53; refine (HIs2.out _ _ _ _).mono ?_; rintro e w' ⟨rfl, rfl⟩) | (go_at_call 54; refine (HCU.out _ (HA.out.below HB1.out (Nat.le_of_eq hWz))).mono ?_; rintro e w2 ⟨rfl, hb2⟩; have HB2 := hid (HB1.out.trans (hb2.mono (by have := HB1.out.size; omega))); have hf2 := run_seq w2 sq it; obtain ⟨k0, k1, k2, k3, o0, o1, o2, o3, o4, o5, o6, f0, f1, f2, f3, f4, f5, f6⟩ := HK.out.at HB2.out; clear hb2) | (go_at_call 50; refine (HCp.out _ (HA.out.below HB2.out (Nat.le_of_eq hWz))).mono ?_; rintro e w3 ⟨g, c', rfl, hg, hcp, hb3⟩; have HB3 := hid (HB2.out.trans (hb3.mono (by have := HB2.out.size; omega))); have HCP := hid hcp; have hcl := hcp.lt; have hz1 := HB2.out.size; have hz2 := hb3.size; have hq2 : w.heap.size < w3.heap.size := (by omega); have hq3 : w.heap.size + 1 < w3.heap.size := (by omega); have hq4 : ¬ w.heap.size = w3.heap.size := (by omega); have hq5 : ¬ w.heap.size + 1 = w3.heap.size := (by omega); obtain ⟨k0, k1, k2, k3, o0, o1, o2, o3, o4, o5, o6, f0, f1, f2, f3, f4, f5, f6⟩ := HK.out.at HB3.out; clear hb3 hcp))
  have HBX := hid (RBox.new w3 n H T (some ⟨g, 0, none⟩) n c' 25)
  have HB4 := hid (HB3.out.alloc (by omega) (.cells #[.int .i64 n, .int .i64 H, .int .i64 T, .slice (some ⟨g, 0, none⟩) n c'] 25))
  have HC4 := hid (HCP.out.on (below_one' w3 (.cells #[.int .i64 n, .int .i64 H, .int .i64 T, .slice (some ⟨g, 0, none⟩) n c'] 25)))
  clear k0 k1 k2 k3 o0 o1 o2 o3 o4 o5 o6 f0 f1 f2 f3 f4 f5 f6
  generalize w3.alloc (.cells #[.int .i64 n, .int .i64 H, .int .i64 T, .slice (some ⟨g, 0, none⟩) n c'] 25) = w4 at *
  obtain ⟨k0, k1, k2, k3, o0, o1, o2, o3, o4, o5, o6, f0, f1, f2, f3, f4, f5, f6⟩ := HK.out.at HB4.out
  obtain ⟨hbl, x0, x1, x2, x3⟩ := HBX.out
  have hm : (P : Int).tmod (n : Int) = ((P % n : Nat) : Int) := by rw [Int.tmod_eq_emod_of_nonneg (by omega)]; rfl
  have hn0 : ¬ n = 0 := by omega
  have r1 : IntKind.i64.wrap ((P : Int) + 1) = (P : Int) + 1 := by rw [IntKind.wrap_i64]; omega
  generalize hPi : P % n = i at *
  have HPi := hid hPi
  clear hPi
  obtain ⟨y0, z0⟩ := HC4.out.cell (i * 2) (by omega)
  obtain ⟨y1, z1⟩ := HC4.out.cell (i * 2 + 1) (by omega)
  have hgw : ¬ w3.heap.size = g := by omega
  have hgw' : ¬ g = w3.heap.size := by omega
  have hgq : ¬ g = w.heap.size + 1 := by omega
  have hgq' : ¬ w.heap.size + 1 = g := by omega
  have hgr' : ¬ w.heap.size = g := by omega
  go_region
  all_goals
    go_wp2_with fail
    refine bodyPost_ret (v := .agg #[.int .i64 n, .int .i64 H, .int .i64 T, .slice (some ⟨g, 0, none⟩) n c', .int .i64 0, .int .i64 0, .int .i64 0]) (by simp [results, Try.results19, go_sem, o0, o1, o2, o3, o4, o5, o6, hgq, hgq']) rfl ⟨some ⟨g, 0, none⟩, c', rfl, CpM.out ?_ (by omega) ?_⟩
    · rw [HPi.out]
      exact (((HC4.out.set (i * 2) (by omega) _).set (i * 2 + 1) (by omega) _).set7 (w.heap.size + 1) (by omega) _ _ _ _ _ _ _).drew
    · exact below_drew (below_set7 (((HB0.out.trans (HB4.out.mono (by omega))).setCell (by show _ ≤ g; omega) _).setCell (by show _ ≤ g; omega) _) (w.heap.size + 1) (by omega) _ _ _ _ _ _ _)
end Go.Proofs.Ytfafeomegoikkaa
