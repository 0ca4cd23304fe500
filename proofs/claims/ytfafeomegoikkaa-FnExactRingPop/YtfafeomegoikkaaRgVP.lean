/-
  RingPop, the program's, by its contract.
-/
import Derived.Test.YtfafeomegoikkaaRgV2P
import Derived.Test.YtfafeomegoikkaaRgP
import Derived.Test.YtfafeomegoikkaaRgS2
namespace Go.Proofs.Ytfafeomegoikkaa
open Go.RowKit
set_option linter.unusedVariables false
set_option linter.unusedSimpArgs false
theorem sv_grow {V W W' : World} {wb sb : Nat} (h1 : Below V.heap.size V W) (h2 : Save W W' (fun j => j = sb ∨ j = wb)) : Save V W' (fun j => j = sb ∨ j = wb ∨ V.heap.size ≤ j) :=
  (Save.of_below h1 (fun j => j = sb ∨ j = wb ∨ V.heap.size ≤ j) (fun j h _ => Or.inr (Or.inr h))).over (h2.mono (T := fun j => j = sb ∨ j = wb ∨ V.heap.size ≤ j) (fun j _ h => by rcases h with h | h; exact Or.inl h; exact Or.inr (Or.inl h))) (fun j _ h => h)
set_option maxRecDepth 20000 in
set_option maxHeartbeats 1000000 in
theorem popT_none (wb sb : Nat) (H : Int) (n : Nat) (Z : List Int)  (w : World) (hW : WAt w wb sb H H n Z) :
    Calls Try.prog 55 #[.pointer (some ⟨wb, 0, none⟩)] w fun e w' => e = faultE 6 ∧ Below w.heap.size w w' := by
  have HB0 := hid (below_one' w (.cells #[.int .i64 0, .int .i64 0, .int .i64 0, .slice none 0 0, .int .i64 0, .int .i64 0, .int .i64 0] 32))
  have HW := hid (hW.on HB0.out)
  have HC := hid (fun w hW => pop_none wb sb H n Z w hW)
  unfold faultE at HC ⊢
  clear hW
  go_enter Try.func55, Try.ntmps55
  go_wp2_with (go_at_call 56; refine (HC.out _ HW.out).mono ?_; rintro e w1 ⟨rfl, hb1⟩; have HB1 := hid (HB0.out.trans (hb1.mono HB0.out.size)); clear hb1)
  exact ⟨rfl, rfl, HB1.out⟩
set_option maxRecDepth 20000 in
set_option maxHeartbeats 1000000 in
theorem popT_state (wb sb : Nat) (T : Int) (H n : Nat) (hn : 1 ≤ n) (hn2 : n ≤ 16) (hP : H ≤ 3000000) (Z : List Int) (h1 : ¬ (H : Int) = T) (h0 : ¬ sqAt Z n H = (H : Int) + 1) (w : World) (hW : WAt w wb sb H T n Z) :
    Calls Try.prog 55 #[.pointer (some ⟨wb, 0, none⟩)] w fun e w' => e = faultE 10 ∧ Below w.heap.size w w' := by
  have HB0 := hid (below_one' w (.cells #[.int .i64 0, .int .i64 0, .int .i64 0, .slice none 0 0, .int .i64 0, .int .i64 0, .int .i64 0] 32))
  have HW := hid (hW.on HB0.out)
  have HC := hid (fun w hW => pop_state wb sb T H n hn hn2 hP Z h1 h0 w hW)
  unfold faultE at HC ⊢
  clear hW
  go_enter Try.func55, Try.ntmps55
  go_wp2_with (go_at_call 56; refine (HC.out _ HW.out).mono ?_; rintro e w1 ⟨rfl, hb1⟩; have HB1 := hid (HB0.out.trans (hb1.mono HB0.out.size)); clear hb1)
  exact ⟨rfl, rfl, HB1.out⟩
set_option maxRecDepth 20000 in
set_option maxHeartbeats 1000000 in
theorem popT_ok (wb sb : Nat) (T : Int) (H n : Nat) (hn : 1 ≤ n) (hn2 : n ≤ 16) (hP : H ≤ 3000000) (Z : List Int) (h1 : ¬ (H : Int) = T) (h0 : sqAt Z n H = (H : Int) + 1) (w : World) (hW : WAt w wb sb H T n Z) :
    Calls Try.prog 55 #[.pointer (some ⟨wb, 0, none⟩)] w fun e w' => e = .returned (.agg #[.int .i64 0, .int .i64 0, .int .i64 0, .slice none 0 0, .int .i64 H, .int .i64 (itAt Z n H), .int .i64 0]) ∧ WAt w' wb sb (H + 1 : Nat) T n ((Z.set (H % n * 2) ((H : Int) + n)).set (H % n * 2 + 1) 0) ∧ Save w w' (fun j => j = sb ∨ j = wb ∨ w.heap.size ≤ j) := by
  have HB0 := hid (below_one' w (.cells #[.int .i64 0, .int .i64 0, .int .i64 0, .slice none 0 0, .int .i64 0, .int .i64 0, .int .i64 0] 32))
  have HO0 := hid (OBox.new w 0 0 0 none 0 0 0 0 0 32)
  have HF0 := hid (OFree.new w #[.int .i64 0, .int .i64 0, .int .i64 0, .slice none 0 0, .int .i64 0, .int .i64 0, .int .i64 0] 32)
  have HW := hid (hW.on HB0.out)
  have HC := hid (fun w hW => pop_ok wb sb T H n hn hn2 hP Z h1 h0 w hW)
  have hwl := hW.lt
  have hsl := hW.slt
  clear hW h0 h1
  generalize itAt Z n H = it at *
  go_enter Try.func55, Try.ntmps55
  go_wp2_with (go_at_call 56; refine (HC.out _ HW.out).mono ?_; rintro e w1 ⟨rfl, hW1, hs1⟩; have HW1 := hid hW1; have HS1 := hid (sv_grow HB0.out hs1); obtain ⟨hl1, o0, o1, o2, o3, o4, o5, o6⟩ := HO0.out.save hs1 (by show ¬ (w.heap.size = sb ∨ w.heap.size = wb); omega); have ff := fun i => (hs1.frozen (p := ⟨w.heap.size, i, none⟩) (by simp) (by show ¬ (w.heap.size = sb ∨ w.heap.size = wb); omega)).trans (HF0.out i); have f0 := ff 0; have f1 := ff 1; have f2 := ff 2; have f3 := ff 3; have f4 := ff 4; have f5 := ff 5; have f6 := ff 6; clear hW1 hs1 ff)
  refine bodyPost_ret (v := .agg #[.int .i64 0, .int .i64 0, .int .i64 0, .slice none 0 0, .int .i64 H, .int .i64 it, .int .i64 0]) (by simp [results, Try.results55, go_sem, o0, o1, o2, o3, o4, o5, o6]) rfl ⟨rfl, ?_, ?_⟩
  · have := HW1.out.save (sv7 w1 w.heap.size (.int .i64 0) (.int .i64 0) (.int .i64 0) (.slice none 0 0) (.int .i64 H) (.int .i64 it) (.int .i64 0)) (by omega) (by omega)
    push_cast
    exact this
  · exact HS1.out.over (sv7 w1 w.heap.size _ _ _ _ _ _ _) (fun j _ h => by omega)
set_option maxRecDepth 20000 in
set_option maxHeartbeats 2000000 in
theorem turnedPop_any (cap hd tl : Int) (Z : List Int) (n : Nat) (hn : Z.length = n * 2) (a : Option Addr) (c : Nat) (hl : n ≤ 2000000) (w : World) (hA : ArgI w a Z) :
    Calls Try.prog 46 #[.agg #[.int .i64 cap, .int .i64 hd, .int .i64 tl, .slice a n c], .func (.func 55) #[] #[]] w fun e w' => ∃ a' c', e = .returned (roV (popR cap hd tl n Z).cap (popR cap hd tl n Z).hd (popR cap hd tl n Z).tl a' (popR cap hd tl n Z).n c' (popR cap hd tl n Z).pos (popR cap hd tl n Z).item (popR cap hd tl n Z).code) ∧ RgOut w w' a' (popR cap hd tl n Z).n (popR cap hd tl n Z).Z := by
  rcases Bool.eq_false_or_eq_true (ringB cap hd tl n Z) with h1 | h1
  rotate_left
  · have HZ : popR cap hd tl n Z = roIll 1 := by simp [popR, h1]
    rw [HZ]
    exact (turnedPop_no cap hd tl Z n hn a c hl h1 w hA).mono (by rintro e w' ⟨rfl, hb⟩; exact ⟨none, 0, rfl, RgOut.none hb⟩)
  obtain ⟨n', H, T, rfl, rfl, rfl, hnn, -, hH, hT, hHT, hTC, hC1, hC16, hpl⟩ := ringB_parts h1
  subst hnn
  by_cases h2 : (H : Int) = (T : Int)
  · have HZ : popR (n : Int) (H : Int) (T : Int) n Z = roIll 6 := by simp only [popR, h1]; simp [h2]
    rw [HZ]
    obtain rfl : H = T := by omega
    exact (turnedPop_fault H H n Z hn hC16 a c h1 6 w hA (fun V wb sb hV hW => popT_none wb sb H n Z V hW)).mono (by rintro e w' ⟨rfl, hb⟩; exact ⟨none, 0, rfl, RgOut.none hb⟩)
  have hcup := placesTo_at hpl 0 (by omega)
  rw [Nat.add_zero] at hcup
  by_cases h0 : sqAt Z n H = (H : Int)
  · have HZ : popR (n : Int) (H : Int) (T : Int) n Z = roIll 10 := by simp only [popR, h1]; simp [h2, h0]
    rw [HZ]
    exact (turnedPop_fault H T n Z hn hC16 a c h1 10 w hA (fun V wb sb hV hW => popT_state wb sb T H n hC1 hC16 (by omega) Z h2 (by omega) V hW)).mono (by rintro e w' ⟨rfl, hb⟩; exact ⟨none, 0, rfl, RgOut.none hb⟩)
  have HZ : popR (n : Int) (H : Int) (T : Int) n Z = ⟨n, (H : Int) + 1, T, n, (Z.set (H % n * 2) ((H : Int) + n)).set (H % n * 2 + 1) 0, H, itAt Z n H, 0⟩ := by simp only [popR, h1]; simp [h2, h0]
  have hsq : sqAt Z n H = (H : Int) + 1 := by
    rcases cup_two hcup with ⟨h, _⟩ | ⟨h, _⟩
    · exact absurd h h0
    · exact h
  rw [HZ]
  have := turnedPop_ok H T n Z hn hC1 hC16 a c h1 (H + 1) T ((Z.set (H % n * 2) ((H : Int) + n)).set (H % n * 2 + 1) 0) H (itAt Z n H) w hA (fun V wb sb _ hW => popT_ok wb sb T H n hC1 hC16 (by omega) Z h2 hsq V hW)
  push_cast at this
  exact this
set_option maxRecDepth 20000 in
set_option maxHeartbeats 2000000 in
theorem implPop_any (cap hd tl : Int) (Z : List Int) (n : Nat) (hn : Z.length = n * 2) (a : Option Addr) (c : Nat) (hl : n ≤ 2000000) (w : World) (hA : ArgI w a Z) :
    Calls Try.prog 20 #[rgV cap hd tl a n c] w fun e w' => ∃ a' c', e = .returned (roV (popR cap hd tl n Z).cap (popR cap hd tl n Z).hd (popR cap hd tl n Z).tl a' (popR cap hd tl n Z).n c' (popR cap hd tl n Z).pos (popR cap hd tl n Z).item (popR cap hd tl n Z).code) ∧ RgOut w w' a' (popR cap hd tl n Z).n (popR cap hd tl n Z).Z := by
  have hmf : ∀ (fn : Fn) (first cap : Array Value) (w : World), (Instr.makeFunc fn first cap).run Try.prog w = .ok (.func fn first cap) w := fun _ _ _ _ => rfl
  have HV : Hid (∀ cap hd tl a n c, rgV cap hd tl a n c = .agg #[.int .i64 cap, .int .i64 hd, .int .i64 tl, .slice a n c]) := fun _ _ _ _ _ _ => rfl
  rw [HV.out]
  have HT := hid (turnedPop_any cap hd tl Z n hn a c hl)
  generalize popR cap hd tl n Z = r0 at *
  obtain ⟨rc, rh, rt, rn, Y, rp, ri, rk⟩ := r0
  simp only at HT ⊢
  unfold roV at HT ⊢
  have HB0 := hid (((Below.refl w.heap.size w).alloc (Nat.le_refl _) (.cells #[.int .i64 cap, .int .i64 hd, .int .i64 tl, .slice a n c] 25)).alloc (by simp) (.cells #[.int .i64 0, .int .i64 0, .int .i64 0, .slice none 0 0, .int .i64 0, .int .i64 0, .int .i64 0] 32))
  have HK := hid (RBox2.new w cap hd tl a n c)
  have hWz := HK.out.sz
  have HA := hid (hA.on HB0.out)
  clear hA
  go_enter Try.func20, Try.ntmps20
  go_wp2_with (go_at_call 46; refine (HT.out _ HA.out).mono ?_; rintro e w1 ⟨a', c', rfl, hO⟩; have HO := hid hO; obtain ⟨k0, k1, k2, k3, o0, o1, o2, o3, o4, o5, o6, f0, f1, f2, f3, f4, f5, f6⟩ := HK.out.at (hO.bel.mono (Nat.le_of_eq hWz.symm)); clear hO)
  refine bodyPost_ret (v := .agg #[.int .i64 rc, .int .i64 rh, .int .i64 rt, .slice a' rn c', .int .i64 rp, .int .i64 ri, .int .i64 rk]) (by simp [results, Try.results20, go_sem, o0, o1, o2, o3, o4, o5, o6]) rfl ⟨a', c', rfl, ?_⟩
  exact rgout_set7 HO.out HB0.out (w.heap.size + 1) (by omega) (by omega) _ _ _ _ _ _ _
end Go.Proofs.Ytfafeomegoikkaa
