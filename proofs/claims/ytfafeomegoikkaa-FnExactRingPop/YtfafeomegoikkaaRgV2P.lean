/-
  impl.turned over the turn of RingPop.
-/
import Derived.Test.YtfafeomegoikkaaRgV1
import Derived.Test.YtfafeomegoikkaaRgQ
import Derived.Test.YtfafeomegoikkaaRgS2
import Derived.Test.YtfafeomegoikkaaRgX
import Derived.Laws.EntriesVeiled
namespace Go.Proofs.Ytfafeomegoikkaa
open Go.RowKit
set_option linter.unusedVariables false
set_option linter.unusedSimpArgs false
set_option maxRecDepth 20000 in
set_option maxHeartbeats 2000000 in
theorem turnedPop_no (cap hd tl : Int) (Z : List Int) (n : Nat) (hn : Z.length = n * 2) (a : Option Addr) (c : Nat) (hl : n ≤ 2000000) (h1 : ringB cap hd tl n Z = false) (w : World) (hA : ArgI w a Z) :
    Calls Try.prog 46 #[.agg #[.int .i64 cap, .int .i64 hd, .int .i64 tl, .slice a n c], .func (.func 55) #[] #[]] w fun e w' => e = .returned (roV 0 0 0 none 0 0 0 0 1) ∧ Below w.heap.size w w' := by
  have hmf : ∀ (fn : Fn) (first cap : Array Value) (w : World), (Instr.makeFunc fn first cap).run Try.prog w = .ok (.func fn first cap) w := fun _ _ _ _ => rfl
  have HB0 := hid (((Below.refl w.heap.size w).alloc (Nat.le_refl _) (.cells #[.int .i64 cap, .int .i64 hd, .int .i64 tl, .slice a n c] 25)).alloc (by simp) (.cells #[.int .i64 0, .int .i64 0, .int .i64 0, .slice none 0 0, .int .i64 0, .int .i64 0, .int .i64 0] 32))
  have HK := hid (RBox2.new w cap hd tl a n c)
  have HA := hid (hA.on HB0.out)
  have HR := hid (fun w h => wheelOf_no cap hd tl Z n hn a c hl h1 w h)
  unfold faultE at HR
  unfold roV
  clear hA hn h1
  have hWz := HK.out.sz
  go_enter_defers Try.func46, Try.ntmps46
  go_wp2_with (go_at_call 70; refine (HR.out _ HA.out).mono ?_; rintro e w1 ⟨rfl, hb1⟩; have HB1 := hid (hb1.mono (Nat.le_of_eq hWz.symm)); clear hb1)
  have hob := HK.out.o.below HB1.out (by omega)
  have hof := HK.out.f.below HB1.out (by omega)
  have HE := hid (setIll_at w1 (w.heap.size + 1) 1 hob)
  have HB2 := hid (setIll_below (HB0.out.trans (HB1.out.mono (by omega))) (by have := HB1.out.size; omega) (w.heap.size + 1) (by omega) 1 (.cells #[.int .i64 1] 81))
  refine leaves_cons (f := 69) (args := #[.pointer (some ⟨w.heap.size + 1, 0, none⟩)]) (by simp) (by simp [go_sem]) ?_
  refine (catch_fault (w.heap.size + 1) 1 [] w1 hob hof).mono ?_
  rintro e u' w'' ⟨rfl, rfl, rfl⟩
  obtain ⟨_, o0, o1, o2, o3, o4, o5, o6⟩ := HE.out
  generalize (setIll w1 (w.heap.size + 1) 1).alloc (.cells #[.int .i64 1] 81) = V at *
  simp [Leaves, settle, results, Try.results46, go_sem, o0, o1, o2, o3, o4, o5, o6]
  exact HB2.out
set_option maxRecDepth 20000 in
set_option maxHeartbeats 2000000 in
theorem turnedPop_fault (H T n : Nat) (Z : List Int) (hn : Z.length = n * 2) (hn16 : n ≤ 16) (a : Option Addr) (c : Nat) (h1 : ringB n H T n Z = true) (k : Int) (w : World) (hA : ArgI w a Z)
    (hF : ∀ (V : World) (wb sb : Nat), Below w.heap.size w V → WAt V wb sb H T n Z → Calls Try.prog 55 #[.pointer (some ⟨wb, 0, none⟩)] V fun e w' => e = faultE k ∧ Below V.heap.size V w') :
    Calls Try.prog 46 #[.agg #[.int .i64 n, .int .i64 H, .int .i64 T, .slice a n c], .func (.func 55) #[] #[]] w fun e w' => e = .returned (roV 0 0 0 none 0 0 0 0 k) ∧ Below w.heap.size w w' := by
  have hmf : ∀ (fn : Fn) (first cap : Array Value) (w : World), (Instr.makeFunc fn first cap).run Try.prog w = .ok (.func fn first cap) w := fun _ _ _ _ => rfl
  have HB0 := hid (((Below.refl w.heap.size w).alloc (Nat.le_refl _) (.cells #[.int .i64 n, .int .i64 H, .int .i64 T, .slice a n c] 25)).alloc (by simp) (.cells #[.int .i64 0, .int .i64 0, .int .i64 0, .slice none 0 0, .int .i64 0, .int .i64 0, .int .i64 0] 32))
  have HK := hid (RBox2.new w n H T a n c)
  have HA := hid (hA.on HB0.out)
  have HR := hid (fun w h => wheelOf_ok H T n Z hn hn16 a c h1 w h)
  have HF := hid hF
  unfold faultE at HF
  unfold roV
  clear hA hn h1 hF
  have hWz := HK.out.sz
  go_enter_defers Try.func46, Try.ntmps46
  go_wp2_with (first | (go_at_call 70; refine (HR.out _ HA.out).mono ?_; rintro e w1 ⟨wb, sb, rfl, hwb, hsb, hW1, hb1⟩; have HB1 := hid (hb1.mono (Nat.le_of_eq hWz.symm)); have HW1 := hid hW1; clear hb1 hW1) | (go_at_call 55; refine (HF.out _ _ _ (HB0.out.trans (HB1.out.mono (by omega))) HW1.out).mono ?_; rintro e w2 ⟨rfl, hb2⟩; have HB2 := hid (HB1.out.trans (hb2.mono (by have := HB1.out.size; omega))); clear hb2))
  have hob := HK.out.o.below HB2.out (by omega)
  have hof := HK.out.f.below HB2.out (by omega)
  have HE := hid (setIll_at w2 (w.heap.size + 1) k hob)
  have HB3 := hid (setIll_below (HB0.out.trans (HB2.out.mono (by omega))) (by have := HB2.out.size; omega) (w.heap.size + 1) (by omega) k (.cells #[.int .i64 k] 81))
  refine leaves_cons (f := 69) (args := #[.pointer (some ⟨w.heap.size + 1, 0, none⟩)]) (by simp) (by simp [go_sem]) ?_
  refine (catch_fault (w.heap.size + 1) k [] w2 hob hof).mono ?_
  rintro e u' w'' ⟨rfl, rfl, rfl⟩
  obtain ⟨_, o0, o1, o2, o3, o4, o5, o6⟩ := HE.out
  generalize (setIll w2 (w.heap.size + 1) k).alloc (.cells #[.int .i64 k] 81) = V at *
  simp [Leaves, settle, results, Try.results46, go_sem, o0, o1, o2, o3, o4, o5, o6]
  exact HB3.out
set_option maxRecDepth 20000 in
set_option maxHeartbeats 4000000 in
theorem turnedPop_ok (H T n : Nat) (Z : List Int) (hn : Z.length = n * 2) (hn1 : 1 ≤ n) (hn16 : n ≤ 16) (a : Option Addr) (c : Nat) (h1 : ringB n H T n Z = true) (H' T' : Nat) (Z' : List Int) (pos item : Int) (w : World) (hA : ArgI w a Z)
    (hF : ∀ (V : World) (wb sb : Nat), Below w.heap.size w V → WAt V wb sb H T n Z → Calls Try.prog 55 #[.pointer (some ⟨wb, 0, none⟩)] V fun e w' => e = .returned (.agg #[.int .i64 0, .int .i64 0, .int .i64 0, .slice none 0 0, .int .i64 pos, .int .i64 item, .int .i64 0]) ∧ WAt w' wb sb H' T' n Z' ∧ Save V w' (fun j => j = sb ∨ j = wb ∨ V.heap.size ≤ j)) :
    Calls Try.prog 46 #[.agg #[.int .i64 n, .int .i64 H, .int .i64 T, .slice a n c], .func (.func 55) #[] #[]] w fun e w' => ∃ a' c', e = .returned (roV n H' T' a' n c' pos item 0) ∧ RgOut w w' a' n Z' := by
  have hmf : ∀ (fn : Fn) (first cap : Array Value) (w : World), (Instr.makeFunc fn first cap).run Try.prog w = .ok (.func fn first cap) w := fun _ _ _ _ => rfl
  have HB0 := hid (((Below.refl w.heap.size w).alloc (Nat.le_refl _) (.cells #[.int .i64 n, .int .i64 H, .int .i64 T, .slice a n c] 25)).alloc (by simp) (.cells #[.int .i64 0, .int .i64 0, .int .i64 0, .slice none 0 0, .int .i64 0, .int .i64 0, .int .i64 0] 32))
  have HK := hid (RBox2.new w n H T a n c)
  have HA := hid (hA.on HB0.out)
  have HR := hid (fun w h => wheelOf_ok H T n Z hn hn16 a c h1 w h)
  have HQ := hid (fun wb sb w h => wring_any wb sb H' T' n Z' hn1 hn16 w h)
  have HF := hid hF
  unfold roV
  clear hA hn h1 hF
  have hWz := HK.out.sz
  go_enter_defers Try.func46, Try.ntmps46
  go_wp2_with (first | (go_at_call 70; refine (HR.out _ HA.out).mono ?_; rintro e w1 ⟨wb, sb, rfl, hwb, hsb, hW1, hb1⟩; have HB1 := hid (hb1.mono (Nat.le_of_eq hWz.symm)); have HW1 := hid hW1; clear hb1 hW1) | (go_at_call 55; refine (HF.out _ _ _ (HB0.out.trans (HB1.out.mono (by omega))) HW1.out).mono ?_; rintro e w2 ⟨rfl, hW2, hs2⟩; have hz1 := HB1.out.size; have HB2 := hid (HB1.out.trans (hs2.below (B := w.heap.size + 1 + 1) (by omega) (fun j h => by omega))); have HW3 := hid (hW2.save (sv7 w2 (w.heap.size + 1) (.int .i64 0) (.int .i64 0) (.int .i64 0) (.slice none 0 0) (.int .i64 pos) (.int .i64 item) (.int .i64 0)) (by omega) (by omega)); have HY := hid hW2.len; obtain ⟨k0, k1, k2, k3, o0, o1, o2, o3, o4, o5, o6, f0, f1, f2, f3, f4, f5, f6⟩ := HK.out.at HB2.out; have hq2 : w.heap.size + 1 < w2.heap.size := (by have := HB2.out.size; omega); clear hW2 hs2))
  have HX := hid (set7_box w2 (w.heap.size + 1) 0 0 0 none 0 0 0 0 0 ⟨hq2, o0, o1, o2, o3, o4, o5, o6⟩ 0 0 0 none 0 0 pos item 0)
  have HFz : Hid (OFree (((((((w2.setCell ⟨w.heap.size + 1, 0, none⟩ (.int .i64 0)).setCell ⟨w.heap.size + 1, 1, none⟩ (.int .i64 0)).setCell ⟨w.heap.size + 1, 2, none⟩ (.int .i64 0)).setCell ⟨w.heap.size + 1, 3, none⟩ (.slice none 0 0)).setCell ⟨w.heap.size + 1, 4, none⟩ (.int .i64 pos)).setCell ⟨w.heap.size + 1, 5, none⟩ (.int .i64 item)).setCell ⟨w.heap.size + 1, 6, none⟩ (.int .i64 0)) (w.heap.size + 1)) := OFree.save (HK.out.f.below HB2.out (by omega)) (S := fun _ => False) (fun p => by simp)
  have HB3 := hid (below_set7 (HB0.out.trans (HB2.out.mono (by omega))) (w.heap.size + 1) (by omega) (.int .i64 0) (.int .i64 0) (.int .i64 0) (.slice none 0 0) (.int .i64 pos) (.int .i64 item) (.int .i64 0))
  have hz3 : w.heap.size + 1 < (((((((w2.setCell ⟨w.heap.size + 1, 0, none⟩ (.int .i64 0)).setCell ⟨w.heap.size + 1, 1, none⟩ (.int .i64 0)).setCell ⟨w.heap.size + 1, 2, none⟩ (.int .i64 0)).setCell ⟨w.heap.size + 1, 3, none⟩ (.slice none 0 0)).setCell ⟨w.heap.size + 1, 4, none⟩ (.int .i64 pos)).setCell ⟨w.heap.size + 1, 5, none⟩ (.int .i64 item)).setCell ⟨w.heap.size + 1, 6, none⟩ (.int .i64 0)).heap.size := HX.out.lt
  clear k0 k1 k2 k3 o0 o1 o2 o3 o4 o5 o6 f0 f1 f2 f3 f4 f5 f6
  generalize (((((((w2.setCell ⟨w.heap.size + 1, 0, none⟩ (.int .i64 0)).setCell ⟨w.heap.size + 1, 1, none⟩ (.int .i64 0)).setCell ⟨w.heap.size + 1, 2, none⟩ (.int .i64 0)).setCell ⟨w.heap.size + 1, 3, none⟩ (.slice none 0 0)).setCell ⟨w.heap.size + 1, 4, none⟩ (.int .i64 pos)).setCell ⟨w.heap.size + 1, 5, none⟩ (.int .i64 item)).setCell ⟨w.heap.size + 1, 6, none⟩ (.int .i64 0)) = w3 at *
  refine (HQ.out wb sb w3 HW3.out).mono ?_
  rintro e w4 ⟨cb, rfl, hcb, hcup, hb4⟩
  have hX4 := HX.out.on hb4
  have hF4 := HFz.out.below hb4 hz3
  obtain ⟨hl4, o0, o1, o2, o3, o4, o5, o6⟩ := hX4
  have f0 := hF4 0
  have f1 := hF4 1
  have f2 := hF4 2
  have f3 := hF4 3
  have f4 := hF4 4
  have f5 := hF4 5
  have f6 := hF4 6
  have HB4 := hid (HB3.out.trans (hb4.mono (by omega)))
  have HC4 := hid (hcup.cp HY.out)
  have hne : ¬ cb = w.heap.size + 1 := by omega
  have hne' : ¬ w.heap.size + 1 = cb := by omega
  clear hb4 hcup hF4
  go_wp2_with fail
  have HX5 : Hid (OBox ((((w4.setCell ⟨w.heap.size + 1, 0, none⟩ (.int .i64 n)).setCell ⟨w.heap.size + 1, 1, none⟩ (.int .i64 H')).setCell ⟨w.heap.size + 1, 2, none⟩ (.int .i64 T')).setCell ⟨w.heap.size + 1, 3, none⟩ (.slice (some ⟨cb, 0, none⟩) n n)) (w.heap.size + 1) n H' T' (some ⟨cb, 0, none⟩) n n pos item 0) := by
    refine ⟨by simpa using hl4, ?_, ?_, ?_, ?_, ?_, ?_, ?_⟩ <;> simp [go_sem, o0, o1, o2, o3, o4, o5, o6]
  have HC5 := hid ((((HC4.out.other (a := ⟨w.heap.size + 1, 0, none⟩) hne (.int .i64 n)).other (a := ⟨w.heap.size + 1, 1, none⟩) hne (.int .i64 H')).other (a := ⟨w.heap.size + 1, 2, none⟩) hne (.int .i64 T')).other (a := ⟨w.heap.size + 1, 3, none⟩) hne (.slice (some ⟨cb, 0, none⟩) n n))
  have HB5 := hid ((((HB4.out.setCell (p := ⟨w.heap.size + 1, 0, none⟩) (by show _ ≤ w.heap.size + 1; omega) (.int .i64 n)).setCell (p := ⟨w.heap.size + 1, 1, none⟩) (by show _ ≤ w.heap.size + 1; omega) (.int .i64 H')).setCell (p := ⟨w.heap.size + 1, 2, none⟩) (by show _ ≤ w.heap.size + 1; omega) (.int .i64 T')).setCell (p := ⟨w.heap.size + 1, 3, none⟩) (by show _ ≤ w.heap.size + 1; omega) (.slice (some ⟨cb, 0, none⟩) n n))
  clear o0 o1 o2 o3 o4 o5 o6 f0 f1 f2 f3 f4 f5 f6
  generalize (((w4.setCell ⟨w.heap.size + 1, 0, none⟩ (.int .i64 n)).setCell ⟨w.heap.size + 1, 1, none⟩ (.int .i64 H')).setCell ⟨w.heap.size + 1, 2, none⟩ (.int .i64 T')).setCell ⟨w.heap.size + 1, 3, none⟩ (.slice (some ⟨cb, 0, none⟩) n n) = W5 at *
  have HX6 := hid (set7_box W5 (w.heap.size + 1) n H' T' (some ⟨cb, 0, none⟩) n n pos item 0 HX5.out n H' T' (some ⟨cb, 0, none⟩) n n pos item 0)
  have HC6 := hid (HC5.out.set7 (w.heap.size + 1) hne (.int .i64 n) (.int .i64 H') (.int .i64 T') (.slice (some ⟨cb, 0, none⟩) n n) (.int .i64 pos) (.int .i64 item) (.int .i64 0))
  have HB6 := hid (below_set7 HB5.out (w.heap.size + 1) (by omega) (.int .i64 n) (.int .i64 H') (.int .i64 T') (.slice (some ⟨cb, 0, none⟩) n n) (.int .i64 pos) (.int .i64 item) (.int .i64 0))
  generalize (((((((W5.setCell ⟨w.heap.size + 1, 0, none⟩ (.int .i64 n)).setCell ⟨w.heap.size + 1, 1, none⟩ (.int .i64 H')).setCell ⟨w.heap.size + 1, 2, none⟩ (.int .i64 T')).setCell ⟨w.heap.size + 1, 3, none⟩ (.slice (some ⟨cb, 0, none⟩) n n)).setCell ⟨w.heap.size + 1, 4, none⟩ (.int .i64 pos)).setCell ⟨w.heap.size + 1, 5, none⟩ (.int .i64 item)).setCell ⟨w.heap.size + 1, 6, none⟩ (.int .i64 0)) = X at *
  refine leaves_cons (f := 69) (args := #[.pointer (some ⟨w.heap.size + 1, 0, none⟩)]) (by simp) (by simp [go_sem]) ?_
  refine (catch_idle (w.heap.size + 1) X).mono ?_
  rintro e u' w'' ⟨rfl, rfl, rfl⟩
  obtain ⟨_, o0, o1, o2, o3, o4, o5, o6⟩ := HX6.out.on (below_one' X (.cells #[.int .i64 0] 81))
  have HC7 := hid (HC6.out.on (below_one' X (.cells #[.int .i64 0] 81)))
  have HB7 := hid (HB6.out.alloc (by have := HB6.out.size; have := HX6.out.lt; omega) (.cells #[.int .i64 0] 81))
  generalize X.alloc (.cells #[.int .i64 0] 81) = V at *
  simp [Leaves, settle, results, Try.results46, go_sem, o0, o1, o2, o3, o4, o5, o6]
  exact HC7.out.out (by omega) HB7.out
end Go.Proofs.Ytfafeomegoikkaa
