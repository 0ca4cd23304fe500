/-
  RingFill, the program's, by its contract.
-/
import Derived.Test.YtfafeomegoikkaaRgV2F
import Derived.Test.YtfafeomegoikkaaRgT
import Derived.Test.YtfafeomegoikkaaRgS2
namespace Go.Proofs.Ytfafeomegoikkaa
open Go.RowKit
set_option linter.unusedVariables false
set_option linter.unusedSimpArgs false
theorem sv_grow {V W W' : World} {wb sb : Nat} (h1 : Below V.heap.size V W) (h2 : Save W W' (fun j => j = sb ∨ j = wb)) : Save V W' (fun j => j = sb ∨ j = wb ∨ V.heap.size ≤ j) :=
  (Save.of_below h1 (fun j => j = sb ∨ j = wb ∨ V.heap.size ≤ j) (fun j h _ => Or.inr (Or.inr h))).over (h2.mono (T := fun j => j = sb ∨ j = wb ∨ V.heap.size ≤ j) (fun j _ h => by rcases h with h | h; exact Or.inl h; exact Or.inr (Or.inl h))) (fun j _ h => h)
set_option maxRecDepth 20000 in
set_option maxHeartbeats 1000000 in
theorem fillT_item (wb sb : Nat) (H T : Int) (n : Nat) (Z : List Int) (pos : Int) (item : Int) (h : itemB item = false) (pb ib : Nat) (w : World) (hp0 : w.cell? ⟨pb, 0, none⟩ = some (.int .i64 pos)) (hi0 : w.cell? ⟨ib, 0, none⟩ = some (.int .i64 item)) (hpb : pb < w.heap.size) (hib : ib < w.heap.size) (hW : WAt w wb sb H T n Z) :
    Calls Try.prog 51 #[.pointer (some ⟨wb, 0, none⟩), .pointer (some ⟨pb, 0, none⟩), .pointer (some ⟨ib, 0, none⟩)] w fun e w' => e = faultE 1 ∧ Below w.heap.size w w' := by
  have HB0 := hid (below_one' w (.cells #[.int .i64 0, .int .i64 0, .int .i64 0, .slice none 0 0, .int .i64 0, .int .i64 0, .int .i64 0] 32))
  have HW := hid (hW.on HB0.out)
  have HC := hid (fun w hW => fill_item wb sb H T n Z pos item h w hW)
  have c0 := (HB0.out.cell (p := ⟨pb, 0, none⟩) hpb).trans hp0
  have c1 := (HB0.out.cell (p := ⟨ib, 0, none⟩) hib).trans hi0
  unfold faultE at HC ⊢
  clear hW hp0 hi0
  go_enter Try.func51, Try.ntmps51
  go_wp2_with (go_at_call 52; refine (HC.out _ HW.out).mono ?_; rintro e w1 ⟨rfl, hb1⟩; have HB1 := hid (HB0.out.trans (hb1.mono HB0.out.size)); clear hb1)
  exact ⟨rfl, rfl, HB1.out⟩
set_option maxRecDepth 20000 in
set_option maxHeartbeats 1000000 in
theorem fillT_none (wb sb : Nat) (H T : Int) (n : Nat) (Z : List Int) (pos : Int) (item : Int) (h : itemB item = true) (hp : pos < H ∨ T ≤ pos) (pb ib : Nat) (w : World) (hp0 : w.cell? ⟨pb, 0, none⟩ = some (.int .i64 pos)) (hi0 : w.cell? ⟨ib, 0, none⟩ = some (.int .i64 item)) (hpb : pb < w.heap.size) (hib : ib < w.heap.size) (hW : WAt w wb sb H T n Z) :
    Calls Try.prog 51 #[.pointer (some ⟨wb, 0, none⟩), .pointer (some ⟨pb, 0, none⟩), .pointer (some ⟨ib, 0, none⟩)] w fun e w' => e = faultE 6 ∧ Below w.heap.size w w' := by
  have HB0 := hid (below_one' w (.cells #[.int .i64 0, .int .i64 0, .int .i64 0, .slice none 0 0, .int .i64 0, .int .i64 0, .int .i64 0] 32))
  have HW := hid (hW.on HB0.out)
  have HC := hid (fun w hW => fill_none wb sb H T n Z pos item h hp w hW)
  have c0 := (HB0.out.cell (p := ⟨pb, 0, none⟩) hpb).trans hp0
  have c1 := (HB0.out.cell (p := ⟨ib, 0, none⟩) hib).trans hi0
  unfold faultE at HC ⊢
  clear hW hp0 hi0
  go_enter Try.func51, Try.ntmps51
  go_wp2_with (go_at_call 52; refine (HC.out _ HW.out).mono ?_; rintro e w1 ⟨rfl, hb1⟩; have HB1 := hid (HB0.out.trans (hb1.mono HB0.out.size)); clear hb1)
  exact ⟨rfl, rfl, HB1.out⟩
set_option maxRecDepth 20000 in
set_option maxHeartbeats 1000000 in
theorem fillT_there (wb sb : Nat) (H T : Int) (n P : Nat) (hn : 1 ≤ n) (hn2 : n ≤ 16) (hP : P ≤ 3000000) (Z : List Int) (item : Int) (h : itemB item = true) (h1 : H ≤ (P : Int)) (h2 : (P : Int) < T) (h0 : ¬ itAt Z n P = 0) (pb ib : Nat) (w : World) (hp0 : w.cell? ⟨pb, 0, none⟩ = some (.int .i64 P)) (hi0 : w.cell? ⟨ib, 0, none⟩ = some (.int .i64 item)) (hpb : pb < w.heap.size) (hib : ib < w.heap.size) (hW : WAt w wb sb H T n Z) :
    Calls Try.prog 51 #[.pointer (some ⟨wb, 0, none⟩), .pointer (some ⟨pb, 0, none⟩), .pointer (some ⟨ib, 0, none⟩)] w fun e w' => e = faultE 7 ∧ Below w.heap.size w w' := by
  have HB0 := hid (below_one' w (.cells #[.int .i64 0, .int .i64 0, .int .i64 0, .slice none 0 0, .int .i64 0, .int .i64 0, .int .i64 0] 32))
  have HW := hid (hW.on HB0.out)
  have HC := hid (fun w hW => fill_there wb sb H T n P hn hn2 hP Z item h h1 h2 h0 w hW)
  have c0 := (HB0.out.cell (p := ⟨pb, 0, none⟩) hpb).trans hp0
  have c1 := (HB0.out.cell (p := ⟨ib, 0, none⟩) hib).trans hi0
  unfold faultE at HC ⊢
  clear hW hp0 hi0
  go_enter Try.func51, Try.ntmps51
  go_wp2_with (go_at_call 52; refine (HC.out _ HW.out).mono ?_; rintro e w1 ⟨rfl, hb1⟩; have HB1 := hid (HB0.out.trans (hb1.mono HB0.out.size)); clear hb1)
  exact ⟨rfl, rfl, HB1.out⟩
set_option maxRecDepth 20000 in
set_option maxHeartbeats 1000000 in
theorem fillT_ok (wb sb : Nat) (H T : Int) (n P : Nat) (hn : 1 ≤ n) (hn2 : n ≤ 16) (hP : P ≤ 3000000) (Z : List Int) (item : Int) (h : itemB item = true) (h1 : H ≤ (P : Int)) (h2 : (P : Int) < T) (h0 : itAt Z n P = 0) (pb ib : Nat) (w : World) (hp0 : w.cell? ⟨pb, 0, none⟩ = some (.int .i64 P)) (hi0 : w.cell? ⟨ib, 0, none⟩ = some (.int .i64 item)) (hpb : pb < w.heap.size) (hib : ib < w.heap.size) (hW : WAt w wb sb H T n Z) :
    Calls Try.prog 51 #[.pointer (some ⟨wb, 0, none⟩), .pointer (some ⟨pb, 0, none⟩), .pointer (some ⟨ib, 0, none⟩)] w fun e w' => e = .returned (.agg #[.int .i64 0, .int .i64 0, .int .i64 0, .slice none 0 0, .int .i64 0, .int .i64 0, .int .i64 0]) ∧ WAt w' wb sb H T n ((Z.set (P % n * 2 + 1) item).set (P % n * 2) ((P : Int) + 1)) ∧ Save w w' (fun j => j = sb ∨ j = wb ∨ w.heap.size ≤ j) := by
  have HB0 := hid (below_one' w (.cells #[.int .i64 0, .int .i64 0, .int .i64 0, .slice none 0 0, .int .i64 0, .int .i64 0, .int .i64 0] 32))
  have HW := hid (hW.on HB0.out)
  have HC := hid (fun w hW => fill_ok wb sb H T n P hn hn2 hP Z item h h1 h2 h0 w hW)
  have c0 := (HB0.out.cell (p := ⟨pb, 0, none⟩) hpb).trans hp0
  have c1 := (HB0.out.cell (p := ⟨ib, 0, none⟩) hib).trans hi0
  have HO0 := hid (OBox.new w 0 0 0 none 0 0 0 0 0 32)
  have HF0 := hid (OFree.new w #[.int .i64 0, .int .i64 0, .int .i64 0, .slice none 0 0, .int .i64 0, .int .i64 0, .int .i64 0] 32)
  have hwl := hW.lt
  have hsl := hW.slt
  clear hW hp0 hi0
  go_enter Try.func51, Try.ntmps51
  go_wp2_with (go_at_call 52; refine (HC.out _ HW.out).mono ?_; rintro e w1 ⟨rfl, hW1, hs1⟩; have HW1 := hid hW1; have HS1 := hid (sv_grow (wb := wb) HB0.out (hs1.mono (T := fun j => j = sb ∨ j = wb) (fun j _ h => Or.inl h))); obtain ⟨hl1, o0, o1, o2, o3, o4, o5, o6⟩ := HO0.out.save hs1 (by show ¬ w.heap.size = sb; omega); have ff := fun i => (hs1.frozen (p := ⟨w.heap.size, i, none⟩) (by simp) (by show ¬ w.heap.size = sb; omega)).trans (HF0.out i); have f0 := ff 0; have f1 := ff 1; have f2 := ff 2; have f3 := ff 3; have f4 := ff 4; have f5 := ff 5; have f6 := ff 6; clear hW1 hs1 ff)
  refine bodyPost_ret (v := .agg #[.int .i64 0, .int .i64 0, .int .i64 0, .slice none 0 0, .int .i64 0, .int .i64 0, .int .i64 0]) (by simp [results, Try.results51, go_sem, o0, o1, o2, o3, o4, o5, o6]) rfl ⟨rfl, ?_, ?_⟩
  · exact HW1.out.save (sv7 w1 w.heap.size (.int .i64 0) (.int .i64 0) (.int .i64 0) (.slice none 0 0) (.int .i64 0) (.int .i64 0) (.int .i64 0)) (by omega) (by omega)
  · exact HS1.out.over (sv7 w1 w.heap.size _ _ _ _ _ _ _) (fun j _ h => by omega)
set_option maxRecDepth 20000 in
set_option maxHeartbeats 2000000 in
theorem turnedFill_any (cap hd tl : Int) (Z : List Int) (n : Nat) (hn : Z.length = n * 2) (a : Option Addr) (c : Nat) (hl : n ≤ 2000000) (pos : Int) (item : Int) (pb ib : Nat) (w : World) (hpb : pb < w.heap.size) (hib : ib < w.heap.size) (hp0 : w.cell? ⟨pb, 0, none⟩ = some (.int .i64 pos)) (hi0 : w.cell? ⟨ib, 0, none⟩ = some (.int .i64 item)) (hA : ArgI w a Z) :
    Calls Try.prog 46 #[.agg #[.int .i64 cap, .int .i64 hd, .int .i64 tl, .slice a n c], .func (.func 51) #[] #[.pointer (some ⟨pb, 0, none⟩), .pointer (some ⟨ib, 0, none⟩)]] w fun e w' => ∃ a' c', e = .returned (roV (fillR cap hd tl n Z pos item).cap (fillR cap hd tl n Z pos item).hd (fillR cap hd tl n Z pos item).tl a' (fillR cap hd tl n Z pos item).n c' (fillR cap hd tl n Z pos item).pos (fillR cap hd tl n Z pos item).item (fillR cap hd tl n Z pos item).code) ∧ RgOut w w' a' (fillR cap hd tl n Z pos item).n (fillR cap hd tl n Z pos item).Z := by
  rcases Bool.eq_false_or_eq_true (ringB cap hd tl n Z) with h1 | h1
  rotate_left
  · have HZ : fillR cap hd tl n Z pos item = roIll 1 := by simp [fillR, h1]
    rw [HZ]
    exact (turnedFill_no cap hd tl Z n hn a c hl h1 pb ib w hA).mono (by rintro e w' ⟨rfl, hb⟩; exact ⟨none, 0, rfl, RgOut.none hb⟩)
  obtain ⟨n', H, T, rfl, rfl, rfl, hnn, -, hH, hT, hHT, hTC, hC1, hC16, hpl⟩ := ringB_parts h1
  subst hnn
  rcases Bool.eq_false_or_eq_true (itemB item) with hi | hi
  rotate_left
  · have HZ : fillR (n : Int) (H : Int) (T : Int) n Z pos item = roIll 1 := by simp [fillR, h1, hi]
    rw [HZ]
    exact (turnedFill_fault H T n Z hn hC16 a c h1 1 pb ib w hA (fun V wb sb hV hW => fillT_item wb sb H T n Z pos item hi pb ib (V) ((hV.cell (p := ⟨pb, 0, none⟩) hpb).trans hp0) ((hV.cell (p := ⟨ib, 0, none⟩) hib).trans hi0) (Nat.lt_of_lt_of_le hpb hV.size) (Nat.lt_of_lt_of_le hib hV.size) hW)).mono (by rintro e w' ⟨rfl, hb⟩; exact ⟨none, 0, rfl, RgOut.none hb⟩)
  by_cases hp : (H : Int) ≤ pos ∧ pos < (T : Int)
  rotate_left
  · have HZ : fillR (n : Int) (H : Int) (T : Int) n Z pos item = roIll 6 := by simp only [fillR, h1, hi]; simp [hp]
    rw [HZ]
    exact (turnedFill_fault H T n Z hn hC16 a c h1 6 pb ib w hA (fun V wb sb hV hW => fillT_none wb sb H T n Z pos item hi (by omega) pb ib (V) ((hV.cell (p := ⟨pb, 0, none⟩) hpb).trans hp0) ((hV.cell (p := ⟨ib, 0, none⟩) hib).trans hi0) (Nat.lt_of_lt_of_le hpb hV.size) (Nat.lt_of_lt_of_le hib hV.size) hW)).mono (by rintro e w' ⟨rfl, hb⟩; exact ⟨none, 0, rfl, RgOut.none hb⟩)
  obtain ⟨P, rfl⟩ : ∃ P : Nat, pos = P := ⟨pos.toNat, by omega⟩
  have hcup := placesTo_at hpl (P - H) (by omega)
  rw [show H + (P - H) = P by omega] at hcup
  by_cases h0 : sqAt Z n P = (P : Int)
  rotate_left
  · have HZ : fillR (n : Int) (H : Int) (T : Int) n Z P item = roIll 7 := by simp only [fillR, h1, hi]; simp [hp, h0]
    have hit : ¬ itAt Z n P = 0 := by
      rcases cup_two hcup with ⟨h, _⟩ | ⟨_, h⟩
      · exact absurd h h0
      · simp [itemB] at h; omega
    rw [HZ]
    exact (turnedFill_fault H T n Z hn hC16 a c h1 7 pb ib w hA (fun V wb sb hV hW => fillT_there wb sb H T n P hC1 hC16 (by omega) Z item hi hp.1 hp.2 hit pb ib (V) ((hV.cell (p := ⟨pb, 0, none⟩) hpb).trans hp0) ((hV.cell (p := ⟨ib, 0, none⟩) hib).trans hi0) (Nat.lt_of_lt_of_le hpb hV.size) (Nat.lt_of_lt_of_le hib hV.size) hW)).mono (by rintro e w' ⟨rfl, hb⟩; exact ⟨none, 0, rfl, RgOut.none hb⟩)
  have HZ : fillR (n : Int) (H : Int) (T : Int) n Z P item = ⟨n, H, T, n, (Z.set (P % n * 2) ((P : Int) + 1)).set (P % n * 2 + 1) item, 0, 0, 0⟩ := by simp only [fillR, h1, hi]; simp [hp, h0]
  have hit : itAt Z n P = 0 := by
    rcases cup_two hcup with ⟨_, h⟩ | ⟨h, _⟩
    · exact h
    · omega
  rw [HZ]
  have := turnedFill_ok H T n Z hn hC1 hC16 a c h1 H T ((Z.set (P % n * 2 + 1) item).set (P % n * 2) ((P : Int) + 1)) 0 0 pb ib w hA (fun V wb sb hV hW => fillT_ok wb sb H T n P hC1 hC16 (by omega) Z item hi hp.1 hp.2 hit pb ib (V) ((hV.cell (p := ⟨pb, 0, none⟩) hpb).trans hp0) ((hV.cell (p := ⟨ib, 0, none⟩) hib).trans hi0) (Nat.lt_of_lt_of_le hpb hV.size) (Nat.lt_of_lt_of_le hib hV.size) hW)
  rw [List.set_comm _ _ (by omega)] at this
  exact this
set_option maxRecDepth 20000 in
set_option maxHeartbeats 2000000 in
theorem implFill_any (cap hd tl : Int) (Z : List Int) (n : Nat) (hn : Z.length = n * 2) (a : Option Addr) (c : Nat) (hl : n ≤ 2000000) (pos : Int) (item : Int) (w : World) (hA : ArgI w a Z) :
    Calls Try.prog 18 #[rgV cap hd tl a n c, .int .i64 pos, .int .i64 item] w fun e w' => ∃ a' c', e = .returned (roV (fillR cap hd tl n Z pos item).cap (fillR cap hd tl n Z pos item).hd (fillR cap hd tl n Z pos item).tl a' (fillR cap hd tl n Z pos item).n c' (fillR cap hd tl n Z pos item).pos (fillR cap hd tl n Z pos item).item (fillR cap hd tl n Z pos item).code) ∧ RgOut w w' a' (fillR cap hd tl n Z pos item).n (fillR cap hd tl n Z pos item).Z := by
  have hmf : ∀ (fn : Fn) (first cap : Array Value) (w : World), (Instr.makeFunc fn first cap).run Try.prog w = .ok (.func fn first cap) w := fun _ _ _ _ => rfl
  have HV : Hid (∀ cap hd tl a n c, rgV cap hd tl a n c = .agg #[.int .i64 cap, .int .i64 hd, .int .i64 tl, .slice a n c]) := fun _ _ _ _ _ _ => rfl
  rw [HV.out]
  have HT := hid (turnedFill_any cap hd tl Z n hn a c hl pos item)
  generalize fillR cap hd tl n Z pos item = r0 at *
  obtain ⟨rc, rh, rt, rn, Y, rp, ri, rk⟩ := r0
  simp only at HT ⊢
  unfold roV at HT ⊢
  have HB0 := hid (((((Below.refl w.heap.size w).alloc (Nat.le_refl _) (.cells #[.int .i64 cap, .int .i64 hd, .int .i64 tl, .slice a n c] 25)).alloc (by simp) (.cells #[.int .i64 pos] 2)).alloc (by simp; omega) (.cells #[.int .i64 item] 2)).alloc (by simp; omega) (.cells #[.int .i64 0, .int .i64 0, .int .i64 0, .slice none 0 0, .int .i64 0, .int .i64 0, .int .i64 0] 32))
  have e1 : (w.alloc (.cells #[.int .i64 cap, .int .i64 hd, .int .i64 tl, .slice a n c] 25)).heap.size = w.heap.size + 1 := by simp
  have e2 : ((w.alloc (.cells #[.int .i64 cap, .int .i64 hd, .int .i64 tl, .slice a n c] 25)).alloc (.cells #[.int .i64 pos] 2)).heap.size = w.heap.size + 1 + 1 := by simp
  have e3 : (((w.alloc (.cells #[.int .i64 cap, .int .i64 hd, .int .i64 tl, .slice a n c] 25)).alloc (.cells #[.int .i64 pos] 2)).alloc (.cells #[.int .i64 item] 2)).heap.size = w.heap.size + 1 + 1 + 1 := by simp
  have hWz : ((((w.alloc (.cells #[.int .i64 cap, .int .i64 hd, .int .i64 tl, .slice a n c] 25)).alloc (.cells #[.int .i64 pos] 2)).alloc (.cells #[.int .i64 item] 2)).alloc (.cells #[.int .i64 0, .int .i64 0, .int .i64 0, .slice none 0 0, .int .i64 0, .int .i64 0, .int .i64 0] 32)).heap.size = w.heap.size + 1 + 1 + 1 + 1 := by simp
  have HX : Hid (RBox ((((w.alloc (.cells #[.int .i64 cap, .int .i64 hd, .int .i64 tl, .slice a n c] 25)).alloc (.cells #[.int .i64 pos] 2)).alloc (.cells #[.int .i64 item] 2)).alloc (.cells #[.int .i64 0, .int .i64 0, .int .i64 0, .slice none 0 0, .int .i64 0, .int .i64 0, .int .i64 0] 32)) w.heap.size cap hd tl a n c) := (((RBox.new w cap hd tl a n c 25).on (below_one' _ _)).on (below_one' _ _)).on (below_one' _ _)
  have HOx : Hid (OBox ((((w.alloc (.cells #[.int .i64 cap, .int .i64 hd, .int .i64 tl, .slice a n c] 25)).alloc (.cells #[.int .i64 pos] 2)).alloc (.cells #[.int .i64 item] 2)).alloc (.cells #[.int .i64 0, .int .i64 0, .int .i64 0, .slice none 0 0, .int .i64 0, .int .i64 0, .int .i64 0] 32)) (w.heap.size + 1 + 1 + 1) 0 0 0 none 0 0 0 0 0) := by rw [← e3]; exact OBox.new _ _ _ _ _ _ _ _ _ _ _
  have HFx : Hid (OFree ((((w.alloc (.cells #[.int .i64 cap, .int .i64 hd, .int .i64 tl, .slice a n c] 25)).alloc (.cells #[.int .i64 pos] 2)).alloc (.cells #[.int .i64 item] 2)).alloc (.cells #[.int .i64 0, .int .i64 0, .int .i64 0, .slice none 0 0, .int .i64 0, .int .i64 0, .int .i64 0] 32)) (w.heap.size + 1 + 1 + 1)) := by rw [← e3]; exact OFree.new _ _ _
  have hp0 : ((((w.alloc (.cells #[.int .i64 cap, .int .i64 hd, .int .i64 tl, .slice a n c] 25)).alloc (.cells #[.int .i64 pos] 2)).alloc (.cells #[.int .i64 item] 2)).alloc (.cells #[.int .i64 0, .int .i64 0, .int .i64 0, .slice none 0 0, .int .i64 0, .int .i64 0, .int .i64 0] 32)).cell? ⟨w.heap.size + 1, 0, none⟩ = some (.int .i64 pos) := by simp [go_sem]
  have hi0 : ((((w.alloc (.cells #[.int .i64 cap, .int .i64 hd, .int .i64 tl, .slice a n c] 25)).alloc (.cells #[.int .i64 pos] 2)).alloc (.cells #[.int .i64 item] 2)).alloc (.cells #[.int .i64 0, .int .i64 0, .int .i64 0, .slice none 0 0, .int .i64 0, .int .i64 0, .int .i64 0] 32)).cell? ⟨w.heap.size + 1 + 1, 0, none⟩ = some (.int .i64 item) := by simp [go_sem]
  have HA := hid (hA.on HB0.out)
  clear hA
  go_enter Try.func18, Try.ntmps18
  obtain ⟨_, k0, k1, k2, k3⟩ := HX.out
  go_wp2_with (go_at_call 46; refine (HT.out (w.heap.size + 1) (w.heap.size + 1 + 1) _ (by rw [hWz]; omega) (by rw [hWz]; omega) hp0 hi0 HA.out).mono ?_; rintro e w1 ⟨a', c', rfl, hO⟩; have HO := hid hO; have hO' := hO.bel; obtain ⟨_, o0, o1, o2, o3, o4, o5, o6⟩ := HOx.out.on hO'; have ff := HFx.out.below hO' (by rw [hWz]; omega); have f0 := ff 0; have f1 := ff 1; have f2 := ff 2; have f3 := ff 3; have f4 := ff 4; have f5 := ff 5; have f6 := ff 6; clear hO hO' ff)
  refine bodyPost_ret (v := .agg #[.int .i64 rc, .int .i64 rh, .int .i64 rt, .slice a' rn c', .int .i64 rp, .int .i64 ri, .int .i64 rk]) (by simp [results, Try.results18, go_sem, o0, o1, o2, o3, o4, o5, o6]) rfl ⟨a', c', rfl, ?_⟩
  exact rgout_set7 HO.out HB0.out (w.heap.size + 1 + 1 + 1) (by omega) (by rw [hWz]; omega) _ _ _ _ _ _ _
end Go.Proofs.Ytfafeomegoikkaa
