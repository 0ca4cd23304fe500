/-
  The laws' own helpers over rings: szRing, toRing, eqRing, markRing, heldRing, and over what a call tells of a ring.
-/
import Derived.Test.YtfafeomegoikkaaRgB
namespace Go.Proofs.Ytfafeomegoikkaa
open Go.RowKit
set_option linter.unusedVariables false
set_option linter.unusedSimpArgs false
set_option maxRecDepth 20000 in
set_option maxHeartbeats 1000000 in
theorem szRing_any (cap hd tl : Int) (n : Nat) (a : Option Addr) (c : Nat) (hl : n ≤ maxLen) (left : Int) (h1 : 0 ≤ left) (h2 : left ≤ 1048576) (w : World) :
    Calls Try.prog 32 #[rgV cap hd tl a n c, .int .i64 left] w fun e w' => ∃ r : Int, e = .returned (.int .i64 r) ∧ -1 ≤ r ∧ r ≤ 1048576 ∧ (0 ≤ r → r + n ≤ left) ∧ Below w.heap.size w w' := by
  unfold rgV
  have HL := hid hl
  have HB := hid ((Below.refl w.heap.size w).alloc (Nat.le_refl _) (.cells #[.int .i64 cap, .int .i64 hd, .int .i64 tl, .slice a n c] 44))
  clear hl
  go_enter Try.func32, Try.ntmps32
  go_wp2_with (go_at_call 64; refine (szCupS_any n a c HL.out left h1 h2 _).mono ?_; rintro e w1 ⟨r, rfl, q1, q2, q3, rfl⟩; have HQ := hid q3; clear q3)
  · go_ret
    exact ⟨-1, rfl, by omega, by omega, by omega, HB.out⟩
  · go_ret
    exact ⟨r, rfl, by omega, by omega, HQ.out, HB.out⟩
set_option maxRecDepth 20000 in
set_option maxHeartbeats 1000000 in
theorem toRing_any (cap hd tl : Int) (Z : List Int) (n : Nat) (hn : Z.length = n * 2) (a : Option Addr) (c : Nat) (hl : n ≤ 1048576) (w : World) (hA : ArgI w a Z) :
    Calls Try.prog 33 #[rgV cap hd tl a n c] w fun e w' => ∃ b, e = .returned (rgV cap hd tl (some ⟨b, 0, none⟩) n n) ∧ w.heap.size ≤ b ∧ CupI w' b Z ∧ Below w.heap.size w w' := by
  unfold rgV
  have HA := hid hA
  have HC := hid (fun w h => toCupS_any Z n hn a c hl w h)
  clear hA hn
  go_enter Try.func33, Try.ntmps33
  go_wp2_with (go_at_call 65; refine (HC.out _ (HA.out.below ((((Below.refl w.heap.size w).alloc (Nat.le_refl _) _).alloc (by simp) _).alloc (by simp; omega) _) (Nat.le_refl _))).mono ?_; rintro e w1 ⟨rfl, hR, hb⟩; have HR := hid hR; have HB := hid hb; obtain ⟨hc, hf⟩ := bcell hb; have hz : w.heap.size + 3 ≤ w1.heap.size := (by have := hb.size; simp at this; omega); clear hb hR)
  refine bodyPost_ret (v := .agg #[.int .i64 cap, .int .i64 hd, .int .i64 tl, .slice (some ⟨w.heap.size + 3, 0, none⟩) n n]) (by simp [results, Try.results33, go_sem, hc, hf, hz]) rfl ⟨w.heap.size + 3, rfl, by omega, ?_, ?_⟩
  · have HR' : CupI w1 (w.heap.size + 3) Z := by simpa using HR.out
    exact World.rowIs.setOther (World.rowIs.setOther (World.rowIs.setOther (World.rowIs.setOther (World.rowIs.setOther HR' (by show _ ≠ _; simp) _) (by show _ ≠ _; simp) _) (by show _ ≠ _; simp) _) (by show _ ≠ _; simp) _) (by show _ ≠ _; simp) _
  · exact (((((((Below.refl w.heap.size w).alloc (Nat.le_refl _) _).alloc (by simp) _).alloc (by simp; omega) _).trans (HB.out.mono (by simp; omega))).setCell (by show _ ≤ _; simp; omega) _).setCell (by show _ ≤ _; simp) _ |>.setCell (by show _ ≤ _; simp) _ |>.setCell (by show _ ≤ _; simp) _ |>.setCell (by show _ ≤ _; simp) _)
set_option maxRecDepth 20000 in
set_option maxHeartbeats 1000000 in
theorem eqRing_any (cap hd tl : Int) (Z : List Int) (n : Nat) (hn : Z.length = n * 2) (a1 a2 : Option Addr) (c1 c2 : Nat) (hl : n ≤ 2000000) (w : World) (h1 : ArgI w a1 Z) (h2 : ArgI w a2 Z) :
    Calls Try.prog 34 #[rgV cap hd tl a1 n c1, rgV cap hd tl a2 n c2] w fun e w' => e = .returned (.bool true) ∧ Below w.heap.size w w' := by
  unfold rgV
  have HB0 := hid (((Below.refl w.heap.size w).alloc (Nat.le_refl _) (.cells #[.int .i64 cap, .int .i64 hd, .int .i64 tl, .slice a1 n c1] 25)).alloc (by simp) (.cells #[.int .i64 cap, .int .i64 hd, .int .i64 tl, .slice a2 n c2] 25))
  have H1 := hid (h1.on HB0.out)
  have H2 := hid (h2.on HB0.out)
  have HC := hid (fun w h1 h2 => eqCupS_any Z n hn a1 a2 c1 c2 hl w h1 h2)
  clear h1 h2 hn
  have e1 : (cap != cap) = false := by simp
  have e2 : (hd != hd) = false := by simp
  have e3 : (tl != tl) = false := by simp
  go_enter Try.func34, Try.ntmps34
  go_wp2_with (go_at_call 66; refine (HC.out _ H1.out H2.out).mono ?_; rintro e w1 ⟨rfl, hb⟩; have HB1 := hid (HB0.out.trans (hb.mono (by simp; omega))); clear hb)
  go_ret
  exact ⟨rfl, HB1.out⟩
set_option maxRecDepth 20000 in
set_option maxHeartbeats 1000000 in
theorem markRing_any (cap hd tl : Int) (n : Nat) (a : Option Addr) (c : Nat) (hn : n ≤ 2000000) (w : World) (h : RowC w a n) :
    Calls Try.prog 38 #[rgV cap hd tl a n c, .int .i64 1] w fun e w' => e = .returned (.int .i64 (1 + n * 2 : Nat)) ∧ ArgI w' a (markI 1 (n * 2)) ∧ Save w w' (OfT a) := by
  unfold rgV
  have HB0 := hid ((Below.refl w.heap.size w).alloc (Nat.le_refl _) (.cells #[.int .i64 cap, .int .i64 hd, .int .i64 tl, .slice a n c] 25))
  have H := hid (h.below HB0.out)
  clear h
  go_enter Try.func38, Try.ntmps38
  go_wp2_with (go_at_call 68; refine (markCupS_any 1 n a c hn (by omega) _ H.out).mono ?_; rintro e w1 ⟨rfl, hA, hs⟩; have HA := hid hA; have HS := hid ((Save.of_below HB0.out (OfT a) (fun j h1 h2 => absurd h1 (by omega))).trans hs); clear hA hs)
  go_ret
  exact ⟨rfl, HA.out, HS.out⟩
set_option maxRecDepth 20000 in
set_option maxHeartbeats 1000000 in
theorem heldRing_any (cap hd tl : Int) (n : Nat) (a : Option Addr) (c : Nat) (hn : n ≤ 2000000) (w : World) (h : ArgI w a (markI 1 (n * 2))) :
    Calls Try.prog 67 #[rgV cap hd tl a n c, .int .i64 1] w fun e w' => e = .returned (.int .i64 (1 + n * 2 : Nat)) ∧ Below w.heap.size w w' := by
  unfold rgV
  have HB0 := hid ((Below.refl w.heap.size w).alloc (Nat.le_refl _) (.cells #[.int .i64 cap, .int .i64 hd, .int .i64 tl, .slice a n c] 25))
  have H := hid (h.on HB0.out)
  clear h
  have hk : ¬ (((1 + n * 2 : Nat) : Int) < 0) := by omega
  go_enter Try.func67, Try.ntmps67
  go_wp2_with (go_at_call 82; refine (heldCupS_any 1 n a c hn (by omega) _ H.out).mono ?_; rintro e w1 ⟨rfl, hb⟩; have HB1 := hid (HB0.out.trans (hb.mono (by simp))); clear hb)
  go_ret
  exact ⟨rfl, HB1.out⟩
/-- What a call tells of a ring. -/
def roV (cap hd tl : Int) (a : Option Addr) (n c : Nat) (pos item code : Int) : Value := .agg #[.int .i64 cap, .int .i64 hd, .int .i64 tl, .slice a n c, .int .i64 pos, .int .i64 item, .int .i64 code]
structure OBox (W : World) (q : Nat) (cap hd tl : Int) (a : Option Addr) (n c : Nat) (pos item code : Int) : Prop where
  lt : q < W.heap.size
  k0 : W.cell? ⟨q, 0, none⟩ = some (.int .i64 cap)
  k1 : W.cell? ⟨q, 1, none⟩ = some (.int .i64 hd)
  k2 : W.cell? ⟨q, 2, none⟩ = some (.int .i64 tl)
  k3 : W.cell? ⟨q, 3, none⟩ = some (.slice a n c)
  k4 : W.cell? ⟨q, 4, none⟩ = some (.int .i64 pos)
  k5 : W.cell? ⟨q, 5, none⟩ = some (.int .i64 item)
  k6 : W.cell? ⟨q, 6, none⟩ = some (.int .i64 code)
theorem OBox.new (w : World) (cap hd tl : Int) (a : Option Addr) (n c : Nat) (pos item code : Int) (t : TypeId) : OBox (w.alloc (.cells #[.int .i64 cap, .int .i64 hd, .int .i64 tl, .slice a n c, .int .i64 pos, .int .i64 item, .int .i64 code] t)) w.heap.size cap hd tl a n c pos item code :=
  ⟨by simp, by simp [go_sem], by simp [go_sem], by simp [go_sem], by simp [go_sem], by simp [go_sem], by simp [go_sem], by simp [go_sem]⟩
theorem OBox.below {W W' : World} {q : Nat} {cap hd tl : Int} {a : Option Addr} {n c : Nat} {pos item code : Int} {B : Nat} (h : OBox W q cap hd tl a n c pos item code) (hb : Below B W W') (hq : q < B) : OBox W' q cap hd tl a n c pos item code :=
  ⟨Nat.lt_of_lt_of_le h.lt hb.size, (hb.cell (p := ⟨q, _, none⟩) hq).trans h.k0, (hb.cell (p := ⟨q, _, none⟩) hq).trans h.k1, (hb.cell (p := ⟨q, _, none⟩) hq).trans h.k2, (hb.cell (p := ⟨q, _, none⟩) hq).trans h.k3, (hb.cell (p := ⟨q, _, none⟩) hq).trans h.k4, (hb.cell (p := ⟨q, _, none⟩) hq).trans h.k5, (hb.cell (p := ⟨q, _, none⟩) hq).trans h.k6⟩
theorem OBox.on {W W' : World} {q : Nat} {cap hd tl : Int} {a : Option Addr} {n c : Nat} {pos item code : Int} (h : OBox W q cap hd tl a n c pos item code) (hb : Below W.heap.size W W') : OBox W' q cap hd tl a n c pos item code := h.below hb h.lt
theorem OBox.save {W W' : World} {q : Nat} {cap hd tl : Int} {a : Option Addr} {n c : Nat} {pos item code : Int} {S : Nat → Prop} (h : OBox W q cap hd tl a n c pos item code) (hs : Save W W' S) (h1 : ¬ S q) : OBox W' q cap hd tl a n c pos item code :=
  ⟨Nat.lt_of_lt_of_le h.lt hs.size, (hs.cell (p := ⟨q, _, none⟩) h.lt h1).trans h.k0, (hs.cell (p := ⟨q, _, none⟩) h.lt h1).trans h.k1, (hs.cell (p := ⟨q, _, none⟩) h.lt h1).trans h.k2, (hs.cell (p := ⟨q, _, none⟩) h.lt h1).trans h.k3, (hs.cell (p := ⟨q, _, none⟩) h.lt h1).trans h.k4, (hs.cell (p := ⟨q, _, none⟩) h.lt h1).trans h.k5, (hs.cell (p := ⟨q, _, none⟩) h.lt h1).trans h.k6⟩
set_option maxRecDepth 20000 in
set_option maxHeartbeats 1000000 in
theorem eqRingOut_any (cap hd tl : Int) (Z : List Int) (n : Nat) (hn : Z.length = n * 2) (a1 a2 : Option Addr) (c1 c2 : Nat) (hl : n ≤ 2000000) (pos item code : Int) (w : World) (h1 : ArgI w a1 Z) (h2 : ArgI w a2 Z) :
    Calls Try.prog 35 #[roV cap hd tl a1 n c1 pos item code, roV cap hd tl a2 n c2 pos item code] w fun e w' => e = .returned (.bool true) ∧ Below w.heap.size w w' := by
  have HV : Hid (∀ cap hd tl a n c, rgV cap hd tl a n c = .agg #[.int .i64 cap, .int .i64 hd, .int .i64 tl, .slice a n c]) := fun _ _ _ _ _ _ => rfl
  unfold roV
  have HB0 := hid (((Below.refl w.heap.size w).alloc (Nat.le_refl _) (.cells #[.int .i64 cap, .int .i64 hd, .int .i64 tl, .slice a1 n c1, .int .i64 pos, .int .i64 item, .int .i64 code] 32)).alloc (by simp) (.cells #[.int .i64 cap, .int .i64 hd, .int .i64 tl, .slice a2 n c2, .int .i64 pos, .int .i64 item, .int .i64 code] 32))
  have HO1 : Hid (OBox ((w.alloc (.cells #[.int .i64 cap, .int .i64 hd, .int .i64 tl, .slice a1 n c1, .int .i64 pos, .int .i64 item, .int .i64 code] 32)).alloc (.cells #[.int .i64 cap, .int .i64 hd, .int .i64 tl, .slice a2 n c2, .int .i64 pos, .int .i64 item, .int .i64 code] 32)) w.heap.size cap hd tl a1 n c1 pos item code) := (OBox.new w cap hd tl a1 n c1 pos item code 32).on (below_one' _ _)
  have HO2 : Hid (OBox ((w.alloc (.cells #[.int .i64 cap, .int .i64 hd, .int .i64 tl, .slice a1 n c1, .int .i64 pos, .int .i64 item, .int .i64 code] 32)).alloc (.cells #[.int .i64 cap, .int .i64 hd, .int .i64 tl, .slice a2 n c2, .int .i64 pos, .int .i64 item, .int .i64 code] 32)) (w.heap.size + 1) cap hd tl a2 n c2 pos item code) := by
    have e : w.heap.size + 1 = (w.alloc (.cells #[.int .i64 cap, .int .i64 hd, .int .i64 tl, .slice a1 n c1, .int .i64 pos, .int .i64 item, .int .i64 code] 32)).heap.size := by simp
    rw [e]; exact OBox.new _ _ _ _ _ _ _ _ _ _ _
  have H1 := hid (h1.on HB0.out)
  have H2 := hid (h2.on HB0.out)
  have HC := hid (fun w h1 h2 => eqRing_any cap hd tl Z n hn a1 a2 c1 c2 hl w h1 h2)
  rw [HV.out, HV.out] at HC
  have e1 : (pos != pos) = false := by simp
  have e2 : (item != item) = false := by simp
  have e3 : (code != code) = false := by simp
  clear h1 h2 hn
  go_enter Try.func35, Try.ntmps35
  go_wp2_with (go_at_call 34; refine (HC.out _ H1.out H2.out).mono ?_; rintro e w1 ⟨rfl, hb⟩; have HB1 := hid (HB0.out.trans (hb.mono HB0.out.size)); obtain ⟨_, k0, k1, k2, k3, k4, k5, k6⟩ := HO1.out.on hb; obtain ⟨_, m0, m1, m2, m3, m4, m5, m6⟩ := HO2.out.on hb; clear hb)
  go_ret
  exact ⟨rfl, HB1.out⟩
set_option maxRecDepth 20000 in
set_option maxHeartbeats 1000000 in
theorem markRingOut_any (cap hd tl : Int) (n : Nat) (a : Option Addr) (c : Nat) (pos item code : Int) (hn : n ≤ 2000000) (w : World) (h : RowC w a n) :
    Calls Try.prog 36 #[roV cap hd tl a n c pos item code, .int .i64 1] w fun e w' => e = .returned (.int .i64 (1 + n * 2 : Nat)) ∧ ArgI w' a (markI 1 (n * 2)) ∧ Save w w' (OfT a) := by
  have HV : Hid (∀ cap hd tl a n c, rgV cap hd tl a n c = .agg #[.int .i64 cap, .int .i64 hd, .int .i64 tl, .slice a n c]) := fun _ _ _ _ _ _ => rfl
  unfold roV
  have HB0 := hid ((Below.refl w.heap.size w).alloc (Nat.le_refl _) (.cells #[.int .i64 cap, .int .i64 hd, .int .i64 tl, .slice a n c, .int .i64 pos, .int .i64 item, .int .i64 code] 32))
  have H := hid (h.below HB0.out)
  have HC := hid (fun w h => markRing_any cap hd tl n a c hn w h)
  rw [HV.out] at HC
  clear h
  go_enter Try.func36, Try.ntmps36
  go_wp2_with (go_at_call 38; refine (HC.out _ H.out).mono ?_; rintro e w1 ⟨rfl, hA, hs⟩; have HA := hid hA; have HS := hid ((Save.of_below HB0.out (OfT a) (fun j h1 h2 => absurd h1 (by omega))).trans hs); clear hA hs)
  go_ret
  exact ⟨rfl, HA.out, HS.out⟩
set_option maxRecDepth 20000 in
set_option maxHeartbeats 1000000 in
theorem heldRingOut_any (cap hd tl : Int) (n : Nat) (a : Option Addr) (c : Nat) (pos item code : Int) (hn : n ≤ 2000000) (w : World) (h : ArgI w a (markI 1 (n * 2))) :
    Calls Try.prog 37 #[roV cap hd tl a n c pos item code, .int .i64 1] w fun e w' => e = .returned (.int .i64 (1 + n * 2 : Nat)) ∧ Below w.heap.size w w' := by
  have HV : Hid (∀ cap hd tl a n c, rgV cap hd tl a n c = .agg #[.int .i64 cap, .int .i64 hd, .int .i64 tl, .slice a n c]) := fun _ _ _ _ _ _ => rfl
  unfold roV
  have HB0 := hid ((Below.refl w.heap.size w).alloc (Nat.le_refl _) (.cells #[.int .i64 cap, .int .i64 hd, .int .i64 tl, .slice a n c, .int .i64 pos, .int .i64 item, .int .i64 code] 32))
  have H := hid (h.on HB0.out)
  have HC := hid (fun w h => heldRing_any cap hd tl n a c hn w h)
  rw [HV.out] at HC
  clear h
  have hk : ¬ (((1 + n * 2 : Nat) : Int) < 0) := by omega
  go_enter Try.func37, Try.ntmps37
  go_wp2_with (go_at_call 67; refine (HC.out _ H.out).mono ?_; rintro e w1 ⟨rfl, hb⟩; have HB1 := hid (HB0.out.trans (hb.mono (by simp))); clear hb)
  go_ret
  exact ⟨rfl, HB1.out⟩
end Go.Proofs.Ytfafeomegoikkaa
