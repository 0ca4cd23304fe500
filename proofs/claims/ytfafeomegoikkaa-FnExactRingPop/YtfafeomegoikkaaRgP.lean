/-
  A ring at work: a place taken out, by its contract.
-/
import Derived.Test.YtfafeomegoikkaaRgU
import Derived.Deep.RegionHeld3
import Derived.Deep.QuietTactic
namespace Go.Proofs.Ytfafeomegoikkaa
open Go.RowKit
set_option linter.unusedVariables false
set_option linter.unusedSimpArgs false
theorem WAt.drewN {w : World} {wb sb : Nat} {H T : Int} {n : Nat} {Z : List Int} (h : WAt w wb sb H T n Z) (m : Nat) : WAt (w.drewN m) wb sb H T n Z := h.on (below_drewN (Below.refl _ _) _)
theorem ld_any (wb sb : Nat) (H T : Int) (n : Nat) (Z : List Int) (o : Nat) (x : Int) (h1 : (o = 0 ∧ x = H) ∨ (o = 1 ∧ x = T)) (w : World) (h : WAt w wb sb H T n Z) :
    Calls Try.prog 72 #[.pointer (some ⟨wb, o, none⟩)] w fun e w' => e = .returned (.int .i64 x) ∧ w' = w := by
  rcases h1 with ⟨rfl, rfl⟩ | ⟨rfl, rfl⟩
  · exact ld_head w h
  · exact ld_tail w h
set_option maxRecDepth 20000 in
set_option maxHeartbeats 2000000 in
theorem pop_none (wb sb : Nat) (H : Int) (n : Nat) (Z : List Int) (w : World) (hW : WAt w wb sb H H n Z) :
    Calls Try.prog 56 #[.pointer (some ⟨wb, 0, none⟩)] w fun e w' => e = faultE 6 ∧ Below w.heap.size w w' := by
  have HW := hid hW
  have HL := hid (fun o x w h1 h => ld_any wb sb H H n Z o x h1 w h)
  clear hW
  have q1 : (H == H) = true := by simp
  go_enter Try.func56, Try.ntmps56
  go_wp2_with (go_at_call 72; refine (HL.out _ _ _ (by first | exact Or.inl ⟨rfl, rfl⟩ | exact Or.inr ⟨rfl, rfl⟩) HW.out).mono ?_; rintro e w1 ⟨rfl, rfl⟩)
  exact ⟨rfl, rfl, Below.refl _ _⟩
set_option maxRecDepth 20000 in
set_option maxHeartbeats 2000000 in
theorem pop_state (wb sb : Nat) (T : Int) (H n : Nat) (hn : 1 ≤ n) (hn2 : n ≤ 16) (hP : H ≤ 3000000) (Z : List Int) (h1 : ¬ (H : Int) = T) (h0 : ¬ sqAt Z n H = (H : Int) + 1) (w : World) (hW : WAt w wb sb H T n Z) :
    Calls Try.prog 56 #[.pointer (some ⟨wb, 0, none⟩)] w fun e w' => e = faultE 10 ∧ Below w.heap.size w w' := by
  have HW := hid hW
  have HL := hid (fun o x w h1 h => ld_any wb sb H T n Z o x h1 w h)
  have HS := hid (fun w h => wslot_any wb sb H T n H hn hn2 hP Z w h)
  have HZ := hid (fun w h => wsize_any wb sb H T n Z w h)
  have hlt : H % n < n := Nat.mod_lt _ hn
  unfold sqAt at h0
  have HC := hid (fun x w h => cas_miss (wb := wb) (sb := sb) (H := (H : Int)) (T := T) (n := n) (Z := Z) (H % n * 2) (by omega) ((H : Int) + 1) x h0 w h)
  have q1 : ((H : Int) == T) = false := by simpa using h1
  have r1 : IntKind.i64.wrap ((H : Int) + 1) = (H : Int) + 1 := by rw [IntKind.wrap_i64]; omega
  have r2 : IntKind.i64.wrap ((H : Int) + (n : Int)) = (H : Int) + (n : Int) := by rw [IntKind.wrap_i64]; omega
  have r3 : wrap64 ((H : Int) + 1) = (H : Int) + 1 := by unfold wrap64; omega
  have r4 : wrap64 ((H : Int) + (n : Int)) = (H : Int) + (n : Int) := by unfold wrap64; omega
  generalize H % n = i at *
  clear hW h0 h1
  go_enter Try.func56, Try.ntmps56
  go_wp2_with (first | (go_at_call 72; refine (HL.out _ _ _ (by first | exact Or.inl ⟨rfl, rfl⟩ | exact Or.inr ⟨rfl, rfl⟩) HW.out).mono ?_; rintro e w1 ⟨rfl, rfl⟩) | (go_at_call 76; refine (HS.out _ HW.out).mono ?_; rintro e w2 ⟨rfl, hb2⟩; have HB2 := hid hb2; have HW2 := hid (HW.out.on hb2); clear hb2))
  go_quiet (first | (go_at_call 73; exact Calls.quiet_of_same (HZ.out _ (HW2.out.drewN _))) | (go_at_call 74; exact Calls.quiet_of_same (HC.out _ _ (HW2.out.drewN _))))
  go_wp2_with fail
  exact ⟨rfl, rfl, below_drewN HB2.out _⟩
set_option maxRecDepth 20000 in
set_option maxHeartbeats 2000000 in
theorem pop_ok (wb sb : Nat) (T : Int) (H n : Nat) (hn : 1 ≤ n) (hn2 : n ≤ 16) (hP : H ≤ 3000000) (Z : List Int) (h1 : ¬ (H : Int) = T) (h0 : sqAt Z n H = (H : Int) + 1) (w : World) (hW : WAt w wb sb H T n Z) :
    Calls Try.prog 56 #[.pointer (some ⟨wb, 0, none⟩)] w fun e w' => e = .returned (.tuple #[.int .i64 H, .int .i64 (itAt Z n H)]) ∧ WAt w' wb sb ((H : Int) + 1) T n ((Z.set (H % n * 2) ((H : Int) + n)).set (H % n * 2 + 1) 0) ∧ Save w w' (fun j => j = sb ∨ j = wb) := by
  have HW := hid hW
  have HL := hid (fun o x w h1 h => ld_any wb sb H T n Z o x h1 w h)
  have HS := hid (fun w h => wslot_any wb sb H T n H hn hn2 hP Z w h)
  have HZ := hid (fun w h => wsize_any wb sb H T n Z w h)
  have hlt : H % n < n := Nat.mod_lt _ hn
  have hzl := hW.len
  unfold sqAt at h0
  unfold itAt
  have HC := hid (fun x w h => cas_hit (wb := wb) (sb := sb) (H := (H : Int)) (T := T) (n := n) (Z := Z) (H % n * 2) (by omega) ((H : Int) + 1) x h0 w h)
  have HE : Hid (zAt (Z.set (H % n * 2) ((H : Int) + n)) (H % n * 2 + 1) = zAt Z (H % n * 2 + 1)) := by
    show _ = _
    rw [zAt_set _ _ _ (by omega), if_neg (by omega)]
  have HSw := hid (fun Z w h => swap_slot (wb := wb) (sb := sb) (H := (H : Int)) (T := T) (n := n) (Z := Z) (H % n * 2 + 1) (by omega) 0 w h)
  have HSt := hid (fun x Z w h => st_head (wb := wb) (sb := sb) (H := (H : Int)) (T := T) (n := n) (Z := Z) x w h)
  have q1 : ((H : Int) == T) = false := by simpa using h1
  have r1 : IntKind.i64.wrap ((H : Int) + 1) = (H : Int) + 1 := by rw [IntKind.wrap_i64]; omega
  have r2 : IntKind.i64.wrap ((H : Int) + (n : Int)) = (H : Int) + (n : Int) := by rw [IntKind.wrap_i64]; omega
  have r3 : wrap64 ((H : Int) + 1) = (H : Int) + 1 := by unfold wrap64; omega
  have r4 : wrap64 ((H : Int) + (n : Int)) = (H : Int) + (n : Int) := by unfold wrap64; omega
  generalize H % n = i at *
  clear hW h0 h1 hzl
  go_enter Try.func56, Try.ntmps56
  go_wp2_with (first | (go_at_call 72; refine (HL.out _ _ _ (by first | exact Or.inl ⟨rfl, rfl⟩ | exact Or.inr ⟨rfl, rfl⟩) HW.out).mono ?_; rintro e w1 ⟨rfl, rfl⟩) | (go_at_call 76; refine (HS.out _ HW.out).mono ?_; rintro e w2 ⟨rfl, hb2⟩; have HB2 := hid hb2; have HW2 := hid (HW.out.on hb2); clear hb2))
  go_region_with (first | (go_at_call 73; refine (HZ.out _ HW2.out.drew).mono ?_; rintro e w1 ⟨rfl, rfl⟩) | (go_at_call 74; refine (HC.out _ _ HW2.out.drew).mono ?_; rintro e w3 ⟨rfl, hW3, hs3⟩; have HW3 := hid hW3; have HS3 := hid (((Save.of_below HB2.out (fun j => j = sb ∨ j = wb) (fun j h1 h2 => absurd h1 (by omega))).drew).trans (hs3.mono (fun j _ h => Or.inl h))); clear hW3 hs3))
  all_goals
    go_wp2_with (first | (go_at_call 78; refine (HSw.out _ _ HW3.out).mono ?_; rw [HE.out]; rintro e w4 ⟨rfl, hW4, hs4⟩; have HW4 := hid hW4; have HS4 := hid (HS3.out.trans (hs4.mono (fun j _ h => Or.inl h))); clear hW4 hs4) | (go_at_call 77; refine (HSt.out _ _ _ HW4.out).mono ?_; rintro e w5 ⟨rfl, hW5, hs5⟩; have HW5 := hid hW5; have HS5 := hid (HS4.out.trans (hs5.mono (fun j _ h => Or.inr h))); clear hW5 hs5))
    go_ret2
    exact ⟨rfl, HW5.out, HS5.out⟩
end Go.Proofs.Ytfafeomegoikkaa
