/-
  A ring at work: a place claimed, filled, taken out; by their contracts.
-/
import Derived.Test.YtfafeomegoikkaaRgU
namespace Go.Proofs.Ytfafeomegoikkaa
open Go.RowKit
set_option linter.unusedVariables false
set_option linter.unusedSimpArgs false
set_option maxRecDepth 20000 in
set_option maxHeartbeats 2000000 in
theorem claim_no (wb sb : Nat) (H T n : Nat) (Z : List Int) (hH : H ≤ 1000000) (hT : T ≤ 1000000) (hn : n ≤ 16) (h : T = H + n ∨ T = 1000000) (w : World) (hW : WAt w wb sb H T n Z) :
    Calls Try.prog 48 #[.pointer (some ⟨wb, 0, none⟩)] w fun e w' => e = faultE 9 ∧ Below w.heap.size w w' := by
  have HW := hid hW
  have HL := hid (fun w h => ld_head (wb := wb) (sb := sb) (H := (H : Int)) (T := (T : Int)) (n := n) (Z := Z) w h)
  have HT := hid (fun w h => ld_tail (wb := wb) (sb := sb) (H := (H : Int)) (T := (T : Int)) (n := n) (Z := Z) w h)
  have HS := hid (fun w h => wsize_any wb sb H T n Z w h)
  clear hW
  by_cases h1 : T = H + n
  · have q1 : ((T : Int) == (H : Int) + (n : Int)) = true := by simp; omega
    clear h h1
    go_enter Try.func48, Try.ntmps48
    go_wp2_with fail
    go_loopw [] (fun wr => wr = w) (fun _ => 0)
    case atStart => rfl
    case round =>
      subst hrel
      go_wp2_with (first | (go_at_call 72; first | (with_reducible refine (HT.out _ HW.out).mono ?_; rintro e w1 ⟨rfl, rfl⟩) | (with_reducible refine (HL.out _ HW.out).mono ?_; rintro e w1 ⟨rfl, rfl⟩)) | (go_at_call 73; refine (HS.out _ HW.out).mono ?_; rintro e w1 ⟨rfl, rfl⟩))
      exact ⟨rfl, rfl, Below.refl _ _⟩
  · have q1 : ((T : Int) == (H : Int) + (n : Int)) = false := by simp; omega
    have q2 : ((T : Int) == 1000000) = true := by simp; omega
    clear h h1
    go_enter Try.func48, Try.ntmps48
    go_wp2_with fail
    go_loopw [] (fun wr => wr = w) (fun _ => 0)
    case atStart => rfl
    case round =>
      subst hrel
      go_wp2_with (first | (go_at_call 72; first | (with_reducible refine (HT.out _ HW.out).mono ?_; rintro e w1 ⟨rfl, rfl⟩) | (with_reducible refine (HL.out _ HW.out).mono ?_; rintro e w1 ⟨rfl, rfl⟩)) | (go_at_call 73; refine (HS.out _ HW.out).mono ?_; rintro e w1 ⟨rfl, rfl⟩))
      exact ⟨rfl, rfl, Below.refl _ _⟩
set_option maxRecDepth 20000 in
set_option maxHeartbeats 2000000 in
theorem claim_ok (wb sb : Nat) (H T n : Nat) (Z : List Int) (hH : H ≤ 1000000) (hT : T < 1000000) (hn : n ≤ 16) (h : T < H + n) (w : World) (hW : WAt w wb sb H T n Z) :
    Calls Try.prog 48 #[.pointer (some ⟨wb, 0, none⟩)] w fun e w' => e = .returned (.int .i64 T) ∧ WAt w' wb sb H ((T : Int) + 1) n Z ∧ Save w w' (fun j => j = wb) := by
  have HW := hid hW
  have HL := hid (fun w h => ld_head (wb := wb) (sb := sb) (H := (H : Int)) (T := (T : Int)) (n := n) (Z := Z) w h)
  have HT := hid (fun w h => ld_tail (wb := wb) (sb := sb) (H := (H : Int)) (T := (T : Int)) (n := n) (Z := Z) w h)
  have HS := hid (fun w h => wsize_any wb sb H T n Z w h)
  have HC := hid (fun w h => cas_tail (wb := wb) (sb := sb) (H := (H : Int)) (T := (T : Int)) (n := n) (Z := Z) ((T : Int) + 1) w h)
  have q1 : ((T : Int) == (H : Int) + (n : Int)) = false := by simp; omega
  have q2 : ((T : Int) == 1000000) = false := by simp; omega
  clear hW
  go_enter Try.func48, Try.ntmps48
  go_wp2_with fail
  go_loopw [] (fun wr => wr = w) (fun _ => 0)
  case atStart => rfl
  case round =>
    subst hrel
    go_wp2_with (first | (go_at_call 72; first | (with_reducible refine (HT.out _ HW.out).mono ?_; rintro e w1 ⟨rfl, rfl⟩) | (with_reducible refine (HL.out _ HW.out).mono ?_; rintro e w1 ⟨rfl, rfl⟩)) | (go_at_call 73; refine (HS.out _ HW.out).mono ?_; rintro e w1 ⟨rfl, rfl⟩) | (go_at_call 74; refine (HC.out _ HW.out).mono ?_; rintro e w2 ⟨rfl, hW2, hs2⟩; have HW2 := hid hW2; have HS2 := hid hs2; clear hW2 hs2))
    go_ret
    exact ⟨rfl, HW2.out, HS2.out⟩
set_option maxRecDepth 20000 in
set_option maxHeartbeats 2000000 in
theorem fill_item (wb sb : Nat) (H T : Int) (n : Nat) (Z : List Int) (pos item : Int) (h : itemB item = false) (w : World) (hW : WAt w wb sb H T n Z) :
    Calls Try.prog 52 #[.pointer (some ⟨wb, 0, none⟩), .int .i64 pos, .int .i64 item] w fun e w' => e = faultE 1 ∧ Below w.heap.size w w' := by
  have HI := hid (fun t w => implItem_any t w)
  clear hW
  go_enter Try.func52, Try.ntmps52
  go_wp2_with (go_at_call 75; refine (HI.out _ _).mono ?_; rintro e w' ⟨rfl, rfl⟩)
  exact ⟨rfl, rfl, Below.refl _ _⟩
set_option maxRecDepth 20000 in
set_option maxHeartbeats 2000000 in
theorem fill_none (wb sb : Nat) (H T : Int) (n : Nat) (Z : List Int) (pos item : Int) (h : itemB item = true) (hp : pos < H ∨ T ≤ pos) (w : World) (hW : WAt w wb sb H T n Z) :
    Calls Try.prog 52 #[.pointer (some ⟨wb, 0, none⟩), .int .i64 pos, .int .i64 item] w fun e w' => e = faultE 6 ∧ Below w.heap.size w w' := by
  have HI := hid (fun t w => implItem_any t w)
  have HW := hid hW
  have HL := hid (fun w h => ld_head (wb := wb) (sb := sb) (H := H) (T := T) (n := n) (Z := Z) w h)
  have HT := hid (fun w h => ld_tail (wb := wb) (sb := sb) (H := H) (T := T) (n := n) (Z := Z) w h)
  clear hW
  by_cases h1 : pos < H
  · clear hp
    go_enter Try.func52, Try.ntmps52
    go_wp2_with (first | (go_at_call 75; refine (HI.out _ _).mono ?_; rintro e w' ⟨rfl, rfl⟩) | (go_at_call 72; first | (with_reducible refine (HT.out _ HW.out).mono ?_; rintro e w1 ⟨rfl, rfl⟩) | (with_reducible refine (HL.out _ HW.out).mono ?_; rintro e w1 ⟨rfl, rfl⟩)))
    exact ⟨rfl, rfl, Below.refl _ _⟩
  · have h2 : T ≤ pos := by omega
    clear hp
    go_enter Try.func52, Try.ntmps52
    go_wp2_with (first | (go_at_call 75; refine (HI.out _ _).mono ?_; rintro e w' ⟨rfl, rfl⟩) | (go_at_call 72; first | (with_reducible refine (HT.out _ HW.out).mono ?_; rintro e w1 ⟨rfl, rfl⟩) | (with_reducible refine (HL.out _ HW.out).mono ?_; rintro e w1 ⟨rfl, rfl⟩)))
    exact ⟨rfl, rfl, Below.refl _ _⟩
set_option maxRecDepth 20000 in
set_option maxHeartbeats 2000000 in
theorem fill_there (wb sb : Nat) (H T : Int) (n P : Nat) (hn : 1 ≤ n) (hn2 : n ≤ 16) (hP : P ≤ 3000000) (Z : List Int) (item : Int) (h : itemB item = true) (h1 : H ≤ (P : Int)) (h2 : (P : Int) < T) (h0 : ¬ itAt Z n P = 0) (w : World) (hW : WAt w wb sb H T n Z) :
    Calls Try.prog 52 #[.pointer (some ⟨wb, 0, none⟩), .int .i64 P, .int .i64 item] w fun e w' => e = faultE 7 ∧ Below w.heap.size w w' := by
  have HI := hid (fun t w => implItem_any t w)
  have HW := hid hW
  have HL := hid (fun w h => ld_head (wb := wb) (sb := sb) (H := H) (T := T) (n := n) (Z := Z) w h)
  have HT := hid (fun w h => ld_tail (wb := wb) (sb := sb) (H := H) (T := T) (n := n) (Z := Z) w h)
  have HS := hid (fun w h => wslot_any wb sb H T n P hn hn2 hP Z w h)
  have hlt : P % n < n := Nat.mod_lt _ hn
  unfold itAt at h0
  have HC := hid (fun w h => cas_miss (wb := wb) (sb := sb) (H := H) (T := T) (n := n) (Z := Z) (P % n * 2 + 1) (by omega) 0 item h0 w h)
  generalize P % n = i at *
  clear hW h0
  go_enter Try.func52, Try.ntmps52
  go_wp2_with (first | (go_at_call 75; refine (HI.out _ _).mono ?_; rintro e w' ⟨rfl, rfl⟩) | (go_at_call 72; first | (with_reducible refine (HT.out _ HW.out).mono ?_; rintro e w1 ⟨rfl, rfl⟩) | (with_reducible refine (HL.out _ HW.out).mono ?_; rintro e w1 ⟨rfl, rfl⟩)) | (go_at_call 76; refine (HS.out _ HW.out).mono ?_; rintro e w2 ⟨rfl, hb2⟩; have HB2 := hid hb2; have HW2 := hid (HW.out.on hb2); clear hb2) | (go_at_call 74; refine (HC.out _ HW2.out).mono ?_; rintro e w3 ⟨rfl, rfl⟩))
  exact ⟨rfl, rfl, HB2.out⟩
set_option maxRecDepth 20000 in
set_option maxHeartbeats 2000000 in
theorem fill_ok (wb sb : Nat) (H T : Int) (n P : Nat) (hn : 1 ≤ n) (hn2 : n ≤ 16) (hP : P ≤ 3000000) (Z : List Int) (item : Int) (h : itemB item = true) (h1 : H ≤ (P : Int)) (h2 : (P : Int) < T) (h0 : itAt Z n P = 0) (w : World) (hW : WAt w wb sb H T n Z) :
    Calls Try.prog 52 #[.pointer (some ⟨wb, 0, none⟩), .int .i64 P, .int .i64 item] w fun e w' => e = .returned (.tuple #[]) ∧ WAt w' wb sb H T n ((Z.set (P % n * 2 + 1) item).set (P % n * 2) ((P : Int) + 1)) ∧ Save w w' (fun j => j = sb) := by
  have HI := hid (fun t w => implItem_any t w)
  have HW := hid hW
  have HL := hid (fun w h => ld_head (wb := wb) (sb := sb) (H := H) (T := T) (n := n) (Z := Z) w h)
  have HT := hid (fun w h => ld_tail (wb := wb) (sb := sb) (H := H) (T := T) (n := n) (Z := Z) w h)
  have HS := hid (fun w h => wslot_any wb sb H T n P hn hn2 hP Z w h)
  have hlt : P % n < n := Nat.mod_lt _ hn
  unfold itAt at h0
  have HC := hid (fun w h => cas_hit (wb := wb) (sb := sb) (H := H) (T := T) (n := n) (Z := Z) (P % n * 2 + 1) (by omega) 0 item h0 w h)
  have HSt := hid (fun x Z w h => st_slot (wb := wb) (sb := sb) (H := H) (T := T) (n := n) (Z := Z) (P % n * 2) (by omega) x w h)
  generalize P % n = i at *
  clear hW h0
  go_enter Try.func52, Try.ntmps52
  go_wp2_with (first | (go_at_call 75; refine (HI.out _ _).mono ?_; rintro e w' ⟨rfl, rfl⟩) | (go_at_call 72; first | (with_reducible refine (HT.out _ HW.out).mono ?_; rintro e w1 ⟨rfl, rfl⟩) | (with_reducible refine (HL.out _ HW.out).mono ?_; rintro e w1 ⟨rfl, rfl⟩)) | (go_at_call 76; refine (HS.out _ HW.out).mono ?_; rintro e w2 ⟨rfl, hb2⟩; have HB2 := hid hb2; have HW2 := hid (HW.out.on hb2); clear hb2) | (go_at_call 74; refine (HC.out _ HW2.out).mono ?_; rintro e w3 ⟨rfl, hW3, hs3⟩; have HW3 := hid hW3; have HS3 := hid ((Save.of_below HB2.out (fun j => j = sb) (fun j h1 h2 => absurd h1 (by omega))).trans hs3); clear hW3 hs3) | (go_at_call 77; refine (HSt.out _ _ _ HW3.out).mono ?_; rintro e w4 ⟨rfl, hW4, hs4⟩; have HW4 := hid hW4; have HS4 := hid (HS3.out.trans hs4); clear hW4 hs4))
  refine bodyPost_end (v := .tuple #[]) (by simp [results, Try.results52]) rfl ⟨rfl, HW4.out, HS4.out⟩
end Go.Proofs.Ytfafeomegoikkaa
