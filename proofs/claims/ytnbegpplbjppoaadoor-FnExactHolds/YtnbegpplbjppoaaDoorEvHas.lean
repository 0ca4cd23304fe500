/-
  EventHas, the model's and the program's, by one contract; the walk of FnExactEventHas.
-/
import Derived.Test.YtnbegpplbjppoaaDoorEvLaw
namespace Go.Proofs.YtnbegpplbjppoaaDoor
open Go.RowKit
set_option linter.unusedVariables false
set_option linter.unusedSimpArgs false
def nhTo (S : List ByteArray) (x : ByteArray) (k : Nat) : Bool := (List.range k).any fun i => (txAt S i).toList == x.toList
theorem nhTo_succ (S : List ByteArray) (x : ByteArray) (k : Nat) : nhTo S x (k + 1) = (nhTo S x k || (txAt S k).toList == x.toList) := by
  simp [nhTo, List.range_succ]
theorem nhTo_yes (S : List ByteArray) (x : ByteArray) (k : Nat) (hk : k < S.length) (h : ((txAt S k).toList == x.toList) = true) : nhTo S x S.length = true := by
  simp only [nhTo, List.any_eq_true, List.mem_range]
  exact ⟨k, hk, h⟩
def hasB (t : Int) (S : List ByteArray) (x : ByteArray) : Bool := evB t S && nhTo S x S.length
set_option maxRecDepth 20000 in
set_option maxHeartbeats 1000000 in
theorem specL03Has_any (t : Int) (S : List ByteArray) (x : ByteArray) (n : Nat) (hn : S.length = n) (a : Option Addr) (c : Nat) (hl : n ≤ maxLen) (w : World) (hA : TsAt w a S) :
    Calls Tryd.prog 49 #[.agg #[.int .i64 t, .slice a n c], .string x] w fun e w' => e = .returned (.bool (nhTo S x S.length)) ∧ Below w.heap.size w w' := by
  unfold maxLen at hl
  subst hn
  have HB0 := hid ((Below.refl w.heap.size w).alloc (Nat.le_refl _) (.cells #[.int .i64 t, .slice a S.length c] 45))
  have HA := hid (hA.below HB0.out)
  clear hA
  go_enter Tryd.func49, Tryd.ntmps49
  go_wp2_with fail
  go_loop [5] (fun i => ∃ k : Nat, k ≤ S.length ∧ i = .int .i64 k ∧ nhTo S x k = false) (fun i => S.length - (intOf i).toNat)
  case atStart => exact ⟨0, Nat.zero_le _, rfl, rfl⟩
  case round =>
    obtain ⟨k, hk, rfl, hg⟩ := hrel
    have HG := hid hg
    clear hg
    by_cases hlt : k < S.length
    · have HS1 := hid (nhTo_succ S x k)
      have HY := hid (nhTo_yes S x k hlt)
      rcases HA.out with h0 | ⟨b, rfl, hb, hc⟩
      · omega
      have d0 := hc k hlt
      clear hc
      generalize txAt S k = T at *
      rcases Bool.eq_false_or_eq_true (T.toList == x.toList) with hx | hx
      · go_wp2_with fail
        go_ret
        exact ⟨ret_bool (HY.out hx).symm, HB0.out⟩
      · go_wp2_with fail
        go_round
        case rel => exact ⟨k + 1, by omega, by go_num, by rw [HS1.out, HG.out, hx]; rfl⟩
        case measure => simp [intOf]; omega
    · have hk' : k = S.length := by omega
      subst hk'
      go_wp2_with fail
      go_ret
      exact ⟨ret_bool HG.out.symm, HB0.out⟩
set_option maxRecDepth 20000 in
set_option maxHeartbeats 1000000 in
theorem index_any (S : List ByteArray) (x : ByteArray) (n : Nat) (hn : S.length = n) (a : Option Addr) (c : Nat) (hl : n ≤ maxLen) (w : World) (hA : TsAt w a S) :
    Calls Tryd.prog 66 #[.slice a n c, .string x] w fun e w' => (∃ r : Int, e = .returned (.int .i64 r) ∧ decide (0 ≤ r) = nhTo S x S.length) ∧ w = w' := by
  unfold maxLen at hl
  subst hn
  have HA := hid hA
  clear hA
  go_enter Tryd.func66, Tryd.ntmps66
  go_wp2_with fail
  go_loop [8] (fun i => ∃ k : Nat, k ≤ S.length ∧ i = .int .i64 k ∧ nhTo S x k = false) (fun i => S.length - (intOf i).toNat)
  case atStart => exact ⟨0, Nat.zero_le _, rfl, rfl⟩
  case round =>
    obtain ⟨k, hk, rfl, hg⟩ := hrel
    have HG := hid hg
    clear hg
    by_cases hlt : k < S.length
    · have HS1 := hid (nhTo_succ S x k)
      have HY := hid (nhTo_yes S x k hlt)
      rcases HA.out with h0 | ⟨b, rfl, hb, hc⟩
      · omega
      have d0 := hc k hlt
      clear hc
      generalize txAt S k = T at *
      rcases Bool.eq_false_or_eq_true (T.toList == x.toList) with hx | hx
      · have hx2 : (x.toList == T.toList) = true := by rw [beq_iff_eq] at hx ⊢; exact hx.symm
        have HX := hid hx
        clear hx
        go_wp2_with fail
        go_ret
        exact ⟨⟨k, rfl, by rw [HY.out HX.out]; simp⟩, rfl⟩
      · have hx2 : (x.toList == T.toList) = false := by rw [beq_eq_false_iff_ne] at hx ⊢; exact fun e => hx e.symm
        have HX := hid hx
        clear hx
        go_wp2_with fail
        go_round
        case rel => exact ⟨k + 1, by omega, by go_num, by rw [HS1.out, HG.out, HX.out]; rfl⟩
        case measure => simp [intOf]; omega
    · have hk' : k = S.length := by omega
      subst hk'
      go_wp2_with fail
      go_ret
      exact ⟨⟨-1, rfl, by rw [HG.out]; rfl⟩, rfl⟩
set_option maxRecDepth 20000 in
set_option maxHeartbeats 1000000 in
theorem contains_any (S : List ByteArray) (x : ByteArray) (n : Nat) (hn : S.length = n) (a : Option Addr) (c : Nat) (hl : n ≤ maxLen) (w : World) (hA : TsAt w a S) :
    Calls Tryd.prog 58 #[.slice a n c, .string x] w fun e w' => e = .returned (.bool (nhTo S x S.length)) ∧ w = w' := by
  have HC := hid (index_any S x n hn a c hl w hA)
  clear hn hl hA
  go_enter Tryd.func58, Tryd.ntmps58
  go_wp2_with (go_at_call 66; refine HC.out.mono ?_; rintro e w' ⟨⟨r, rfl, hr⟩, rfl⟩; have HR := hid hr; clear hr)
  go_ret
  exact ⟨ret_bool HR.out, rfl⟩
end Go.Proofs.YtnbegpplbjppoaaDoor
