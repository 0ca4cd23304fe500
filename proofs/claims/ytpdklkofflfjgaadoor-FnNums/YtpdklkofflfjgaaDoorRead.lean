/-
  The program's readNum, by its contract: a loop of goto from state to state.
-/
import Derived.Test.YtpdklkofflfjgaaDoorMath
namespace Go.Proofs.YtpdklkofflfjgaaDoor
open Go.RowKit

def wrongT (c : Int) : Value := .tuple #[.int .i64 0, .int .i64 0, .iface 48 (.agg #[.int .i64 c])]
def numT (r : Nat × Nat × Int) : Value := if r.2.2 = 0 then .tuple #[.int .i64 (unfoldN r.1), .int .i64 (r.2.1 : Nat), .nilIface] else wrongT r.2.2
/-- What holds at each of the three labels: wrong, more, last. -/
def At (s : ByteArray) (a : Nat) (w : World) (l : Nat) (A : Act) (W : World) : Prop := W = w ∧ match l with
  | 0 => ∃ (c : Int) (x1 x7 x8 x9 u11 u12 u13 u14 u15 u16 u17 u18 u19 u20 u21 u22 u23 u24 u25 u26 u27 u28 u29 u30 u31 u32 u33 u34 u35 u36 u37 u38 u39 u40 u41 u42 u43 u44 u45 u46 u47 u48 u49 u50 u51 u52 u53 u54 : Value), A = { tmps := #[.string s, x1, undef, undef, .int .i64 0, .int .i64 0, .nilIface, x7, x8, x9, .int .i64 c, u11, u12, u13, u14, u15, u16, u17, u18, u19, u20, u21, u22, u23, u24, u25, u26, u27, u28, u29, u30, u31, u32, u33, u34, u35, u36, u37, u38, u39, u40, u41, u42, u43, u44, u45, u46, u47, u48, u49, u50, u51, u52, u53, u54], defers := [] } ∧ numT (rdN s a) = wrongT c
  | 1 => ∃ (k p U : Nat) (x1 x7 x8 x9 x10 u11 u12 u13 u14 u15 u16 u17 u18 u19 u20 u21 u22 u23 u24 u25 u26 u27 u28 u29 u30 u31 u32 u33 u34 u35 u36 u37 u38 u39 u40 u41 u42 u43 u44 u45 u46 u47 u48 u49 u50 u51 u52 u53 u54 : Value), A = { tmps := #[.string s, x1, undef, undef, .int .i64 0, .int .i64 0, .nilIface, x7, x8, x9, x10, u11, u12, u13, u14, u15, u16, u17, u18, u19, u20, u21, u22, u23, u24, u25, u26, u27, u28, u29, u30, u31, u32, u33, u34, u35, u36, u37, u38, u39, u40, u41, u42, u43, u44, u45, u46, u47, u48, u49, u50, u51, u52, u53, u54], defers := [] } ∧ x1 = .int .i64 p ∧ x7 = .int .u64 U ∧ x9 = .int .i64 k ∧ p = a + k ∧ Mid s a k U ∧ p < 9223372036854775808
  | 2 => ∃ (c k p U : Nat) (x1 x7 x8 x9 x10 u11 u12 u13 u14 u15 u16 u17 u18 u19 u20 u21 u22 u23 u24 u25 u26 u27 u28 u29 u30 u31 u32 u33 u34 u35 u36 u37 u38 u39 u40 u41 u42 u43 u44 u45 u46 u47 u48 u49 u50 u51 u52 u53 u54 : Value), A = { tmps := #[.string s, x1, undef, undef, .int .i64 0, .int .i64 0, .nilIface, x7, x8, x9, x10, u11, u12, u13, u14, u15, u16, u17, u18, u19, u20, u21, u22, u23, u24, u25, u26, u27, u28, u29, u30, u31, u32, u33, u34, u35, u36, u37, u38, u39, u40, u41, u42, u43, u44, u45, u46, u47, u48, u49, u50, u51, u52, u53, u54], defers := [] } ∧ x1 = .int .i64 p ∧ x7 = .int .u64 U ∧ x8 = .int .u8 c ∧ x9 = .int .i64 (k + 1 : Nat) ∧ k ≤ 9 ∧ U < 18446744073709551616 ∧ (c = 0 ∧ 0 < k → numT (rdN s a) = wrongT 3) ∧ (¬ (c = 0 ∧ 0 < k) → rdN s a = (U, p, 0))
  | _ => False
def left (l : Nat) (A : Act) (_ : World) : Nat := match l with
  | 0 => 0
  | 1 => 20 - (intOf (A.tmps.getD 9 undef)).toNat
  | _ => 1

theorem numT_wrong {s : ByteArray} {a : Nat} {c : Int} (h : rdN s a = (0, 0, c)) (hc : c ≠ 0) : numT (rdN s a) = wrongT c := by
  rw [h]
  simp [numT, hc]
theorem shutF {p : Prop} (h : p) : Hid p := h
theorem numT_right {s : ByteArray} {a u p : Nat} (h : rdN s a = (u, p, 0)) : numT (rdN s a) = .tuple #[.int .i64 (unfoldN u), .int .i64 (p : Nat), .nilIface] := by
  rw [h]
  simp [numT]
theorem mid_lt {s : ByteArray} {a k U : Nat} (h : Mid s a k U) : U < 9223372036854775808 := Nat.lt_of_lt_of_le h.2.1 (pow7 k h.1)
theorem slot7 (x k U : Nat) (hk : k ≤ 9) (h9 : k = 9 → x ≤ 1) (hU : U < 2 ^ (7 * k)) :
    bits .or .u64 (U : Int) (IntKind.u64.wrap ((x : Int) % 128 * 2 ^ (7 * k))) = ((U + x % 128 * 2 ^ (7 * k) : Nat) : Int) := by
  have e : ((x : Int) % 128) = ((x % 128 : Nat) : Int) := by omega
  have hx : x % 128 < 128 := Nat.mod_lt _ (by omega)
  have h9' : k = 9 → x % 128 ≤ 1 := fun h => by have := h9 h; omega
  rw [e, wrap_shift (x % 128) k U hk hx h9' hU, or_shift (x % 128) k U hk hx h9' hU]
theorem last_of {s : ByteArray} {a k U c p : Nat} (h : Mid s a k U) (hpk : p = a + k) (hp : p < s.size) (hb : byteAt s (a + k) = c) (hc : c < 128) (h9 : k = 9 → c ≤ 1) :
    U + c % 128 * 2 ^ (7 * k) < 18446744073709551616 ∧ (c = 0 ∧ 0 < k → numT (rdN s a) = wrongT 3) ∧ (¬ (c = 0 ∧ 0 < k) → rdN s a = (U + c % 128 * 2 ^ (7 * k), p + 1, 0)) := by
  have e : c % 128 = c := by omega
  rw [e]
  refine ⟨(add_fits c k U h.1 hc h9 h.2.1).2, fun h0 => numT_wrong (mid_nought h (by omega) (by omega) h0.2) (by omega), fun h0 => ?_⟩
  have := mid_last h (by omega) (fun ht => by have := h9 ht.1; omega) (by omega) (by omega)
  rw [this, hb, hpk]
theorem slot7_zero (x : Nat) : bits .or .u64 0 ((x : Int) % 128) = ((0 + x % 128 * 2 ^ (7 * 0) : Nat) : Int) := by
  have h := slot7 x 0 0 (by omega) (by omega) (by decide)
  have e : IntKind.u64.wrap ((x : Int) % 128 * 2 ^ (7 * 0)) = (x : Int) % 128 := by
    rw [show (2 : Int) ^ (7 * 0) = 1 from by decide, Int.mul_one]
    exact IntWalk.u64_in _ ⟨by omega, by omega⟩
  rw [e] at h
  exact h
theorem slot7_nine (x U : Nat) (hx : x ≤ 1) (hU : U < 2 ^ (7 * 9)) :
    bits .or .u64 (U : Int) ((x : Int) % 128 * 9223372036854775808) = ((U + x % 128 * 2 ^ (7 * 9) : Nat) : Int) := by
  have h := slot7 x 9 U (by omega) (fun _ => hx) hU
  have e : IntKind.u64.wrap ((x : Int) % 128 * 2 ^ (7 * 9)) = (x : Int) % 128 * 9223372036854775808 := by
    rw [show (2 : Int) ^ (7 * 9) = 9223372036854775808 from by decide]
    exact IntWalk.u64_in _ ⟨by omega, by omega⟩
  rw [e] at h
  exact h

set_option maxHeartbeats 4000000 in
set_option maxRecDepth 100000 in
theorem readNum_in (s : ByteArray) (hs : s.size ≤ 8000) (a : Nat) (ha : a < 9223372036854775808) (w : World) :
    Calls Tryd.prog 22 #[.string s, .int .i64 a] w fun e w' => e = .returned (numT (rdN s a)) ∧ w = w' := by
  have HP0 : Hid (∀ w1, Calls Tryd.prog 31 #[.string s, .int .i64 a] w1 fun e w' => e = .returned (.int .i64 0) ∧ w1 = w') := by
    have h0 : placeC s a = 0 := by unfold placeC; rw [if_neg (by omega), if_neg (by omega)]
    have h := place_w s (by unfold maxLen; omega) (a : Int)
    rw [h0] at h
    exact h
  go_enter Tryd.func22, Tryd.ntmps22
  go_wp2
  refine scope_labels (At s a w) left ?_ ?_
  · intro l A W hJ
    obtain ⟨rfl, hJ⟩ := hJ
    match l, hJ with
    | 0, hJ =>
      obtain ⟨c, x1, x7, x8, x9, u11, u12, u13, u14, u15, u16, u17, u18, u19, u20, u21, u22, u23, u24, u25, u26, u27, u28, u29, u30, u31, u32, u33, u34, u35, u36, u37, u38, u39, u40, u41, u42, u43, u44, u45, u46, u47, u48, u49, u50, u51, u52, u53, u54, hA, hn⟩ := hJ
      have HN : Hid (numT (rdN s a) = wrongT c) := hn
      clear hn
      generalize left 0 A W = M
      subst hA
      refine ⟨_, rfl, ?_⟩
      go_wp2
      simp only [jumps]
      go_ret3
      exact ⟨by rw [HN.out]; rfl, rfl⟩
    | 1, hJ =>
      obtain ⟨k, p, U, x1, x7, x8, x9, x10, u11, u12, u13, u14, u15, u16, u17, u18, u19, u20, u21, u22, u23, u24, u25, u26, u27, u28, u29, u30, u31, u32, u33, u34, u35, u36, u37, u38, u39, u40, u41, u42, u43, u44, u45, u46, u47, u48, u49, u50, u51, u52, u53, u54, hA, rfl, rfl, rfl, hp, hm, hp63⟩ := hJ
      have HM : Hid (Mid s a k U) := hm
      have HP : Hid (p = a + k) := hp
      have hk9 : k ≤ 9 := hm.1
      have hU := mid_lt hm
      have HL : Hid (left 1 A W = 20 - k) := by show left 1 A W = 20 - k; rw [hA]; simp [left, intOf]
      clear hm hp
      generalize left 1 A W = M at HL
      subst hA
      refine ⟨_, rfl, ?_⟩

      by_cases hge : s.size ≤ p
      · have HS : Hid (numT (rdN s a) = wrongT 4) := numT_wrong (mid_short HM.out (by rw [← HP.out]; exact hge)) (by omega)
        go_wp2
        go_step3
        exact ⟨⟨rfl, _, _, _, _, _, _, _, _, _, _, _, _, _, _, _, _, _, _, _, _, _, _, _, _, _, _, _, _, _, _, _, _, _, _, _, _, _, _, _, _, _, _, _, _, _, _, _, _, _, rfl, HS.out⟩, by rw [HL.out]; show 0 < _; omega⟩
      have hlt : p < s.size := by omega
      have HB : Hid (byteAt s (a + k) = s[p].toNat) := by rw [← HP.out]; exact byteAt_eq s p hlt
      have hb8 : s[p].toNat < 256 := UInt8.toNat_lt _
      by_cases hk : k < 9
      · have HV : Hid (bits .or .u64 (U : Int) (IntKind.u64.wrap ((s[p].toNat : Int) % 128 * 2 ^ (7 * k))) = ((U + s[p].toNat % 128 * 2 ^ (7 * k) : Nat) : Int)) := slot7 _ k U hk9 (by omega) HM.out.2.1
        by_cases hc : s[p].toNat < 128
        · have HE := shutF (last_of HM.out HP.out hlt HB.out hc (by omega))
          go_wp2
          go_step3
          exact ⟨⟨rfl, s[p].toNat, k, p + 1, _, _, _, _, _, _, _, _, _, _, _, _, _, _, _, _, _, _, _, _, _, _, _, _, _, _, _, _, _, _, _, _, _, _, _, _, _, _, _, _, _, _, _, _, _, _, _, _, _, _, rfl, by go_num, val_int HV.out, rfl, by go_num, hk9, HE.out.1, HE.out.2.1, HE.out.2.2⟩, by rw [HL.out]; show 1 < _; omega⟩
        · have HE := shutF (mid_more HM.out (by rw [← HP.out]; exact hlt) (by omega) (by rw [HB.out]; exact hc))
          go_wp2
          go_step3
          exact ⟨⟨rfl, k + 1, p + 1, _, _, _, _, _, _, _, _, _, _, _, _, _, _, _, _, _, _, _, _, _, _, _, _, _, _, _, _, _, _, _, _, _, _, _, _, _, _, _, _, _, _, _, _, _, _, _, _, _, _, rfl, by go_num, val_int HV.out, by go_num, by have := HP.out; omega, by rw [← HB.out]; exact HE.out, by omega⟩, by rw [HL.out]; simp [left, intOf]; omega⟩
      · obtain rfl : k = 9 := by omega
        by_cases hc : s[p].toNat ≤ 1
        · have HV : Hid (bits .or .u64 (U : Int) ((s[p].toNat : Int) % 128 * 9223372036854775808) = ((U + s[p].toNat % 128 * 2 ^ (7 * 9) : Nat) : Int)) := slot7_nine _ U hc HM.out.2.1
          have HE := shutF (last_of HM.out HP.out hlt HB.out (by omega) (fun _ => hc))
          go_wp2
          go_step3
          exact ⟨⟨rfl, s[p].toNat, 9, p + 1, _, _, _, _, _, _, _, _, _, _, _, _, _, _, _, _, _, _, _, _, _, _, _, _, _, _, _, _, _, _, _, _, _, _, _, _, _, _, _, _, _, _, _, _, _, _, _, _, _, _, rfl, by go_num, val_int HV.out, rfl, by go_num, hk9, HE.out.1, HE.out.2.1, HE.out.2.2⟩, by rw [HL.out]; show 1 < _; omega⟩
        · have HS : Hid (numT (rdN s a) = wrongT 3) := numT_wrong (mid_tenth HM.out (by rw [← HP.out]; exact hlt) (by omega) (by rw [HB.out]; omega)) (by omega)
          go_wp2
          go_step3
          exact ⟨⟨rfl, _, _, _, _, _, _, _, _, _, _, _, _, _, _, _, _, _, _, _, _, _, _, _, _, _, _, _, _, _, _, _, _, _, _, _, _, _, _, _, _, _, _, _, _, _, _, _, _, _, rfl, HS.out⟩, by rw [HL.out]; show 0 < _; omega⟩

    | 2, hJ =>
      obtain ⟨c, k, p, U, x1, x7, x8, x9, x10, u11, u12, u13, u14, u15, u16, u17, u18, u19, u20, u21, u22, u23, u24, u25, u26, u27, u28, u29, u30, u31, u32, u33, u34, u35, u36, u37, u38, u39, u40, u41, u42, u43, u44, u45, u46, u47, u48, u49, u50, u51, u52, u53, u54, hA, rfl, rfl, rfl, rfl, hk9, hU, h0, h1⟩ := hJ
      have H0 := shutF h0
      have H1 := shutF h1
      have HL : Hid (left 2 A W = 1) := rfl
      clear h0 h1
      generalize left 2 A W = M at HL
      subst hA
      refine ⟨_, rfl, ?_⟩
      by_cases hc : 0 < c
      · have HE : Hid (numT (rdN s a) = _) := numT_right (H1.out (by omega))
        go_wp2_with (go_at_call 32; refine (unfold_w U hU _).mono ?_; rintro e w' ⟨rfl, rfl⟩)
        simp only [jumps]
        go_ret3
        exact ⟨by rw [HE.out]; rfl, rfl⟩
      · obtain rfl : c = 0 := by omega
        by_cases hk : 0 < k
        · go_wp2
          go_step3
          exact ⟨⟨rfl, _, _, _, _, _, _, _, _, _, _, _, _, _, _, _, _, _, _, _, _, _, _, _, _, _, _, _, _, _, _, _, _, _, _, _, _, _, _, _, _, _, _, _, _, _, _, _, _, _, rfl, H0.out ⟨by trivial, hk⟩⟩, by rw [HL.out]; show 0 < 1; omega⟩
        · obtain rfl : k = 0 := by omega
          have HE : Hid (numT (rdN s a) = _) := numT_right (H1.out (by omega))
          go_wp2_with (go_at_call 32; refine (unfold_w U hU _).mono ?_; rintro e w' ⟨rfl, rfl⟩)
          simp only [jumps]
          go_ret3
          exact ⟨by rw [HE.out]; rfl, rfl⟩
  · have HM : Hid (Mid s a 0 0) := mid_start s a
    by_cases hge : s.size ≤ a
    · have HS : Hid (numT (rdN s a) = wrongT 4) := numT_wrong (mid_short HM.out hge) (by omega)
      go_wp2_with (go_at_call 31; refine (HP0.out _).mono ?_; rintro e w' ⟨rfl, rfl⟩)
      go_step3
      go_wp2
      go_step3
      exact ⟨rfl, _, _, _, _, _, _, _, _, _, _, _, _, _, _, _, _, _, _, _, _, _, _, _, _, _, _, _, _, _, _, _, _, _, _, _, _, _, _, _, _, _, _, _, _, _, _, _, _, _, rfl, HS.out⟩
    have hlt : a < s.size := by omega
    have HB : Hid (byteAt s (a + 0) = s[a].toNat) := byteAt_eq s a hlt
    have hb8 : s[a].toNat < 256 := UInt8.toNat_lt _
    have HV : Hid (bits .or .u64 0 ((s[a].toNat : Int) % 128) = ((0 + s[a].toNat % 128 * 2 ^ (7 * 0) : Nat) : Int)) := slot7_zero _
    by_cases hc : s[a].toNat < 128
    · have HE := shutF (last_of HM.out (p := a) rfl hlt HB.out hc (by omega))
      go_wp2_with (go_at_call 31; refine (HP0.out _).mono ?_; rintro e w' ⟨rfl, rfl⟩)
      go_step3
      go_wp2
      go_step3
      exact ⟨rfl, s[a].toNat, 0, a + 1, _, _, _, _, _, _, _, _, _, _, _, _, _, _, _, _, _, _, _, _, _, _, _, _, _, _, _, _, _, _, _, _, _, _, _, _, _, _, _, _, _, _, _, _, _, _, _, _, _, _, rfl, by go_num, val_int HV.out, rfl, rfl, by omega, HE.out.1, HE.out.2.1, HE.out.2.2⟩
    · have HE := shutF (mid_more HM.out hlt (by omega) (by rw [HB.out]; exact hc))
      go_wp2_with (go_at_call 31; refine (HP0.out _).mono ?_; rintro e w' ⟨rfl, rfl⟩)
      go_step3
      go_wp2
      go_step3
      exact ⟨rfl, 1, a + 1, _, _, _, _, _, _, _, _, _, _, _, _, _, _, _, _, _, _, _, _, _, _, _, _, _, _, _, _, _, _, _, _, _, _, _, _, _, _, _, _, _, _, _, _, _, _, _, _, _, _, rfl, by go_num, val_int HV.out, rfl, by omega, by rw [← HB.out]; exact HE.out, by omega⟩
end Go.Proofs.YtpdklkofflfjgaaDoor
