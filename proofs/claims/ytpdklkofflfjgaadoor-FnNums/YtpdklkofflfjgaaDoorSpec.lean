/-
  The model's GetNum, by its contract.
-/
import Derived.Test.YtpdklkofflfjgaaDoorGet
namespace Go.Proofs.YtpdklkofflfjgaaDoor
open Go.RowKit

theorem placeC_in {s : ByteArray} {a : Nat} (hs : s.size ≤ 8000) : placeC s a = 0 := by
  unfold placeC
  rw [if_neg (by omega), if_neg (by omega)]
theorem getR_wrong {s : ByteArray} {a : Nat} {n b c c0 : Int} (hs : s.size ≤ 8000) (h : getR s a = (n, b, c)) (hr : rdN s a = (0, 0, c0)) (h0 : c0 ≠ 0) : n = 0 ∧ b = 0 ∧ c = c0 := by
  rw [← Prod.mk.injEq, ← Prod.mk.injEq, ← h]
  unfold getR
  rw [if_pos (placeC_in hs), Int.toNat_natCast, hr]
  simp [h0]
theorem getR_right {s : ByteArray} {a V p : Nat} {n b c : Int} (hs : s.size ≤ 8000) (h : getR s a = (n, b, c)) (hr : rdN s a = (V, p, 0)) : n = unfoldN V ∧ b = (p : Nat) ∧ c = 0 := by
  rw [← Prod.mk.injEq, ← Prod.mk.injEq, ← h]
  unfold getR
  rw [if_pos (placeC_in hs), Int.toNat_natCast, hr]
  simp
theorem unfoldN_odd {V : Nat} (h : V % 2 = 1) : unfoldN V = -((V : Int) / 2) - 1 := by
  unfold unfoldN
  rw [if_pos h]
  omega
theorem unfoldN_even {V : Nat} (h : ¬ V % 2 = 1) : unfoldN V = (V : Int) / 2 := by
  unfold unfoldN
  rw [if_neg h]
  omega
/-- The number that is added up, in the walk's words. -/
theorem sum_in (x k U : Nat) (hk : k < 9) (hU : U < 2 ^ (7 * k)) :
    ∃ V : Nat, V = U + x % 128 * 2 ^ (7 * k) ∧ V < 18446744073709551616 ∧ IntKind.u64.wrap ((U : Int) + IntKind.u64.wrap ((x : Int) % 128 * 2 ^ (7 * k))) = (V : Int) := by
  have e : ((x : Int) % 128) = ((x % 128 : Nat) : Int) := by omega
  have hx : x % 128 < 128 := Nat.mod_lt _ (by omega)
  have hf := add_fits (x % 128) k U (by omega) hx (by omega) hU
  refine ⟨_, rfl, hf.2, ?_⟩
  rw [e, wrap_shift (x % 128) k U (by omega) hx (by omega) hU, IntKind.wrap_u64]
  generalize x % 128 * 2 ^ (7 * k) = Y at *
  omega

theorem nine_odd (x U : Nat) (h : (((U : Int) + (x : Int) % 128 * 9223372036854775808) % 2 == 1) = true) : unfoldN (U + x % 128 * 2 ^ (7 * 9)) = -(((U : Int) + (x : Int) % 128 * 9223372036854775808) / 2) - 1 := by
  have e : (2 : Nat) ^ (7 * 9) = 9223372036854775808 := by decide
  rw [e]
  simp at h
  unfold unfoldN
  rw [if_pos (by omega)]
  omega
theorem nine_even (x U : Nat) (h : (((U : Int) + (x : Int) % 128 * 9223372036854775808) % 2 == 1) = false) : unfoldN (U + x % 128 * 2 ^ (7 * 9)) = ((U : Int) + (x : Int) % 128 * 9223372036854775808) / 2 := by
  have e : (2 : Nat) ^ (7 * 9) = 9223372036854775808 := by decide
  rw [e]
  simp at h
  unfold unfoldN
  rw [if_neg (by omega)]
  omega
theorem nine_place {a k : Nat} (hk : k = 9) {n b c : Int} {U x : Nat} (h : n = unfoldN (U + x % 128 * 2 ^ (7 * k)) ∧ b = ((a + k + 1 : Nat) : Int) ∧ c = 0) : n = unfoldN (U + x % 128 * 2 ^ (7 * 9)) ∧ b = (a : Int) + 9 + 1 ∧ c = 0 := by
  subst hk
  refine ⟨h.1, ?_, h.2.2⟩
  rw [h.2.1]
  omega

set_option maxHeartbeats 4000000 in
set_option maxRecDepth 100000 in
theorem specGetNum_in (s : ByteArray) (hs : s.size ≤ 8000) (a : Nat) (ha : a < 9223372036854775808) (w : World) (n b c : Int) (hr : Hid (getR s a = (n, b, c))) :
    Calls Tryd.prog 14 #[.string s, .int .i64 a] w fun e w' => e = .returned (outN n b c) ∧ Below w.heap.size w w' := by
  go_enter Tryd.func14, Tryd.ntmps14
  go_wp2
  go_loop [5, 6] (fun u i => ∃ k U : Nat, i = .int .i64 k ∧ u = .int .u64 U ∧ Mid s a k U) (fun _ i => 10 - (intOf i).toNat)
  case atStart => exact ⟨0, 0, rfl, rfl, mid_start s a⟩
  case round =>
    obtain ⟨k, U, rfl, rfl, hm⟩ := hrel
    have HM : Hid (Mid s a k U) := hm
    have hk9 : k ≤ 9 := hm.1
    have hU := mid_lt hm
    clear hm
    by_cases hge : s.size ≤ a + k
    · have HN := shutF (getR_wrong hs hr.out (mid_short HM.out hge) (by omega))
      go_wp2
      exact bodyPost_ret (v := outN 0 0 4) (by simp [results, Tryd.results14, go_sem, outN]) rfl ⟨by rw [HN.out.1, HN.out.2.1, HN.out.2.2], (Below.refl _ _).alloc (Nat.le_refl _) _⟩
    have hlt : a + k < s.size := by omega
    have HB : Hid (byteAt s (a + k) = s[a + k].toNat) := byteAt_eq s _ hlt
    have hb8 : s[a + k].toNat < 256 := UInt8.toNat_lt _
    by_cases hc0 : s[a + k].toNat = 0 ∧ 0 < k
    · obtain ⟨hcz, hkp⟩ := hc0
      have HN := shutF (getR_wrong hs hr.out (mid_nought HM.out hlt (by rw [HB.out]; exact hcz) hkp) (by omega))
      have hcz1 : s[a + k].toNat ≤ 0 := by omega
      clear hcz
      by_cases hk : k < 9
      · go_wp2
        exact bodyPost_ret (v := outN 0 0 3) (by simp [results, Tryd.results14, go_sem, outN]) rfl ⟨by rw [HN.out.1, HN.out.2.1, HN.out.2.2], (Below.refl _ _).alloc (Nat.le_refl _) _⟩
      · go_wp2
        exact bodyPost_ret (v := outN 0 0 3) (by simp [results, Tryd.results14, go_sem, outN]) rfl ⟨by rw [HN.out.1, HN.out.2.1, HN.out.2.2], (Below.refl _ _).alloc (Nat.le_refl _) _⟩
    have HC0 := shutF hc0
    clear hc0
    by_cases hk : k < 9
    · obtain ⟨V, hV, hVb, hw⟩ := sum_in s[a + k].toNat k U hk HM.out.2.1
      by_cases hc : s[a + k].toNat < 128
      · have HL := shutF ((last_of HM.out rfl hlt HB.out hc (by omega)).2.2 HC0.out)
        rw [← hV] at HL
        have HN := shutF (getR_right hs hr.out HL.out)
        clear hV HL
        have hkc : 0 < s[a + k].toNat ∨ k ≤ 0 := by have := HC0.out; omega
        by_cases hodd : V % 2 = 1
        · have hd : ((V : Int) % 2 == 1) = true := by simp; omega
          have HU := shutF (unfoldN_odd hodd)
          clear hodd
          rcases hkc with hkc | hkc
          all_goals go_wp2
          all_goals
            exact bodyPost_ret (v := outN (-((V : Int) / 2) - 1) ((a : Int) + k + 1) 0) (by simp [results, Tryd.results14, go_sem, outN]) rfl ⟨by rw [HN.out.1, HN.out.2.1, HN.out.2.2, HU.out]; simp, (Below.refl _ _).alloc (Nat.le_refl _) _⟩
        · have hd : ((V : Int) % 2 == 1) = false := by simp; omega
          have HU := shutF (unfoldN_even hodd)
          clear hodd
          rcases hkc with hkc | hkc
          all_goals go_wp2
          all_goals
            exact bodyPost_ret (v := outN ((V : Int) / 2) ((a : Int) + k + 1) 0) (by simp [results, Tryd.results14, go_sem, outN]) rfl ⟨by rw [HN.out.1, HN.out.2.1, HN.out.2.2, HU.out]; simp, (Below.refl _ _).alloc (Nat.le_refl _) _⟩
      · have HE := shutF (mid_more HM.out hlt (by omega) (by rw [HB.out]; exact hc))
        rw [HB.out, ← hV] at HE
        clear hV
        go_wp2
        go_round
        case rel => exact ⟨k + 1, V, by go_num, rfl, HE.out⟩
        case measure => simp [intOf]; omega
    · by_cases hc : 1 < s[a + k].toNat
      · have HN := shutF (getR_wrong hs hr.out (mid_tenth HM.out hlt (by omega) (by rw [HB.out]; exact hc)) (by omega))
        go_wp2
        exact bodyPost_ret (v := outN 0 0 3) (by simp [results, Tryd.results14, go_sem, outN]) rfl ⟨by rw [HN.out.1, HN.out.2.1, HN.out.2.2], (Below.refl _ _).alloc (Nat.le_refl _) _⟩
      · have hc1 : 1 ≤ s[a + k].toNat := by have := HC0.out; omega
        have HN := shutF (nine_place (by omega) (getR_right hs hr.out ((last_of HM.out rfl hlt HB.out (by omega) (by omega)).2.2 HC0.out)))
        go_wp2
        · have ho : (((U : Int) + (s[a + k].toNat : Int) % 128 * 9223372036854775808) % 2 == 1) = true := by assumption
          exact bodyPost_ret (v := outN (-(((U : Int) + (s[a + k].toNat : Int) % 128 * 9223372036854775808) / 2) - 1) ((a : Int) + 9 + 1) 0) (by simp [results, Tryd.results14, go_sem, outN]) rfl ⟨by rw [HN.out.1, HN.out.2.1, HN.out.2.2, nine_odd _ _ ho], (Below.refl _ _).alloc (Nat.le_refl _) _⟩
        · have ho : (((U : Int) + (s[a + k].toNat : Int) % 128 * 9223372036854775808) % 2 == 1) = false := by assumption
          exact bodyPost_ret (v := outN (((U : Int) + (s[a + k].toNat : Int) % 128 * 9223372036854775808) / 2) ((a : Int) + 9 + 1) 0) (by simp [results, Tryd.results14, go_sem, outN]) rfl ⟨by rw [HN.out.1, HN.out.2.1, HN.out.2.2, nine_even _ _ ho], (Below.refl _ _).alloc (Nat.le_refl _) _⟩
end Go.Proofs.YtpdklkofflfjgaaDoor
