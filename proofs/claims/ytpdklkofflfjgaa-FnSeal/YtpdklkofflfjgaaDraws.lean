/-
  DrawSeal, DrawCrcMore and lwAt by their contracts: what is drawn is small; nothing that was there is turned.
-/
import Derived.Test.YtpdklkofflfjgaaSource
namespace Go.Proofs.Ytpdklkofflfjgaa
open Go.RowKit

theorem below_src {N S : Nat} {w w1 w2 : World} (h : Below N w w1) (hg : w1.grownBy w2 (some S)) (hN : N ≤ S) (hz : N ≤ w1.heap.size) : Below N w w2 :=
  h.grown hg hz (fun k hk => by simp at hk; omega)
theorem made_bytes (n : Nat) : (madeCells #[Value.int IntKind.u8 0] n).toList = (List.replicate n (0 : UInt8)).map bV := by
  rw [toList_madeCells_one, List.map_replicate]
  rfl

set_option maxHeartbeats 2000000 in
set_option maxRecDepth 100000 in
theorem drawSeal_any (w : World) (a : Option Addr) (len cap : Nat) (hl : len ≤ 1048576) (hb : Bytes w w.heap.size a len) :
    Calls Try.prog 11 #[.slice a len cap] w fun e w' => (∃ t : ByteArray, e = .returned (.string t) ∧ t.size ≤ 20000) ∧ Below w.heap.size w w' := by
  obtain ⟨i0, hi, hz0, hz1, hz2⟩ := info_parts Try.info5
  have H0 := shutG (source_any w a len cap hl hb)
  clear hb
  go_enter Try.func11, Try.ntmps11
  go_wp2_with fail
  refine H0.out.mono ?_
  rintro e w1 ⟨rfl, hb1, hs1⟩
  have hzz := hs1.lt
  have HB1 := shutG hb1
  have HS1 := shutG hs1
  clear hb1 hs1
  go_wp2_with fail
  refine (one_any w1 _ _ a len cap HS1.out 30 (by omega)).mono ?_
  rintro e w2 ⟨⟨v, rfl⟩, hg2, hs2⟩
  have HB2 := shutG (below_src HB1.out hg2 (Nat.le_refl _) (by omega))
  have HS2 := shutG hs2
  have hz2' := hs2.lt
  clear hg2 hs2
  cases v
  · go_wp2_with fail
    refine (n_any w2 _ _ a len cap HS2.out 20 (by omega)).mono ?_
    rintro e w3 ⟨⟨v, rfl, hv0, hv1⟩, hg3, hs3⟩
    have HB3 := shutG (below_src HB2.out hg3 (Nat.le_refl _) (by omega))
    have HS3 := shutG hs3
    have hz3 := hs3.lt
    clear hg3 hs3
    go_wp2_with fail
    refine (bytes_any w3 _ _ a len cap HS3.out v hv0 (by omega)).mono ?_
    rintro e w4 ⟨⟨t, rfl, ht⟩, hg4, hs4⟩
    have HB4 := shutG (below_src HB3.out hg4 (Nat.le_refl _) (by omega))
    have HT := shutG ht
    clear hg4 hs4 ht
    go_wp2
    go_ret
    exact ⟨⟨t, rfl, by have := HT.out; omega⟩, HB4.out⟩
  · go_wp2_with fail
    refine (n_any w2 _ _ a len cap HS2.out 3 (by omega)).mono ?_
    rintro e w3 ⟨⟨v, rfl, hv0, hv1⟩, hg3, hs3⟩
    have HB3 := shutG (below_src HB2.out hg3 (Nat.le_refl _) (by omega))
    have hz3 := hs3.lt
    clear hg3 hs3
    obtain ⟨m, rfl⟩ := Int.eq_ofNat_of_zero_le hv0
    go_wp2_with (at_make; refine wpList_make_full _ rfl (.tmp 10) (.tmp 10) 22 rfl w3.heap.size 5 i0 (.int .u8 0) 1 Try.underlying22 hi hz0 hz1 .i64 .i64 _ _ (19995 + m) rfl rfl (by omega) (by omega) ?b2 ?b3 ?b4 ?_)
    case b2 => rw [hz2]; omega
    case b3 => unfold maxLen; omega
    case b4 => exact Nat.le_refl _
    intro w4 hown hgrow
    have HB4 := shutG (HB3.out.grown hgrow (by omega) (by simp))
    rw [made_bytes] at hown
    have hlen : (List.replicate (19995 + m) (0 : UInt8)).length = 19995 + m := by simp
    generalize List.replicate (19995 + m) (0 : UInt8) = l at hown hlen
    obtain ⟨a', cap', hv, hconv⟩ := own_text hlen hown
    simp only [Value.slice.injEq] at hv
    obtain ⟨rfl, _, rfl⟩ := hv
    have HL := shutG hlen
    clear hown hgrow hlen
    go_wp2
    go_ret
    exact ⟨⟨_, rfl, by rw [str_size, HL.out]; omega⟩, HB4.out⟩

set_option maxHeartbeats 2000000 in
set_option maxRecDepth 100000 in
theorem lwAt_any (w : World) (B : Nat) (a : Option Addr) (len cap : Nat) (hl : len ≤ 1048576) (hb : Bytes w B a len) (j : Int) (hj : 0 ≤ j) (hj2 : j ≤ 1000) (most : Int) (hm : most < 9223372036854775808) :
    Calls Try.prog 14 #[.slice a len cap, .int .i64 j, .int .i64 most] w fun e w' => (∃ v : Int, e = .returned (.int .i64 v) ∧ 0 ≤ v ∧ (v < most ∨ v = 0)) ∧ w = w' := by
  obtain ⟨i, rfl⟩ := Int.eq_ofNat_of_zero_le hj
  by_cases h1 : most ≤ 1
  · go_enter Try.func14, Try.ntmps14
    go_wp2
    go_ret
    exact ⟨⟨0, rfl, by omega, Or.inr rfl⟩, rfl⟩
  · rcases hb with h0 | ⟨b, off, rfl, hbB, hc⟩
    · subst h0
      go_enter Try.func14, Try.ntmps14
      go_wp2
      go_ret
      exact ⟨⟨0, rfl, by omega, Or.inr rfl⟩, rfl⟩
    · by_cases h0 : len = 0
      · subst h0
        go_enter Try.func14, Try.ntmps14
        go_wp2
        go_ret
        exact ⟨⟨0, rfl, by omega, Or.inr rfl⟩, rfl⟩
      · have hp : 0 < len := by omega
        have hne : ((len : Int) == 0) = false := by simp; omega
        obtain ⟨x, hx, hcx⟩ := hc (i % len) (Nat.mod_lt _ hp)
        have hr1 : (0 : Int) ≤ (i : Int) % (len : Int) := Int.emod_nonneg _ (by omega)
        have hr2 : (i : Int) % (len : Int) < (len : Int) := Int.emod_lt_of_pos _ (by omega)
        clear hc
        go_enter Try.func14, Try.ntmps14
        go_wp2
        go_ret
        exact ⟨⟨_, rfl, Int.emod_nonneg _ (by omega), Or.inl (Int.emod_lt_of_pos _ (by omega))⟩, rfl⟩

theorem specCrc_w2 (s : ByteArray) (hs : s.size ≤ 8000) (w : World) :
    Calls Try.prog 26 #[.string s] w fun e w' => e = .returned (.int .i64 (crcN 0 s : Nat)) ∧ w = w' :=
  (specCrc_any s (by unfold maxLen; omega) w).mono fun _ _ h => ⟨by rw [h.1]; exact ret_int (moreN_in 0 s hs (by omega)), h.2.symm⟩

set_option maxHeartbeats 2000000 in
set_option maxRecDepth 100000 in
theorem drawCrcMore_any (w : World) (a : Option Addr) (len cap : Nat) (hl : len ≤ 1048576) (hb : Bytes w w.heap.size a len) :
    Calls Try.prog 16 #[.slice a len cap] w fun e w' => (∃ (c : Int) (u : ByteArray), e = .returned (.tuple #[.int .i64 c, .string u]) ∧ u.size ≤ 8) ∧ Below w.heap.size w w' := by
  have H0 := shutG (source_any w a len cap hl hb)
  clear hb
  go_enter Try.func16, Try.ntmps16
  go_wp2_with fail
  refine H0.out.mono ?_
  rintro e w1 ⟨rfl, hb1, hs1⟩
  have hzz := hs1.lt
  have HB1 := shutG hb1
  have HS1 := shutG hs1
  clear hb1 hs1
  go_wp2_with fail
  refine (n_any w1 _ _ a len cap HS1.out 9 (by omega)).mono ?_
  rintro e w2 ⟨⟨v, rfl, hv0, hv1⟩, hg2, hs2⟩
  have HB2 := shutG (below_src HB1.out hg2 (Nat.le_refl _) (by omega))
  have HS2 := shutG hs2
  have hz2' := hs2.lt
  clear hg2 hs2
  go_wp2_with fail
  refine (bytes_any w2 _ _ a len cap HS2.out v hv0 (by omega)).mono ?_
  rintro e w3 ⟨⟨t, rfl, ht⟩, hg3, hs3⟩
  have HB3 := shutG (below_src HB2.out hg3 (Nat.le_refl _) (by omega))
  have HS3 := shutG hs3
  have hz3 := hs3.lt
  have ht8 : t.size ≤ 8 := by omega
  clear hg3 hs3 ht hv1 hv0
  go_wp2_with fail
  refine (one_any w3 _ _ a len cap HS3.out 5 (by omega)).mono ?_
  rintro e w4 ⟨⟨b, rfl⟩, hg4, hs4⟩
  have HB4 := shutG (below_src HB3.out hg4 (Nat.le_refl _) (by omega))
  have HS4 := shutG hs4
  have hz4 := hs4.lt
  clear hg4 hs4
  cases b
  · go_wp2_with fail
    refine (n_any w4 _ _ a len cap HS4.out 9 (by omega)).mono ?_
    rintro e w5 ⟨⟨v2, rfl, hv0, hv1⟩, hg5, hs5⟩
    have HB5 := shutG (below_src HB4.out hg5 (Nat.le_refl _) (by omega))
    have HS5 := shutG hs5
    have hz5 := hs5.lt
    clear hg5 hs5
    go_wp2_with fail
    refine (bytes_any w5 _ _ a len cap HS5.out v2 hv0 (by omega)).mono ?_
    rintro e w6 ⟨⟨t2, rfl, ht2⟩, hg6, hs6⟩
    have HB6 := shutG (below_src HB5.out hg6 (Nat.le_refl _) (by omega))
    have ht28 : t2.size ≤ 8000 := by omega
    clear hg6 hs6 ht2
    go_wp2_with fail
    refine (specCrc_w2 t2 ht28 _).mono ?_
    rintro e w7 ⟨rfl, rfl⟩
    go_wp2
    go_ret2
    exact ⟨⟨_, t, rfl, ht8⟩, HB6.out⟩
  · go_wp2_with fail
    refine (edge_any w4 _ _ a len cap HS4.out).mono ?_
    rintro e w5 ⟨⟨v2, rfl, hv0, hv1⟩, hg5, hs5⟩
    have HB5 := shutG (below_src HB4.out hg5 (Nat.le_refl _) (by omega))
    clear hg5 hs5
    go_wp2
    go_ret2
    exact ⟨⟨v2, t, rfl, ht8⟩, HB5.out⟩
end Go.Proofs.Ytpdklkofflfjgaa
