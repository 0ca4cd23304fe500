/-
  DrawPutNum and DrawPutText by their contracts: what is drawn is small; nothing that was there is turned.
-/
import Derived.Test.YtpdklkofflfjgaaDoorSource
namespace Go.Proofs.YtpdklkofflfjgaaDoor
open Go.RowKit

theorem below_src {N S : Nat} {w w1 w2 : World} (h : Below N w w1) (hg : w1.grownBy w2 (some S)) (hN : N ≤ S) (hz : N ≤ w1.heap.size) : Below N w w2 :=
  h.grown hg hz (fun k hk => by simp at hk; omega)
theorem made_bytes (n : Nat) : (madeCells #[Value.int IntKind.u8 0] n).toList = (List.replicate n (0 : UInt8)).map bV := by
  rw [toList_madeCells_one, List.map_replicate]
  rfl

set_option maxHeartbeats 2000000 in
set_option maxRecDepth 100000 in
theorem any_any (w : World) (B S : Nat) (a : Option Addr) (len cap : Nat) (h : SrcOk w B S a len cap) :
    Calls Tryd.prog 19 #[.pointer (some ⟨S, 0, none⟩)] w fun e w' => (∃ v : Int, e = .returned (.int .i64 v) ∧ -9223372036854775808 ≤ v ∧ v ≤ 9223372036854775807) ∧ w.grownBy w' (some S) ∧ SrcOk w' B S a len cap := by
  have HS := shutG h
  clear h
  go_enter Tryd.func19, Tryd.ntmps19
  go_wp2_with fail
  refine (one_any w B S a len cap HS.out 4 (by omega)).mono ?_
  rintro e w1 ⟨⟨v, rfl⟩, hg1, hs1⟩
  have HG1 := shutG hg1
  have HS1 := shutG hs1
  clear hg1 hs1
  cases v
  · go_wp2_with fail
    refine (n_any w1 B S a len cap HS1.out 1099511627776 (by omega)).mono ?_
    rintro e w2 ⟨⟨v, rfl, hv0, hv1⟩, hg2, hs2⟩
    have HG2 := shutG (grown_trans HG1.out hg2)
    have HS2 := shutG hs2
    clear hg2 hs2
    have hv2 : v < 1099511627776 := by omega
    clear hv1
    go_wp2
    go_ret
    exact ⟨⟨_, rfl, by omega, by omega⟩, HG2.out, HS2.out⟩
  · go_wp2_with fail
    refine (edge_any w1 B S a len cap HS1.out).mono ?_
    rintro e w2 ⟨⟨v, rfl, hv0, hv1⟩, hg2, hs2⟩
    have HG2 := shutG (grown_trans HG1.out hg2)
    have HS2 := shutG hs2
    clear hg2 hs2
    go_wp2
    go_ret
    exact ⟨⟨_, rfl, hv0, hv1⟩, HG2.out, HS2.out⟩

set_option maxHeartbeats 2000000 in
set_option maxRecDepth 100000 in
theorem drawPutNum_any (w : World) (a : Option Addr) (len cap : Nat) (hl : len ≤ 1048576) (hb : Bytes w w.heap.size a len) :
    Calls Tryd.prog 6 #[.slice a len cap] w fun e w' => (∃ v : Int, e = .returned (.int .i64 v) ∧ -9223372036854775808 ≤ v ∧ v ≤ 9223372036854775807) ∧ Below w.heap.size w w' := by
  have H0 := shutG (source_any w a len cap hl hb)
  clear hb
  go_enter Tryd.func6, Tryd.ntmps6
  go_wp2_with fail
  refine H0.out.mono ?_
  rintro e w1 ⟨rfl, hb1, hs1⟩
  have hzz := hs1.lt
  have HB1 := shutG hb1
  have HS1 := shutG hs1
  clear hb1 hs1
  go_wp2_with fail
  refine (any_any w1 _ _ a len cap HS1.out).mono ?_
  rintro e w2 ⟨⟨v, rfl, hv0, hv1⟩, hg2, hs2⟩
  have HB2 := shutG (below_src HB1.out hg2 (Nat.le_refl _) (by omega))
  clear hg2 hs2
  go_wp2
  go_ret
  exact ⟨⟨_, rfl, hv0, hv1⟩, HB2.out⟩

set_option maxHeartbeats 2000000 in
set_option maxRecDepth 100000 in
theorem drawPutText_any (w : World) (a : Option Addr) (len cap : Nat) (hl : len ≤ 1048576) (hb : Bytes w w.heap.size a len) :
    Calls Tryd.prog 10 #[.slice a len cap] w fun e w' => (∃ t : ByteArray, e = .returned (.string t) ∧ t.size ≤ 20001) ∧ Below w.heap.size w w' := by
  obtain ⟨i0, hi, hz0, hz1, hz2⟩ := info_parts Tryd.info5
  have H0 := shutG (source_any w a len cap hl hb)
  clear hb
  go_enter Tryd.func10, Tryd.ntmps10
  go_wp2_with fail
  refine H0.out.mono ?_
  rintro e w1 ⟨rfl, hb1, hs1⟩
  have hzz := hs1.lt
  have HB1 := shutG hb1
  have HS1 := shutG hs1
  clear hb1 hs1
  go_wp2_with fail
  refine (one_any w1 _ _ a len cap HS1.out 8 (by omega)).mono ?_
  rintro e w2 ⟨⟨v, rfl⟩, hg2, hs2⟩
  have HB2 := shutG (below_src HB1.out hg2 (Nat.le_refl _) (by omega))
  have HS2 := shutG hs2
  have hz2' := hs2.lt
  clear hg2 hs2
  cases v
  · go_wp2_with fail
    refine (n_any w2 _ _ a len cap HS2.out 20 (by omega)).mono ?_
    rintro e w3 ⟨⟨v, rfl, hv0, hv1⟩, hg3, hs3⟩
    have HB3 := shutG (below_src HB2.out hg3 (Nat.le_refl _) (by omega))
    have HS3 := shutG hs3
    have hz3 := hs3.lt
    clear hg3 hs3
    go_wp2_with fail
    refine (bytes_any w3 _ _ a len cap HS3.out v hv0 (by omega)).mono ?_
    rintro e w4 ⟨⟨t, rfl, ht⟩, hg4, hs4⟩
    have HB4 := shutG (below_src HB3.out hg4 (Nat.le_refl _) (by omega))
    have HT := shutG ht
    clear hg4 hs4 ht
    go_wp2
    go_ret
    exact ⟨⟨t, rfl, by have := HT.out; omega⟩, HB4.out⟩
  · go_wp2_with fail
    refine (n_any w2 _ _ a len cap HS2.out 3 (by omega)).mono ?_
    rintro e w3 ⟨⟨v, rfl, hv0, hv1⟩, hg3, hs3⟩
    have HB3 := shutG (below_src HB2.out hg3 (Nat.le_refl _) (by omega))
    have hz3 := hs3.lt
    clear hg3 hs3
    obtain ⟨m, rfl⟩ := Int.eq_ofNat_of_zero_le hv0
    go_wp2_with (at_make; refine wpList_make_full _ rfl (.tmp 10) (.tmp 10) 22 rfl w3.heap.size 5 i0 (.int .u8 0) 1 Tryd.underlying22 hi hz0 hz1 .i64 .i64 _ _ (19999 + m) rfl rfl (by omega) (by omega) ?b2 ?b3 ?b4 ?_)
    case b2 => rw [hz2]; omega
    case b3 => unfold maxLen; omega
    case b4 => exact Nat.le_refl _
    intro w4 hown hgrow
    have HB4 := shutG (HB3.out.grown hgrow (by omega) (by simp))
    rw [made_bytes] at hown
    have hlen : (List.replicate (19999 + m) (0 : UInt8)).length = 19999 + m := by simp
    generalize List.replicate (19999 + m) (0 : UInt8) = l at hown hlen
    obtain ⟨a', cap', hv, hconv⟩ := own_text hlen hown
    simp only [Value.slice.injEq] at hv
    obtain ⟨rfl, _, rfl⟩ := hv
    have HL := shutG hlen
    clear hown hgrow hlen
    go_wp2
    go_ret
    exact ⟨⟨_, rfl, by rw [str_size, HL.out]; omega⟩, HB4.out⟩
end Go.Proofs.YtpdklkofflfjgaaDoor
