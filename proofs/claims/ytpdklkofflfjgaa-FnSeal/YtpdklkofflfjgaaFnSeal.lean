/-
  The walk of the law FnSeal.
-/
import Derived.Test.YtpdklkofflfjgaaDraws
import Derived.Test.YtpdklkofflfjgaaSealMath
import Derived.Laws.StructEq
namespace Go.Proofs.Ytpdklkofflfjgaa
open Go.RowKit

theorem Bytes.mono {w : World} {B B' : Nat} {a : Option Addr} {len : Nat} (h : Bytes w B a len) (hB : B ≤ B') : Bytes w B' a len := by
  rcases h with h | ⟨b, off, rfl, hb, hc⟩
  · exact Or.inl h
  · exact Or.inr ⟨b, off, rfl, by omega, hc⟩
theorem Bytes.at {w w1 : World} {a : Option Addr} {len : Nat} (h : Bytes w w.heap.size a len) (hb : Below w.heap.size w w1) : Bytes w1 w1.heap.size a len :=
  (h.below hb).mono hb.size

/-- Block N holds the bytes l, and they may be written. -/
def Hold (w : World) (N : Nat) (l : List UInt8) : Prop := ∀ j (h : j < l.length), w.cell? ⟨N, j, none⟩ = some (bV l[j]) ∧ w.frozen? ⟨N, j, none⟩ = false
theorem Hold.back {w : World} {N cap n : Nat} {l : List UInt8} (h : Hold w N l) (hn : l.length = n) : (convert 22 9 (.slice (some ⟨N, 0, none⟩) n cap)).run Try.prog w = .ok (.string (str l)) w := by
  subst hn
  refine run_convert_bytes_back w 22 9 5 ⟨N, 0, none⟩ cap l Try.underlying22 Try.underlying5 Try.underlying9 ?_
  intro j hj
  rw [addr_add]
  exact (h j hj).1
theorem Hold.below {w w' : World} {N : Nat} {l : List UInt8} (h : Hold w N l) (hN : N < w.heap.size) (hb : Below w.heap.size w w') : Hold w' N l := fun j hj =>
  ⟨by rw [hb.cell (p := ⟨N, j, none⟩) hN]; exact (h j hj).1, by rw [hb.frozen (p := ⟨N, j, none⟩) hN]; exact (h j hj).2⟩
theorem Hold.put {w : World} {N m : Nat} {l : List UInt8} (h : Hold w N l) (y : UInt8) (hm : m < l.length) : Hold (w.setCell ⟨N, m, none⟩ (bV y)) N (l.set m y) := by
  intro j hj
  have hj' : j < l.length := by simpa using hj
  refine ⟨?_, ?_⟩
  · by_cases e : m = j
    · subst e
      rw [World.cell?_setCell_same _ _ _ (h m hm).1, List.getElem_set_self]
    · rw [World.cell?_setCell_other _ _ _ _ (by simp), (h j hj').1, List.getElem_set_ne e]
  · rw [World.frozen?_setCell]
    exact (h j hj').2
theorem toBytes (w : World) (l : List UInt8) (n : Nat) (hn : l.length = n) : ∃ cap W, (convert 9 22 (.string (str l))).run Try.prog w = .ok (.slice (some ⟨w.heap.size, 0, none⟩) n cap) W ∧ Hold W w.heap.size l ∧ Below w.heap.size w W ∧ w.heap.size < W.heap.size := by
  subst hn
  have h := run_bytes_of_string (P := Try.prog) w 9 22 5 (str l) Try.underlying9 Try.underlying22 Try.underlying5
  rw [str_size] at h
  refine ⟨_, _, h, ?_, ((Below.refl _ _).drew).alloc (Nat.le_refl _) _, by simp⟩
  intro j hj
  have hc := World.cell?_alloc_mark w.drew (bytesRow (str l) (grownCap w l.length 0 5)) 5 ((bytesRow (str l) (grownCap w l.length 0 5)).size, (bytesRow (str l) (grownCap w l.length 0 5)).size + 1) j
  have hf := World.frozen?_alloc_mark w.drew (bytesRow (str l) (grownCap w l.length 0 5)) 5 (bytesRow (str l) (grownCap w l.length 0 5)).size ((bytesRow (str l) (grownCap w l.length 0 5)).size + 1) j
  have hd : w.drew.heap.size = w.heap.size := rfl
  rw [hd] at hc hf
  have hjd : j < (str l).data.size := by simpa [str] using hj
  refine ⟨?_, ?_⟩
  · rw [hc, bytesRow_at (str l) _ j hjd]
    simp [str, bV]
  · rw [hf]
    have hz : (bytesRow (str l) (grownCap w l.length 0 5)).size = l.length + (grownCap w l.length 0 5 - (str l).size) := by simp [bytesRow, str]
    have : ¬ (bytesRow (str l) (grownCap w l.length 0 5)).size ≤ j := by rw [hz]; omega
    simp [this]
theorem xor_byte (x : UInt8) (k : Nat) (hk : k < 255) : Value.int .u8 (bits .xor .u8 (x.toNat : Int) (1 + (k : Int))) = bV (UInt8.ofNat (x.toNat ^^^ (1 + k))) := by
  have h := u8_xor_nat x.toNat (1 + k) (UInt8.toNat_lt x) (by omega)
  have e : (1 + (k : Int)) = ((1 + k : Nat) : Int) := by omega
  rw [e, h]
  unfold bV
  rw [UInt8.toNat_ofNat', Nat.mod_eq_of_lt (Nat.xor_lt_two_pow (n := 8) (UInt8.toNat_lt x) (by omega))]

theorem moreN_join (t u : ByteArray) (h : t.size + u.size ≤ 8000) : moreN (moreN 0 t) u = moreN 0 (t ++ u) := by
  have h1 := moreN_in 0 t (by omega) (by omega)
  have h2 := moreN_in 0 (t ++ u) (by simp; omega) (by omega)
  have h3 := moreN_in (crcN 0 t) u (by omega) (crcN_lt (by omega) t)
  rw [show (0 : Int) = ((0 : Nat) : Int) from rfl, h1, h2, h3, crc_more]
theorem run_code (w : World) (s : ByteArray) (c : Int) : (Instr.field 27 (.agg #[.string s, .int .i64 0, .int .i64 c]) 2).run Try.prog w = .ok (.int .i64 c) w := by kernel_rfl
theorem wr_add (k : Nat) (hk : k < 255) : IntKind.u8.wrap (IntKind.i64.wrap (1 + (k : Int))) = 1 + (k : Int) := by
  rw [IntKind.wrap_i64, IntKind.wrap_u8]
  omega
theorem toList_self (t : ByteArray) : (t.toList == t.toList) = true := by simp

set_option maxHeartbeats 4000000 in
set_option maxRecDepth 100000 in
theorem walkFnSeal_in (w : World) (a0 : Option Addr) (len0 cap0 : Nat) (a1 : Option Addr) (len1 cap1 : Nat) (hl0 : len0 ≤ 1048576) (hl1 : len1 ≤ 1048576) (hb0 : Bytes w w.heap.size a0 len0) (hb1 : Bytes w w.heap.size a1 len1) :
    Calls Try.prog 3 #[.slice a0 len0 cap0, .slice a1 len1 cap1] w fun e w' => e = .returned (.bool true) ∧ Below w.heap.size w w' := by
  have H0 := shutG hb0
  have H1 := shutG hb1
  clear hb0 hb1
  go_enter Try.func3, Try.ntmps3
  go_wp2_with fail
  refine (drawSeal_any w a0 len0 cap0 hl0 H0.out).mono ?_
  rintro e w1 ⟨⟨t, rfl, ht⟩, hb1⟩
  have B1 := shutG hb1
  clear hb1
  go_wp2_with fail
  refine (implSeal_any t (by unfold maxLen; omega) _).mono ?_
  rintro e w2 ⟨rfl, hb2⟩
  have B2 := shutG (B1.out.trans (hb2.mono B1.out.size))
  clear hb2
  go_wp2_with fail
  refine (specSeal_any t (by unfold maxLen; omega) _).mono ?_
  rintro e w3 ⟨rfl, hb3⟩
  have B3 := shutG (B2.out.trans (hb3.mono B2.out.size))
  have hw3 := B3.out.size
  clear hb3
  by_cases hsmall : t.size ≤ 7996
  · have HU := shutG (unseal_seal t hsmall)
    rw [sealB_str t hsmall] at HU ⊢
    have HT := shutG (fun i y hi hy => unseal_turned t hsmall i y hi hy)
    have hll : (sealL t.data.toList).length = t.size + 4 := by rw [sealL_length]; rfl
    generalize sealL t.data.toList = L at HU HT hll ⊢
    have hn1 : 4 ≤ L.length := by omega
    have hn2 : L.length ≤ 8000 := by omega
    clear hll
    obtain ⟨cap, W, hcv, hold, hbW, hzW⟩ := toBytes w3 L L.length rfl
    have HO := shutG hold
    have BW := shutG (B3.out.trans (hbW.mono hw3))
    clear hold hbW
    have hss : (str L).size = L.length := str_size L
    have hne : (str L).toList.isEmpty = false := by
      rw [ByteArray.toList_eq, str_data]
      cases L with
      | nil => simp at hn1
      | cons => rfl
    have HSS := shutG hss
    clear hss
    generalize hsL : str L = s at *
    have HSL := shutG hsL
    clear hsL
    go_wp2_with fail
    refine (lwAt_any W W.heap.size a1 len1 cap1 hl1 (H1.out.at BW.out) 0 (by omega) (by omega) L.length (by omega)).mono ?_
    rintro e w4 ⟨⟨v0, rfl, hv0, hv1⟩, rfl⟩
    obtain ⟨m, rfl⟩ := Int.eq_ofNat_of_zero_le hv0
    have hm : m < L.length := by omega
    have hmi : (m : Int) < (L.length : Int) := by omega
    obtain ⟨hcm, hfm⟩ := HO.out m hm
    unfold bV at hcm
    go_wp2
    have HB := shutG (lwAt_any W.drew W.heap.size a1 len1 cap1 hl1 (H1.out.at BW.out.drew) 1 (by omega) (by omega) 255 (by omega))
    go_region_with (go_at_call 14; refine (HB.out).mono ?_; rintro e w5 ⟨⟨v1, rfl, hv2, hv3⟩, rfl⟩)
    all_goals (
      obtain ⟨k, rfl⟩ := Int.eq_ofNat_of_zero_le hv2
      have hk : k < 255 := by omega
      have hwr : IntKind.u8.wrap (IntKind.i64.wrap (1 + (k : Int))) = 1 + (k : Int) := wr_add k hk
      have hxb := xor_byte L[m] k hk
      rw [hwr, hxb]
      have HP := shutG (show Hold (W.setCell ⟨w3.heap.size, m, none⟩ (bV (UInt8.ofNat (L[m].toNat ^^^ (1 + k))))).drew w3.heap.size (L.set m (UInt8.ofNat (L[m].toNat ^^^ (1 + k)))) from HO.out.put _ hm)
      have BX := shutG (show Below w.heap.size w (W.setCell ⟨w3.heap.size, m, none⟩ (bV (UInt8.ofNat (L[m].toNat ^^^ (1 + k))))).drew from (BW.out.setCell hw3 _).drew)
      have hX : w3.heap.size < (W.setCell ⟨w3.heap.size, m, none⟩ (bV (UInt8.ofNat (L[m].toNat ^^^ (1 + k))))).drew.heap.size := by simpa [World.setCell] using hzW
      have HTm := shutG (HT.out m _ hm (xor_turns L[m] (1 + k) (by omega) (by omega)))
      generalize UInt8.ofNat (L[m].toNat ^^^ (1 + k)) = y at *
      have hlM : (L.set m y).length = L.length := by simp
      generalize L.set m y = M at *
      have HLM := shutG hlM
      clear hlM
      generalize (W.setCell ⟨w3.heap.size, m, none⟩ (bV y)).drew = X at *
      clear HO hcm hfm HB HT hxb hwr hcv BW hzW
      go_wp2_with fail
      refine (implUnseal_any s (by have := HSS.out; unfold maxLen; omega) _).mono ?_
      rintro e x1 ⟨rfl, hb⟩
      have BY := shutG (BX.out.trans (hb.mono BX.out.size))
      have HP1 := shutG (HP.out.below hX hb)
      clear hb
      rw [HU.out.1, HU.out.2]
      unfold outV
      have hcb := HP1.out.back (cap := cap) (HLM.out)
      have htt := toList_self t
      go_wp2_with fail
      refine (implUnseal_any (str M) (by rw [str_size]; have := HLM.out; unfold maxLen; omega) _).mono ?_
      rintro e x2 ⟨rfl, hb⟩
      have BZ := shutG (BY.out.trans (hb.mono BY.out.size))
      clear hb hcb
      rw [HTm.out]
      unfold outV
      have hfc := run_code x2 (unS (str M)) 5
      go_wp2_with fail
      refine (drawCrcMore_any _ a1 len1 cap1 hl1 (H1.out.at BZ.out)).mono ?_
      rintro e w6 ⟨⟨c, u, rfl, hu⟩, hb6⟩
      have B6 := shutG (BZ.out.trans (hb6.mono BZ.out.size))
      clear hb6
      by_cases hbig : 8000 < t.size + u.size
      · go_wp2_with fail
        go_ret
        exact ⟨rfl, B6.out⟩
      · have hj := moreN_join t u (by omega)
        go_wp2_with fail
        refine (implMore_any c u (by unfold maxLen; omega) _).mono ?_
        rintro e w7 ⟨rfl, rfl⟩
        go_wp2_with fail
        refine (specMore_any c u (by unfold maxLen; omega) _).mono ?_
        rintro e w8 ⟨rfl, rfl⟩
        go_wp2_with fail
        refine (implCrc_any t (by unfold maxLen; omega) _).mono ?_
        rintro e w9 ⟨rfl, rfl⟩
        go_wp2_with fail
        refine (implMore_any _ u (by unfold maxLen; omega) _).mono ?_
        rintro e w10 ⟨rfl, rfl⟩
        go_wp2_with fail
        refine (implCrc_any (t ++ u) (by simp; unfold maxLen; omega) _).mono ?_
        rintro e w11 ⟨rfl, rfl⟩
        go_wp2
        go_ret
        exact ⟨rfl, B6.out⟩)
  · rw [sealB_out t hsmall]
    go_wp2_with fail
    refine (drawCrcMore_any _ a1 len1 cap1 hl1 (H1.out.at B3.out)).mono ?_
    rintro e w6 ⟨⟨c, u, rfl, hu⟩, hb6⟩
    have B6 := shutG (B3.out.trans (hb6.mono B3.out.size))
    clear hb6
    by_cases hbig : 8000 < t.size + u.size
    · go_wp2_with fail
      go_ret
      exact ⟨rfl, B6.out⟩
    · have hj := moreN_join t u (by omega)
      go_wp2_with fail
      refine (implMore_any c u (by unfold maxLen; omega) _).mono ?_
      rintro e w7 ⟨rfl, rfl⟩
      go_wp2_with fail
      refine (specMore_any c u (by unfold maxLen; omega) _).mono ?_
      rintro e w8 ⟨rfl, rfl⟩
      go_wp2_with fail
      refine (implCrc_any t (by unfold maxLen; omega) _).mono ?_
      rintro e w9 ⟨rfl, rfl⟩
      go_wp2_with fail
      refine (implMore_any _ u (by unfold maxLen; omega) _).mono ?_
      rintro e w10 ⟨rfl, rfl⟩
      go_wp2_with fail
      refine (implCrc_any (t ++ u) (by simp; unfold maxLen; omega) _).mono ?_
      rintro e w11 ⟨rfl, rfl⟩
      go_wp2
      go_ret
      exact ⟨rfl, B6.out⟩
end Go.Proofs.Ytpdklkofflfjgaa
