/-
  The walk of the law FnNums.
-/
import Derived.Test.YtpdklkofflfjgaaDoorFnNums
namespace Go.Proofs.YtpdklkofflfjgaaDoor
open Go.RowKit

theorem run_code26 (w : World) (n b c : Int) : (Instr.field 26 (.agg #[.int .i64 n, .int .i64 b, .int .i64 c]) 2).run Tryd.prog w = .ok (.int .i64 c) w := by kernel_rfl
theorem run_code31 (w : World) (t : ByteArray) (b c : Int) : (Instr.field 31 (.agg #[.string t, .int .i64 b, .int .i64 c]) 2).run Tryd.prog w = .ok (.int .i64 c) w := by kernel_rfl
theorem slice_front (w : World) (s : ByteArray) (h : 1 ≤ s.size) : (Instr.slice 9 (.string s) none (some (.int .i64 ((s.size : Int) - 1))) none).run Tryd.prog w = .ok (.string (s.extract 0 (s.size - 1))) w := by
  rw [run_slice_string_to_if w 9 s .i64 _ Tryd.underlying9, if_pos (by omega)]
  have e : ((s.size : Int) - 1).toNat = s.size - 1 := by omega
  rw [e]

set_option maxHeartbeats 4000000 in
set_option maxRecDepth 100000 in
theorem walkFnNums_in (w : World) (a0 : Option Addr) (len0 cap0 : Nat) (a1 : Option Addr) (len1 cap1 : Nat) (hl0 : len0 ≤ 1048576) (hl1 : len1 ≤ 1048576) (hb0 : Bytes w w.heap.size a0 len0) (hb1 : Bytes w w.heap.size a1 len1) (hg : Et w) :
    Calls Tryd.prog 3 #[.slice a0 len0 cap0, .slice a1 len1 cap1] w fun e w' => e = .returned (.bool true) ∧ Below w.heap.size w w' := by
  have H0 := shutG hb0
  have H1 := shutG hb1
  have HG := shutG hg
  clear hb0 hb1 hg
  go_enter Tryd.func3, Tryd.ntmps3
  go_wp2_with fail
  refine (drawPutNum_any w a0 len0 cap0 hl0 H0.out).mono ?_
  rintro e w1 ⟨⟨n, rfl, hn1, hn2⟩, hb⟩
  have B1 := shutG hb
  clear hb
  go_wp2_with fail
  refine (implPutNum_any n hn1 hn2 _).mono ?_
  rintro e w2 ⟨rfl, hb⟩
  have B2 := shutG (B1.out.trans (hb.mono B1.out.size))
  clear hb
  go_wp2_with fail
  refine (specPutNum_any n hn1 hn2 _).mono ?_
  rintro e w3 ⟨rfl, hb⟩
  have B3 := shutG (B2.out.trans (hb.mono B2.out.size))
  clear hb
  have HN := shutG (getNum_back n hn1 hn2)
  have HC := shutG (getNum_cut (foldN n))
  have hz1 : 1 ≤ (str (encode (foldN n))).size := by rw [str_size]; exact (encode_len _).1
  have hz2 : (str (encode (foldN n))).size ≤ 10 := by rw [str_size]; exact (encode_len _).2
  generalize str (encode (foldN n)) = t at *
  have htt := toList_self t
  go_wp2_with fail
  refine (HN.out _ (HG.out.at B3.out)).mono ?_
  rintro e w4 ⟨rfl, hb⟩
  have B4 := shutG (B3.out.trans (hb.mono B3.out.size))
  clear hb HN
  unfold outN
  have hsl := fun W => slice_front W t hz1
  go_wp2_with fail
  refine (HC.out _ ((HG.out.at B4.out).at ((Below.refl _ _).alloc (Nat.le_refl _) _))).mono ?_
  rintro e w5 ⟨rfl, hb⟩
  have B5 := shutG ((B4.out.alloc B4.out.size _).trans (hb.mono (by have := B4.out.size; simp; omega)))
  clear hb HC
  unfold outN
  have hfc := run_code26 w5 0 0 4
  go_wp2_with fail
  refine (drawPutText_any _ a1 len1 cap1 hl1 (H1.out.at B5.out)).mono ?_
  rintro e w6 ⟨⟨u, rfl, hu⟩, hb⟩
  have B6 := shutG (B5.out.trans (hb.mono B5.out.size))
  clear hb hfc
  have hul : u.size ≤ maxLen := by unfold maxLen; omega
  go_wp2_with fail
  refine (implPutText_any u hul _).mono ?_
  rintro e w7 ⟨rfl, hb⟩
  have B7 := shutG (B6.out.trans (hb.mono B6.out.size))
  clear hb
  go_wp2_with fail
  refine (specPutText_any u hul _).mono ?_
  rintro e w8 ⟨rfl, hb⟩
  have B8 := shutG (B7.out.trans (hb.mono B7.out.size))
  clear hb
  by_cases hsmall : u.size ≤ 8000
  · have hps := put_size u hsmall
    have hpe := (encode_len (foldN u.data.toList.length)).1
    have hp1 : 1 ≤ (putTextB u).size := by omega
    have HB := shutG (getText_back u hsmall)
    have HK := shutG (getText_cut u hsmall)
    have hp2 : (putTextB u).size ≤ 8010 := by
      have h10 := (encode_len (foldN u.data.toList.length)).2
      have hus := size_str u
      omega
    clear hps hpe
    have hne : (putTextB u).toList.isEmpty = false := by
      rw [ByteArray.toList_eq]
      cases hq : (putTextB u).data.toList with
      | nil => rw [← size_str, hq] at hp1; simp at hp1
      | cons => rfl
    generalize putTextB u = p at *
    have hpp := toList_self p
    have huu := toList_self u
    by_cases hbig : 8000 < p.size + 1
    · go_wp2_with fail
      go_ret
      exact ⟨rfl, B8.out⟩
    · go_wp2_with fail
      refine (HB.out (by omega) _ (HG.out.at B8.out)).mono ?_
      rintro e w9 ⟨rfl, hb⟩
      have B9 := shutG (B8.out.trans (hb.mono B8.out.size))
      clear hb HB
      unfold outT
      have hsp := slice_front w9 p hp1
      go_wp2_with fail
      refine (HK.out (by omega) _ (HG.out.at B9.out)).mono ?_
      rintro e w10 ⟨⟨x, b, rfl⟩, hb⟩
      have BA := shutG (B9.out.trans (hb.mono B9.out.size))
      clear hb HK
      unfold outT
      have hfc := run_code31 w10 x b 4
      go_wp2
      go_ret
      exact ⟨rfl, BA.out⟩
  · rw [putTextB_out u hsmall]
    go_wp2_with fail
    refine (specPutText_any u hul _).mono ?_
    rintro e w9 ⟨rfl, hb⟩
    have B9 := shutG (B8.out.trans (hb.mono B8.out.size))
    clear hb
    rw [putTextB_out u hsmall]
    go_wp2
    go_ret
    exact ⟨rfl, B9.out⟩
end Go.Proofs.YtpdklkofflfjgaaDoor
