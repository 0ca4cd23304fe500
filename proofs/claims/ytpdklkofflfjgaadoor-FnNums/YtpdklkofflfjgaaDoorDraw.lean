/-
  The source's other methods, by their contracts.
-/
import Derived.Test.YtpdklkofflfjgaaDoorSrc
namespace Go.Proofs.YtpdklkofflfjgaaDoor
open Go.RowKit

set_option maxHeartbeats 1000000 in
theorem n_any (w : World) (B S : Nat) (a : Option Addr) (len cap : Nat) (h : SrcOk w B S a len cap) (most : Int) (hm2 : most < 9223372036854775808) :
    Calls Tryd.prog 25 #[.pointer (some ⟨S, 0, none⟩), .int .i64 most] w fun e w' => (∃ v : Int, e = .returned (.int .i64 v) ∧ 0 ≤ v ∧ (v < most ∨ v = 0)) ∧ w.grownBy w' (some S) ∧ SrcOk w' B S a len cap := by
  by_cases hm : 1 < most
  · obtain ⟨hB, hby, hl, p, M, z, hs, hp, hM⟩ := h
    refine (n_core w S a len cap p M z hs hl hp ?_ most hm hm2).mono ?_
    · intro hlt
      rcases hby with h0 | ⟨b, off, rfl, hb, hc⟩
      · omega
      · obtain ⟨x, hx, hcx⟩ := hc p hlt
        exact ⟨b, off, x, rfl, by omega, hx, hcx⟩
    · rintro e w' ⟨⟨v, rfl, h0, h1⟩, hg, p', M', hs', hp', hM'⟩
      exact ⟨⟨v, rfl, h0, Or.inl h1⟩, hg, hB, hby.kept hB hg, hl, p', M', z, hs', hp', hM'⟩
  · have HS := shutG h
    clear h
    go_enter Tryd.func25, Tryd.ntmps25
    go_wp2
    go_ret
    exact ⟨⟨0, rfl, by omega, Or.inr rfl⟩, grown_refl _ _, HS.out⟩

set_option maxHeartbeats 1000000 in
theorem one_any (w : World) (B S : Nat) (a : Option Addr) (len cap : Nat) (h : SrcOk w B S a len cap) (most : Int) (hm2 : most < 9223372036854775808) :
    Calls Tryd.prog 24 #[.pointer (some ⟨S, 0, none⟩), .int .i64 most] w fun e w' => (∃ v : Bool, e = .returned (.bool v)) ∧ w.grownBy w' (some S) ∧ SrcOk w' B S a len cap := by
  have HN := shutG (n_any w B S a len cap h most hm2)
  clear h
  go_enter Tryd.func24, Tryd.ntmps24
  go_wp2_with fail
  refine HN.out.mono ?_
  rintro e w' ⟨⟨v, rfl, _, _⟩, hg, hs⟩
  have HG := shutG hg
  have HS := shutG hs
  clear hg hs
  go_wp2
  go_ret
  exact ⟨⟨_, rfl⟩, HG.out, HS.out⟩

theorem own_text {w : World} {B : Nat} {v : Value} {n : Nat} {l : List UInt8} (hl : l.length = n) (h : w.ownsRow B 5 1 v n (l.map bV)) :
    ∃ a cap, v = .slice a n cap ∧ (convert 22 9 (.slice a n cap)).run Tryd.prog w = .ok (.string (str l)) w := by
  by_cases hn : 0 < n
  · obtain ⟨g, cap, hv, hc⟩ := own_string hl hn h
    exact ⟨_, cap, hv, hc⟩
  · obtain rfl : n = 0 := by omega
    obtain rfl : l = [] := List.eq_nil_of_length_eq_zero hl
    rcases h.2 with ⟨rfl, _⟩ | ⟨g, cap, cur, rfl, _⟩
    · exact ⟨none, 0, rfl, run_convert_bytes_nil w 22 5 Tryd.underlying22 Tryd.underlying5 0 0 9 Tryd.underlying9⟩
    · exact ⟨_, cap, rfl, run_convert_bytes_back w 22 9 5 ⟨g, 0, none⟩ cap [] Tryd.underlying22 Tryd.underlying5 Tryd.underlying9 (fun j hj => by simp at hj)⟩
theorem SrcOk.lt {w : World} {B S : Nat} {a : Option Addr} {len cap : Nat} (h : SrcOk w B S a len cap) : S < w.heap.size := by
  obtain ⟨_, _, _, p, M, z, hs, _⟩ := h
  exact (Array.getElem?_eq_some_iff.1 hs).1
/-- New blocks, and writes to blocks that are new, turn no source. -/
theorem SrcOk.past {w w' : World} {B S N : Nat} {a : Option Addr} {len cap : Nat} (h : SrcOk w B S a len cap) (hN : S < N) (hb : ∀ k, k < N → w'.heap[k]? = w.heap[k]?) : SrcOk w' B S a len cap := by
  obtain ⟨hB, hby, hl, p, M, z, hs, hp, hM⟩ := h
  refine ⟨hB, ?_, hl, p, M, z, ?_, hp, hM⟩
  · rcases hby with h0 | ⟨b, off, rfl, hbB, hc⟩
    · exact Or.inl h0
    · refine Or.inr ⟨b, off, rfl, hbB, fun i hi => ?_⟩
      obtain ⟨x, hx, hcx⟩ := hc i hi
      exact ⟨x, hx, by rw [World.cell?_of_block (w := w) (hb b (by omega))]; exact hcx⟩
  · unfold SrcAt
    rw [hb S hN]
    exact hs
/-- A round of gathering: behind n, a new block, and an append. -/
theorem gather_step {w wr w2 w1 : World} {B S : Nat} {a : Option Addr} {len cap : Nat} {v v' x : Value} {o : Obj} {p : List UInt8} {b : UInt8} (hx : bV b = x) (hS : S < w.heap.size)
    (hg : w.grownBy wr (some S)) (hg2 : wr.grownBy w2 (some S)) (hs2 : SrcOk w2 B S a len cap) (hown : w2.ownsRow w.heap.size 5 1 v p.length (p.map bV))
    (hown' : w1.ownsRow w.heap.size 5 1 v' (p.length + 1) (p.map bV ++ [x])) (hgrow : (w2.alloc o).grownBy w1 v.ownBlock) :
    w1.ownsRow w.heap.size 5 1 v' (p ++ [b]).length ((p ++ [b]).map bV) ∧ w.grownBy w1 (some S) ∧ SrcOk w1 B S a len cap := by
  have hz : w.heap.size ≤ w2.heap.size := Nat.le_trans hg.size hg2.size
  have hblk : ∀ k, k < w.heap.size → w1.heap[k]? = w2.heap[k]? := fun k hk =>
    (hgrow.block k (by simp; omega) (fun e => by have := (hown.lt k e.symm).1; omega)).trans (Below.heap_alloc _ _ _ (by omega))
  have hg3 := grown_trans hg hg2
  refine ⟨by rw [← hx] at hown'; simpa using hown', ⟨hgrow.os.trans hg3.os, hgrow.tape.trans hg3.tape, hgrow.output.trans hg3.output, ?_, fun k hk hne => (hblk k hk).trans (hg3.block k hk hne)⟩, hs2.past hS hblk⟩
  have := hgrow.size
  simp at this
  omega
theorem own_kept {wr w2 : World} {S N : Nat} {v : Value} {n : Nat} {xs : List Value} (hown : wr.ownsRow N 5 1 v n xs) (hS : S < N) (hg2 : wr.grownBy w2 (some S)) : w2.ownsRow N 5 1 v n xs :=
  hown.kept hg2 (by
    cases hv : v.ownBlock with
    | none => exact Or.inl rfl
    | some k => exact Or.inr (fun e => by have := (hown.lt k hv).1; simp at e; omega))
theorem bV_int (v : Int) (h0 : 0 ≤ v) (h1 : v < 256) : bV (UInt8.ofNat v.toNat) = .int .u8 v := by
  unfold bV
  rw [UInt8.toNat_ofNat']
  congr 1
  omega

set_option maxHeartbeats 2000000 in
set_option maxRecDepth 100000 in
theorem bytes_any (w : World) (B S : Nat) (a : Option Addr) (len cap : Nat) (h : SrcOk w B S a len cap) (n : Int) (h0 : 0 ≤ n) (hn : n ≤ 1000) :
    Calls Tryd.prog 26 #[.pointer (some ⟨S, 0, none⟩), .int .i64 n] w fun e w' => (∃ s : ByteArray, e = .returned (.string s) ∧ (s.size : Int) = n) ∧ w.grownBy w' (some S) ∧ SrcOk w' B S a len cap := by
  obtain ⟨i0, hi, hz0, hz1, hz2⟩ := info_parts Tryd.info5
  have hS := h.lt
  have HS := shutG h
  clear h
  go_enter Tryd.func26, Tryd.ntmps26
  go_wp2
  go_loopw [5, 6] (fun v i wr => ∃ p : List UInt8, i = .int .i64 p.length ∧ (p.length : Int) ≤ n ∧ wr.ownsRow w.heap.size 5 1 v p.length (p.map bV) ∧ w.grownBy wr (some S) ∧ SrcOk wr B S a len cap) (fun _ i _ => n.toNat - (intOf i).toNat)
  case atStart =>
    refine ⟨[], rfl, by simpa using h0, World.ownsRow_lit _ #[] 0 (Nat.le_refl _) (Nat.zero_le _) rfl, World.grownBy_alloc w _ _, HS.out.past hS (fun k hk => Below.heap_alloc _ _ _ hk)⟩
  case round =>
    obtain ⟨p, rfl, hpn, hown, hg, hs⟩ := hrel
    have HG := shutG hg
    have HSr := shutG hs
    have HO := shutG hown
    have hzr := hg.size
    clear hg hs hown
    by_cases hlt : (p.length : Int) < n
    · go_wp2_with fail
      refine (n_any wr B S a len cap HSr.out 256 (by omega)).mono ?_
      rintro e w2 ⟨⟨v0, rfl, hv0, hv1⟩, hg2, hs2⟩
      have hv2 : v0 < 256 := by omega
      have hown2 := own_kept HO.out hS hg2
      have hz2' := hg2.size
      have HG2 := shutG hg2
      have HS2 := shutG hs2
      clear hg2 hs2 hv1
      go_wp2_with (at_builtin; refine wpList_append_own _ rfl _ _ 22 rfl w.heap.size 5 i0 (.int .u8 0) 1 1 Tryd.underlying22 hi hz0 hz1 hz2 rfl (by decide) _ _ _ rfl (hown2.alloc _) ⟨w2.heap.size, 0, none⟩ 1 1 [.int .u8 v0] rfl rfl ?c1 ?c2 ?c3 ?c4 ?c5 ?_)
      case c1 =>
        intro j u hj
        match j, hj with
        | 0, hj => simp at hj; subst hj; simp [Addr.add]
      case c2 => intro u hu; simp at hu; subst hu; rfl
      case c3 => unfold maxLen; omega
      case c4 => omega
      case c5 => simp; omega
      intro v' w1 hown' hgrow _
      have R := gather_step (bV_int v0 hv0 hv2) hS HG.out HG2.out HS2.out hown2 hown' hgrow
      clear hown' hgrow hown2
      go_wp2
      go_roundw
      case rel => exact ⟨_, by simp, by simp; omega, R.1, R.2.1, R.2.2⟩
      case measure => simp [intOf]; omega
    · obtain ⟨a', cap', hv, hconv⟩ := own_text rfl HO.out
      subst hv
      go_wp2
      go_ret
      exact ⟨⟨_, rfl, by rw [str_size]; omega⟩, HG.out, HSr.out⟩

set_option maxHeartbeats 2000000 in
set_option maxRecDepth 100000 in
theorem edge_any (w : World) (B S : Nat) (a : Option Addr) (len cap : Nat) (h : SrcOk w B S a len cap) :
    Calls Tryd.prog 30 #[.pointer (some ⟨S, 0, none⟩)] w fun e w' => (∃ v : Int, e = .returned (.int .i64 v) ∧ -9223372036854775808 ≤ v ∧ v ≤ 9223372036854775807) ∧ w.grownBy w' (some S) ∧ SrcOk w' B S a len cap := by
  have hS := h.lt
  have HS := shutG h
  clear h
  go_enter Tryd.func30, Tryd.ntmps30
  go_wp2_with fail
  refine (n_any _ B S a len cap (HS.out.past hS (fun k hk => Below.heap_alloc _ _ _ hk)) 14 (by omega)).mono ?_
  rintro e w2 ⟨⟨v0, rfl, hv0, hv1⟩, hg2, hs2⟩
  obtain ⟨m, rfl⟩ := Int.eq_ofNat_of_zero_le hv0
  have hm : m < 14 := by omega
  have hcell : ∃ x : Int, -9223372036854775808 ≤ x ∧ x ≤ 9223372036854775807 ∧ w2.cell? ⟨w.heap.size, m, none⟩ = some (.int .i64 x) := by
    have hb := hg2.block w.heap.size (by simp) (by intro e; simp at e; omega)
    rw [heap_alloc_new] at hb
    have hc := cell_of_row w2 w.heap.size m _ _ _ hb
    rw [hc]
    match m, hm with
    | 0, _ => exact ⟨_, by decide, by decide, rfl⟩
    | 1, _ => exact ⟨_, by decide, by decide, rfl⟩
    | 2, _ => exact ⟨_, by decide, by decide, rfl⟩
    | 3, _ => exact ⟨_, by decide, by decide, rfl⟩
    | 4, _ => exact ⟨_, by decide, by decide, rfl⟩
    | 5, _ => exact ⟨_, by decide, by decide, rfl⟩
    | 6, _ => exact ⟨_, by decide, by decide, rfl⟩
    | 7, _ => exact ⟨_, by decide, by decide, rfl⟩
    | 8, _ => exact ⟨_, by decide, by decide, rfl⟩
    | 9, _ => exact ⟨_, by decide, by decide, rfl⟩
    | 10, _ => exact ⟨_, by decide, by decide, rfl⟩
    | 11, _ => exact ⟨_, by decide, by decide, rfl⟩
    | 12, _ => exact ⟨_, by decide, by decide, rfl⟩
    | 13, _ => exact ⟨_, by decide, by decide, rfl⟩
  obtain ⟨x, hx0, hx1, hcx⟩ := hcell
  have HG : Hid (w.grownBy w2 (some S)) := grown_trans (World.grownBy_alloc w _ _) hg2
  have HS2 := shutG hs2
  clear hg2 hs2 hv0 hv1
  go_wp2
  go_ret
  exact ⟨⟨x, rfl, hx0, hx1⟩, HG.out, HS2.out⟩
end Go.Proofs.YtpdklkofflfjgaaDoor
