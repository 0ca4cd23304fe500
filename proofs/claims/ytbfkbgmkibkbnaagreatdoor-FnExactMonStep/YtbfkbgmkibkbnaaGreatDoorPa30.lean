/-
  The program's step prev, by its contract.
-/
import Derived.Test.YtbfkbgmkibkbnaaGreatDoorPa24
namespace Go.Proofs.YtbfkbgmkibkbnaaGreatDoor
open Go.RowKit
set_option linter.unusedVariables false
set_option linter.unusedSimpArgs false
theorem StBox.on {W W' : World} {q : Nat} {wf : Option Addr} {wn wc : Nat} {cnt now tm : Int} {na : Option Addr} {nn nc ab an ac i : Nat} {lo hi : Int} {a : Option Addr} {n c : Nat} {va : Bool} (h : StBox W q wf wn wc cnt now tm na nn nc ab an ac i lo hi a n c va) (hb : Below W.heap.size W W') : StBox W' q wf wn wc cnt now tm na nn nc ab an ac i lo hi a n c va :=
  ⟨Nat.lt_of_lt_of_le h.l0 hb.size, Nat.lt_of_lt_of_le h.l1 hb.size, Nat.lt_of_lt_of_le h.l2 hb.size, Nat.lt_of_lt_of_le h.l3 hb.size,
   (hb.cell (p := ⟨q, _, none⟩) h.l0).trans h.w0, (hb.cell (p := ⟨q, _, none⟩) h.l0).trans h.w1, (hb.cell (p := ⟨q, _, none⟩) h.l0).trans h.w2, (hb.cell (p := ⟨q, _, none⟩) h.l0).trans h.w3, (hb.cell (p := ⟨q, _, none⟩) h.l0).trans h.w4, (hb.cell (p := ⟨q, _, none⟩) h.l0).trans h.w5,
   (hb.cell (p := ⟨q + 1, _, none⟩) h.l1).trans h.x1, (hb.cell (p := ⟨q + 1 + 1, _, none⟩) h.l2).trans h.k0, (hb.cell (p := ⟨q + 1 + 1, _, none⟩) h.l2).trans h.k1, (hb.cell (p := ⟨q + 1 + 1, _, none⟩) h.l2).trans h.k2,
   (hb.cell (p := ⟨q + 1 + 1 + 1, _, none⟩) h.l3).trans h.r0, (hb.cell (p := ⟨q + 1 + 1 + 1, _, none⟩) h.l3).trans h.r1, (hb.cell (p := ⟨q + 1 + 1 + 1, _, none⟩) h.l3).trans h.r2, (hb.cell (p := ⟨q + 1 + 1 + 1, _, none⟩) h.l3).trans h.r3, h.rf.on hb h.l3,
   Nat.lt_of_lt_of_le h.al hb.size, (hb.cell (p := ⟨ab, _, none⟩) h.al).trans h.ac'⟩
/-- What else prev reads. -/
structure PvBox (W : World) (q : Nat) (x0 x2 x3 x4 : Int) (nm : ByteArray) (was : Bool) : Prop where
  x0' : W.cell? ⟨q + 1, 0, none⟩ = some (.int .i64 x0)
  x2' : W.cell? ⟨q + 1, 2, none⟩ = some (.int .i64 x2)
  x3' : W.cell? ⟨q + 1, 3, none⟩ = some (.int .i64 x3)
  x4' : W.cell? ⟨q + 1, 4, none⟩ = some (.int .i64 x4)
  x5' : W.cell? ⟨q + 1, 5, none⟩ = some (.string nm)
  k3' : W.cell? ⟨q + 1 + 1, 3, none⟩ = some (.bool was)
theorem PvBox.new (w : World) (wv : Value) (cnt now tm : Int) (nv av : Value) (x0 x1 x2 x3 x4 : Int) (nm : ByteArray) (lo hi : Int) (a : Option Addr) (n c : Nat) (was : Bool) (t : TypeId) : PvBox ((((w.alloc (.cells #[wv, .int .i64 cnt, .int .i64 now, .int .i64 tm, nv, av] t)).alloc (.cells #[.int .i64 x0, .int .i64 x1, .int .i64 x2, .int .i64 x3, .int .i64 x4, .string nm] 81)).alloc (.cells #[.int .i64 lo, .int .i64 hi, .slice a n c, .bool was] 96)).alloc (.cells #[.int .i64 0, .int .i64 0, .slice none 0 0, .bool false] 96)) w.heap.size x0 x2 x3 x4 nm was :=
  ⟨by simp [go_sem], by simp [go_sem], by simp [go_sem], by simp [go_sem], by simp [go_sem], by simp [go_sem]⟩
theorem below_drewN' {B : Nat} {a w : World} (h : Below B a w) (n : Nat) : Below B a (w.drewN n) := ⟨h.os, h.tape, h.output, h.size, h.block⟩
set_option maxRecDepth 20000 in
set_option maxHeartbeats 8000000 in
theorem prev_any (wf : Option Addr) (wn wc : Nat) (cnt now tm : Int) (na : Option Addr) (nn nc : Nat) (ab an ac : Nat) (x : Nd) (lo hi : Int) (a : Option Addr) (n c : Nat) (was : Bool) (ht0 : 0 ≤ now ∧ now ≤ 1000000) (ht : 0 ≤ tm ∧ tm ≤ 1000000) (i : Nat) (hi' : i < an) (ha : an ≤ 1048576) (hx : x.a = (i : Int)) (va : Bool) (v : Bool) (hv : (decide (0 < cnt) && (was && inB x.lo x.hi (tm - now))) = v) (w : World) (hab : ab < w.heap.size) (hc : w.cell? ⟨ab, i, none⟩ = some (.bool va)) :
    Calls Tryz.prog 131 #[.agg #[.slice wf wn wc, .int .i64 cnt, .int .i64 now, .int .i64 tm, .slice na nn nc, .slice (some ⟨ab, 0, none⟩) an ac], .agg #[.int .i64 x.k, .int .i64 x.a, .int .i64 x.b, .int .i64 x.lo, .int .i64 x.hi, .string x.nm], .agg #[.int .i64 lo, .int .i64 hi, .slice a n c, .bool was]] w fun e w' => e = .returned (.tuple #[.bool v, .agg #[.int .i64 0, .int .i64 0, .slice none 0 0, .bool va]]) ∧ Below w.heap.size w w' := by
  have HB0 := hid (kbelow4 w (.cells #[.slice wf wn wc, .int .i64 cnt, .int .i64 now, .int .i64 tm, .slice na nn nc, .slice (some ⟨ab, 0, none⟩) an ac] 90) (.cells #[.int .i64 x.k, .int .i64 i, .int .i64 x.b, .int .i64 x.lo, .int .i64 x.hi, .string x.nm] 81) (.cells #[.int .i64 lo, .int .i64 hi, .slice a n c, .bool was] 96) (.cells #[.int .i64 0, .int .i64 0, .slice none 0 0, .bool false] 96))
  have HX := hid (StBox.new w wf wn wc cnt now tm na nn nc ab an ac x.k i x.b x.lo x.hi x.nm lo hi a n c was va hab hc 90)
  have HP := hid (PvBox.new w (.slice wf wn wc) cnt now tm (.slice na nn nc) (.slice (some ⟨ab, 0, none⟩) an ac) x.k i x.b x.lo x.hi x.nm lo hi a n c was 90)
  have HBd := hid (fun w => boundsR_any x.k i x.b x.lo x.hi x.nm now tm ht0 ht w)
  have HV := hid hv
  rw [hx]
  clear ht0 ht hv hx hab hc
  generalize hbv : inB x.lo x.hi (tm - now) = bv at *
  clear hbv
  by_cases h0 : 0 < cnt
  · cases was with
    | true =>
      obtain rfl : bv = v := by have := HV.out; simpa [h0] using this
      go_enter Tryz.func131, Tryz.ntmps131
      go_wp2_with (go_at_call 148; generalize (((w.alloc (.cells #[.slice wf wn wc, .int .i64 cnt, .int .i64 now, .int .i64 tm, .slice na nn nc, .slice (some ⟨ab, 0, none⟩) an ac] 90)).alloc (.cells #[.int .i64 x.k, .int .i64 i, .int .i64 x.b, .int .i64 x.lo, .int .i64 x.hi, .string x.nm] 81)).alloc (.cells #[.int .i64 lo, .int .i64 hi, .slice a n c, .bool true] 96)).alloc (.cells #[.int .i64 0, .int .i64 0, .slice none 0 0, .bool false] 96) = V at *; refine (HBd.out _).mono ?_; rintro e w2 ⟨rfl, hb2⟩; have HB2 := hid (HB0.out.trans (hb2.mono HB0.out.size)); obtain ⟨l0, l1, l2, l3, q0, q1, q2, q3, q4, q5, x1, k0, k1, k2, r0, r1, r2, r3, ⟨g0, g1, g2, g3⟩, al, acc⟩ := HX.out.on hb2; clear hb2)
      go_region
      go_wp2_with fail
      refine bodyPost_ret (v := .tuple #[.bool bv, .agg #[.int .i64 0, .int .i64 0, .slice none 0 0, .bool va]]) (by simp [results, Tryz.results131, go_sem, r0, r1, r2, r3, g0, g1, g2, g3]) rfl ?_
      exact ⟨rfl, (below_drew HB2.out).trans ((gset4 w2.drew (w.heap.size + 1 + 1 + 1) (.int .i64 0) (.int .i64 0) (.slice none 0 0) (.bool va)).below (B := w.heap.size) HB2.out.size (fun j e => by omega))⟩
    | false =>
      obtain rfl : false = v := by have := HV.out; simpa using this
      obtain ⟨l0, l1, l2, l3, q0, q1, q2, q3, q4, q5, x1, k0, k1, k2, r0, r1, r2, r3, ⟨g0, g1, g2, g3⟩, al, acc⟩ := HX.out
      obtain ⟨y0, y2, y3, y4, y5, y6⟩ := HP.out
      go_enter Tryz.func131, Tryz.ntmps131
      go_wp2_with fail
      generalize (((w.alloc (.cells #[.slice wf wn wc, .int .i64 cnt, .int .i64 now, .int .i64 tm, .slice na nn nc, .slice (some ⟨ab, 0, none⟩) an ac] 90)).alloc (.cells #[.int .i64 x.k, .int .i64 i, .int .i64 x.b, .int .i64 x.lo, .int .i64 x.hi, .string x.nm] 81)).alloc (.cells #[.int .i64 lo, .int .i64 hi, .slice a n c, .bool false] 96)).alloc (.cells #[.int .i64 0, .int .i64 0, .slice none 0 0, .bool false] 96) = V at *
      go_region
      go_wp2_with fail
      refine bodyPost_ret (v := .tuple #[.bool false, .agg #[.int .i64 0, .int .i64 0, .slice none 0 0, .bool va]]) (by simp [results, Tryz.results131, go_sem, r0, r1, r2, r3, g0, g1, g2, g3]) rfl ?_
      exact ⟨rfl, (below_drew HB0.out).trans ((gset4 V.drew (w.heap.size + 1 + 1 + 1) (.int .i64 0) (.int .i64 0) (.slice none 0 0) (.bool va)).below (B := w.heap.size) HB0.out.size (fun j e => by omega))⟩
  · obtain rfl : false = v := by have := HV.out; simpa [h0] using this
    have h0' : ¬ (cnt > 0) := h0
    obtain ⟨l0, l1, l2, l3, q0, q1, q2, q3, q4, q5, x1, k0, k1, k2, r0, r1, r2, r3, ⟨g0, g1, g2, g3⟩, al, acc⟩ := HX.out
    obtain ⟨y0, y2, y3, y4, y5, y6⟩ := HP.out
    go_enter Tryz.func131, Tryz.ntmps131
    go_wp2_with fail
    generalize (((w.alloc (.cells #[.slice wf wn wc, .int .i64 cnt, .int .i64 now, .int .i64 tm, .slice na nn nc, .slice (some ⟨ab, 0, none⟩) an ac] 90)).alloc (.cells #[.int .i64 x.k, .int .i64 i, .int .i64 x.b, .int .i64 x.lo, .int .i64 x.hi, .string x.nm] 81)).alloc (.cells #[.int .i64 lo, .int .i64 hi, .slice a n c, .bool was] 96)).alloc (.cells #[.int .i64 0, .int .i64 0, .slice none 0 0, .bool false] 96) = V at *
    go_region
    go_wp2_with fail
    refine bodyPost_ret (v := .tuple #[.bool false, .agg #[.int .i64 0, .int .i64 0, .slice none 0 0, .bool va]]) (by simp [results, Tryz.results131, go_sem, r0, r1, r2, r3, g0, g1, g2, g3]) rfl ?_
    exact ⟨rfl, (below_drew HB0.out).trans ((gset4 V.drew (w.heap.size + 1 + 1 + 1) (.int .i64 0) (.int .i64 0) (.slice none 0 0) (.bool va)).below (B := w.heap.size) HB0.out.size (fun j e => by omega))⟩
end Go.Proofs.YtbfkbgmkibkbnaaGreatDoor
