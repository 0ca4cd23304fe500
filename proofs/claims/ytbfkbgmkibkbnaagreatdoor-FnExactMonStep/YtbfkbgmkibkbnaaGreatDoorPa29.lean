/-
  The program's step since, by its contract.
-/
import Derived.Test.YtbfkbgmkibkbnaaGreatDoorPa24
namespace Go.Proofs.YtbfkbgmkibkbnaaGreatDoor
open Go.RowKit
set_option linter.unusedVariables false
set_option linter.unusedSimpArgs false
/-- The boxes of since, the fifth one of the times. -/
structure SiBox (W : World) (q : Nat) (wf : Option Addr) (wn wc : Nat) (cnt now tm : Int) (na : Option Addr) (nn nc : Nat) (ab an ac : Nat) (i j : Nat) (lo hi : Int) (a : Option Addr) (n c : Nat) (va vb : Bool) : Prop where
  l0 : q < W.heap.size
  l1 : q + 1 < W.heap.size
  l3 : q + 1 + 1 + 1 < W.heap.size
  l4 : q + 1 + 1 + 1 + 1 < W.heap.size
  w0 : W.cell? ⟨q, 0, none⟩ = some (.slice wf wn wc)
  w1 : W.cell? ⟨q, 1, none⟩ = some (.int .i64 cnt)
  w2 : W.cell? ⟨q, 2, none⟩ = some (.int .i64 now)
  w3 : W.cell? ⟨q, 3, none⟩ = some (.int .i64 tm)
  w4 : W.cell? ⟨q, 4, none⟩ = some (.slice na nn nc)
  w5 : W.cell? ⟨q, 5, none⟩ = some (.slice (some ⟨ab, 0, none⟩) an ac)
  x1 : W.cell? ⟨q + 1, 1, none⟩ = some (.int .i64 i)
  x2 : W.cell? ⟨q + 1, 2, none⟩ = some (.int .i64 j)
  r0 : W.cell? ⟨q + 1 + 1 + 1, 0, none⟩ = some (.int .i64 0)
  r1 : W.cell? ⟨q + 1 + 1 + 1, 1, none⟩ = some (.int .i64 0)
  r2 : W.cell? ⟨q + 1 + 1 + 1, 2, none⟩ = some (.slice none 0 0)
  r3 : W.cell? ⟨q + 1 + 1 + 1, 3, none⟩ = some (.bool false)
  rf : MFree W (q + 1 + 1 + 1)
  k0 : W.cell? ⟨q + 1 + 1 + 1 + 1, 0, none⟩ = some (.int .i64 lo)
  k1 : W.cell? ⟨q + 1 + 1 + 1 + 1, 1, none⟩ = some (.int .i64 hi)
  k2 : W.cell? ⟨q + 1 + 1 + 1 + 1, 2, none⟩ = some (.slice a n c)
  kf : KFree W (q + 1 + 1 + 1 + 1)
  al : ab < W.heap.size
  ac' : W.cell? ⟨ab, i, none⟩ = some (.bool va)
  bc' : W.cell? ⟨ab, j, none⟩ = some (.bool vb)
set_option maxHeartbeats 1000000 in
theorem SiBox.new (w : World) (wf : Option Addr) (wn wc : Nat) (cnt now tm : Int) (na : Option Addr) (nn nc : Nat) (ab an ac : Nat) (x0 : Int) (i j : Nat) (x3 x4 : Int) (nm : ByteArray) (lo hi : Int) (a0 : Option Addr) (n0 c0 : Nat) (a : Option Addr) (n c : Nat) (was va vb : Bool) (hab : ab < w.heap.size) (hc : w.cell? ⟨ab, i, none⟩ = some (.bool va)) (hd : w.cell? ⟨ab, j, none⟩ = some (.bool vb)) (t : TypeId) : SiBox (((((w.alloc (.cells #[.slice wf wn wc, .int .i64 cnt, .int .i64 now, .int .i64 tm, .slice na nn nc, .slice (some ⟨ab, 0, none⟩) an ac] t)).alloc (.cells #[.int .i64 x0, .int .i64 i, .int .i64 j, .int .i64 x3, .int .i64 x4, .string nm] 81)).alloc (.cells #[.int .i64 lo, .int .i64 hi, .slice a0 n0 c0, .bool was] 96)).alloc (.cells #[.int .i64 0, .int .i64 0, .slice none 0 0, .bool false] 96)).alloc (.cells #[.int .i64 lo, .int .i64 hi, .slice a n c] 94)) w.heap.size wf wn wc cnt now tm na nn nc ab an ac i j lo hi a n c va vb :=
  ⟨by simp; omega, by simp, by simp, by simp, by simp [go_sem], by simp [go_sem], by simp [go_sem], by simp [go_sem], by simp [go_sem], by simp [go_sem], by simp [go_sem], by simp [go_sem], by simp [go_sem], by simp [go_sem], by simp [go_sem], by simp [go_sem], ⟨by simp [go_sem], by simp [go_sem], by simp [go_sem], by simp [go_sem]⟩, by simp [go_sem], by simp [go_sem], by simp [go_sem], ⟨by simp [go_sem], by simp [go_sem], by simp [go_sem]⟩, by simp; omega, ((kbelow5 w _ _ _ _ _).cell (p := ⟨ab, i, none⟩) hab).trans hc, ((kbelow5 w _ _ _ _ _).cell (p := ⟨ab, j, none⟩) hab).trans hd⟩
theorem SiBox.res {W W' : World} {q : Nat} {wf : Option Addr} {wn wc : Nat} {cnt now tm : Int} {na : Option Addr} {nn nc ab an ac i j : Nat} {lo hi : Int} {a : Option Addr} {n c : Nat} {va vb : Bool} (h : SiBox W q wf wn wc cnt now tm na nn nc ab an ac i j lo hi a n c va vb) (hb : Below W.heap.size W W') : W'.cell? ⟨q + 1 + 1 + 1, 0, none⟩ = some (.int .i64 0) ∧ W'.cell? ⟨q + 1 + 1 + 1, 1, none⟩ = some (.int .i64 0) ∧ W'.cell? ⟨q + 1 + 1 + 1, 2, none⟩ = some (.slice none 0 0) ∧ W'.cell? ⟨q + 1 + 1 + 1, 3, none⟩ = some (.bool false) ∧ MFree W' (q + 1 + 1 + 1) :=
  ⟨(hb.cell (p := ⟨q + 1 + 1 + 1, _, none⟩) h.l3).trans h.r0, (hb.cell (p := ⟨q + 1 + 1 + 1, _, none⟩) h.l3).trans h.r1, (hb.cell (p := ⟨q + 1 + 1 + 1, _, none⟩) h.l3).trans h.r2, (hb.cell (p := ⟨q + 1 + 1 + 1, _, none⟩) h.l3).trans h.r3, h.rf.on hb h.l3⟩
set_option maxRecDepth 20000 in
set_option maxHeartbeats 8000000 in
theorem since_any (wf : Option Addr) (wn wc : Nat) (cnt now tm : Int) (na : Option Addr) (nn nc : Nat) (ab an ac : Nat) (x : Nd) (lo hi : Int) (Z : List Int) (n : Nat) (hn : Z.length = n) (a : Option Addr) (c : Nat) (was : Bool) (hS : SlV a n c) (hkr : krB lo hi Z = true) (ht : timeB tm = true) (i j : Nat) (hi' : i < an) (hj' : j < an) (ha : an ≤ 1048576) (hx : x.a = (i : Int)) (hy : x.b = (j : Int)) (va vb : Bool) (Y : List Int) (hY : nextI vb hi tm (if va then Z else []) = Y) (v : Bool) (hv : askTo lo hi tm Y Y.length = v) (w : World) (hab : ab < w.heap.size) (hc : w.cell? ⟨ab, i, none⟩ = some (.bool va)) (hd : w.cell? ⟨ab, j, none⟩ = some (.bool vb)) (hA : ArgI w a Z) :
    Calls Tryz.prog 134 #[.agg #[.slice wf wn wc, .int .i64 cnt, .int .i64 now, .int .i64 tm, .slice na nn nc, .slice (some ⟨ab, 0, none⟩) an ac], .agg #[.int .i64 x.k, .int .i64 x.a, .int .i64 x.b, .int .i64 x.lo, .int .i64 x.hi, .string x.nm], .agg #[.int .i64 lo, .int .i64 hi, .slice a n c, .bool was]] w fun e w' => ∃ va' vc, e = .returned (.tuple #[.bool v, .agg #[.int .i64 lo, .int .i64 hi, .slice va' Y.length vc, .bool false]]) ∧ OwnI w' w.heap.size (.slice va' Y.length vc) Y ∧ Below w.heap.size w w' := by
  have HB0 := hid (kbelow5 w (.cells #[.slice wf wn wc, .int .i64 cnt, .int .i64 now, .int .i64 tm, .slice na nn nc, .slice (some ⟨ab, 0, none⟩) an ac] 90) (.cells #[.int .i64 x.k, .int .i64 i, .int .i64 j, .int .i64 x.lo, .int .i64 x.hi, .string x.nm] 81) (.cells #[.int .i64 lo, .int .i64 hi, .slice a n c, .bool was] 96) (.cells #[.int .i64 0, .int .i64 0, .slice none 0 0, .bool false] 96) (.cells #[.int .i64 lo, .int .i64 hi, .slice a n c] 94))
  have HX := hid (SiBox.new w wf wn wc cnt now tm na nn nc ab an ac x.k i j x.lo x.hi x.nm lo hi a n c a n c was va vb hab hc hd 90)
  have HA := hid (hA.on HB0.out)
  cases va with
  | true =>
    have HK := hid (fun w h => keepAsk_any wf wn wc cnt now tm na nn nc (some ⟨ab, 0, none⟩) an ac lo hi Z n hn a c hS hkr ht vb Y (by simpa using hY) v hv w h)
    rw [hx, hy]
    clear hA hn hS hkr ht hY hv hx hy
    go_enter Tryz.func134, Tryz.ntmps134
    have hab1 : ab < w.heap.size + 1 := by omega
    have hab2 : ab < w.heap.size + 1 + 1 := by omega
    have hab3 : ab < w.heap.size + 1 + 1 + 1 := by omega
    have hab4 : ab < w.heap.size + 1 + 1 + 1 + 1 := by omega
    go_wp2_with fail
    generalize ((((w.alloc (.cells #[.slice wf wn wc, .int .i64 cnt, .int .i64 now, .int .i64 tm, .slice na nn nc, .slice (some ⟨ab, 0, none⟩) an ac] 90)).alloc (.cells #[.int .i64 x.k, .int .i64 i, .int .i64 j, .int .i64 x.lo, .int .i64 x.hi, .string x.nm] 81)).alloc (.cells #[.int .i64 lo, .int .i64 hi, .slice a n c, .bool was] 96)).alloc (.cells #[.int .i64 0, .int .i64 0, .slice none 0 0, .bool false] 96)).alloc (.cells #[.int .i64 lo, .int .i64 hi, .slice a n c] 94) = V at *
    clear hab hab1 hab2 hab3 hab4 hc hd
    obtain ⟨l0, l1, l3, l4, q0, q1, q2, q3, q4, q5, x1, x2, r0, r1, r2, r3, ⟨g0, g1, g2, g3⟩, k0, k1, k2, _, al, acc, bcc⟩ := HX.out
    go_region_with (go_at_call 149; refine (HK.out _ HA.out.drew').mono ?_; rintro e w2 ⟨va', vc, rfl, hO2, hb2'⟩; have hb2 := below_undrew hb2'; clear hb2'; have HB2 := hid (HB0.out.trans (hb2.mono HB0.out.size)); have HO2 := hid hO2; obtain ⟨s0, s1, s2, s3, ⟨f0, f1, f2, f3⟩⟩ := HX.out.res hb2; have hz2 := hb2.size; clear hb2 hO2)
    all_goals
      go_wp2_with fail
      refine bodyPost_ret (v := .tuple #[.bool v, .agg #[.int .i64 lo, .int .i64 hi, .slice va' Y.length vc, .bool false]]) (by simp [results, Tryz.results134, go_sem, s0, s1, s2, s3, f0, f1, f2, f3]) rfl ?_
      have s4 := gset4 w2 (w.heap.size + 1 + 1 + 1) (.int .i64 lo) (.int .i64 hi) (.slice va' Y.length vc) (.bool false)
      have hV := HB0.out.size
      exact ⟨va', vc, rfl, (HO2.out.save s4 (fun k e => by have := (HO2.out.lt k e).1; have h9 : V.heap.size ≤ k := this; omega)).low (by show w.heap.size ≤ V.heap.size; omega), HB2.out.trans (s4.below (B := w.heap.size) HB2.out.size (fun j e => by omega))⟩
  | false =>
    have HK := hid (fun w h => keepAsk_any wf wn wc cnt now tm na nn nc (some ⟨ab, 0, none⟩) an ac lo hi [] 0 rfl none 0 slV_nil (kr_nil hkr) ht vb Y (by simpa using hY) v hv w h)
    have HB1 := hid (kbelow5 w (.cells #[.slice wf wn wc, .int .i64 cnt, .int .i64 now, .int .i64 tm, .slice na nn nc, .slice (some ⟨ab, 0, none⟩) an ac] 90) (.cells #[.int .i64 x.k, .int .i64 i, .int .i64 j, .int .i64 x.lo, .int .i64 x.hi, .string x.nm] 81) (.cells #[.int .i64 lo, .int .i64 hi, .slice a n c, .bool was] 96) (.cells #[.int .i64 0, .int .i64 0, .slice none 0 0, .bool false] 96) (.cells #[.int .i64 lo, .int .i64 hi, .slice none 0 0] 94))
    have HX1 := hid (SiBox.new w wf wn wc cnt now tm na nn nc ab an ac x.k i j x.lo x.hi x.nm lo hi a n c none 0 0 was false vb hab hc hd 90)
    rw [hx, hy]
    clear hA hn hS hkr ht hY hv hx hy HX HB0 HA
    go_enter Tryz.func134, Tryz.ntmps134
    have hab1 : ab < w.heap.size + 1 := by omega
    have hab2 : ab < w.heap.size + 1 + 1 := by omega
    have hab3 : ab < w.heap.size + 1 + 1 + 1 := by omega
    have hab4 : ab < w.heap.size + 1 + 1 + 1 + 1 := by omega
    go_wp2_with fail
    generalize hV : ((((w.alloc (.cells #[.slice wf wn wc, .int .i64 cnt, .int .i64 now, .int .i64 tm, .slice na nn nc, .slice (some ⟨ab, 0, none⟩) an ac] 90)).alloc (.cells #[.int .i64 x.k, .int .i64 i, .int .i64 j, .int .i64 x.lo, .int .i64 x.hi, .string x.nm] 81)).alloc (.cells #[.int .i64 lo, .int .i64 hi, .slice a n c, .bool was] 96)).alloc (.cells #[.int .i64 0, .int .i64 0, .slice none 0 0, .bool false] 96)).alloc (.cells #[.int .i64 lo, .int .i64 hi, .slice none 0 0] 94) = V at *
    clear hab hab1 hab2 hab3 hab4 hc hd hV
    obtain ⟨l0, l1, l3, l4, q0, q1, q2, q3, q4, q5, x1, x2, r0, r1, r2, r3, ⟨g0, g1, g2, g3⟩, k0, k1, k2, _, al, acc, bcc⟩ := HX1.out
    go_region_with (go_at_call 149; refine (HK.out _ (Or.inl rfl)).mono ?_; rintro e w2 ⟨va', vc, rfl, hO2, hb2'⟩; have hb2 := below_undrew hb2'; clear hb2'; have HB2 := hid (HB1.out.trans (hb2.mono HB1.out.size)); have HO2 := hid hO2; obtain ⟨s0, s1, s2, s3, ⟨f0, f1, f2, f3⟩⟩ := HX1.out.res hb2; have hz2 := hb2.size; clear hb2 hO2)
    all_goals
      go_wp2_with fail
      refine bodyPost_ret (v := .tuple #[.bool v, .agg #[.int .i64 lo, .int .i64 hi, .slice va' Y.length vc, .bool false]]) (by simp [results, Tryz.results134, go_sem, s0, s1, s2, s3, f0, f1, f2, f3]) rfl ?_
      have s4 := gset4 w2 (w.heap.size + 1 + 1 + 1) (.int .i64 lo) (.int .i64 hi) (.slice va' Y.length vc) (.bool false)
      have hV := HB1.out.size
      exact ⟨va', vc, rfl, (HO2.out.save s4 (fun k e => by have := (HO2.out.lt k e).1; have h9 : V.heap.size ≤ k := this; omega)).low (by show w.heap.size ≤ V.heap.size; omega), HB2.out.trans (s4.below (B := w.heap.size) HB2.out.size (fun j e => by omega))⟩
end Go.Proofs.YtbfkbgmkibkbnaaGreatDoor
