/-
  The program's step hist, by its contract.
  The program's table of steps; a step by its kind.
  The model's l06Node, by one contract.
  strings.Clone, by its contract: the same text; what was there is not turned.
  The program's copy of a formula that shares nothing: slices.Clone, own, by their contracts.
  Cells of no event: the program's bareCells, by its contract; plain facts on rows of such cells.
  The model's l06New, by its contract.
  A copy of a slice of numbers by append onto an empty one, be the slice none or not.
-/
import Derived.Test.YtbfkbgmkibkbnaaGreatDoorPa30
import Derived.Deep.RegionHeld3
import Derived.Test.YtbfkbgmkibkbnaaGreatDoorPa28
import Derived.Test.YtbfkbgmkibkbnaaGreatDoorPa29
import Derived.Laws.EntriesVeiled
import Derived.Test.YtbfkbgmkibkbnaaGreatDoorPa25
import Derived.Test.YtbfkbgmkibkbnaaGreatDoorPa00
import Derived.Laws.IdiomStrings
import Derived.Lib.UnsafeStr
import Derived.Test.YtbfkbgmkibkbnaaGreatDoorPa20
import Derived.Test.YtbfkbgmkibkbnaaGreatDoorPa26
import Derived.Test.YtbfkbgmkibkbnaaGreatDoorPa10
import Derived.Deep.Upon
namespace Go.Proofs.YtbfkbgmkibkbnaaGreatDoor
open Go.RowKit
set_option linter.unusedVariables false
set_option linter.unusedSimpArgs false
/-- A new cell's box, behind a call. -/
theorem ckz {V w2 : World} (h : Below (V.alloc (.cells #[.int .i64 0, .int .i64 0, .slice none 0 0, .bool false] 96)).drew.heap.size (V.alloc (.cells #[.int .i64 0, .int .i64 0, .slice none 0 0, .bool false] 96)).drew w2) : Below V.heap.size V w2 ∧ V.heap.size < w2.heap.size ∧ w2.cell? ⟨V.heap.size, 0, none⟩ = some (.int .i64 0) ∧ w2.cell? ⟨V.heap.size, 1, none⟩ = some (.int .i64 0) ∧ w2.cell? ⟨V.heap.size, 2, none⟩ = some (.slice none 0 0) ∧ w2.cell? ⟨V.heap.size, 3, none⟩ = some (.bool false) ∧ MFree w2 V.heap.size := by
  have h1 := below_undrew h
  have hz : (V.alloc (.cells #[.int .i64 0, .int .i64 0, .slice none 0 0, .bool false] 96)).heap.size = V.heap.size + 1 := by simp
  have hs := h1.size
  have hlt : V.heap.size < (V.alloc (.cells #[.int .i64 0, .int .i64 0, .slice none 0 0, .bool false] 96)).heap.size := by omega
  refine ⟨(below_one' V _).trans (h1.mono (by omega)), by omega, ?_, ?_, ?_, ?_, ?_, ?_, ?_, ?_⟩
  · rw [h1.cell (p := ⟨V.heap.size, 0, none⟩) hlt]; simp [go_sem]
  · rw [h1.cell (p := ⟨V.heap.size, 1, none⟩) hlt]; simp [go_sem]
  · rw [h1.cell (p := ⟨V.heap.size, 2, none⟩) hlt]; simp [go_sem]
  · rw [h1.cell (p := ⟨V.heap.size, 3, none⟩) hlt]; simp [go_sem]
  · rw [h1.frozen (p := ⟨V.heap.size, 0, none⟩) hlt]; simp [go_sem]
  · rw [h1.frozen (p := ⟨V.heap.size, 1, none⟩) hlt]; simp [go_sem]
  · rw [h1.frozen (p := ⟨V.heap.size, 2, none⟩) hlt]; simp [go_sem]
  · rw [h1.frozen (p := ⟨V.heap.size, 3, none⟩) hlt]; simp [go_sem]
set_option maxRecDepth 20000 in
set_option maxHeartbeats 8000000 in
theorem hist_any (wf : Option Addr) (wn wc : Nat) (cnt now tm : Int) (na : Option Addr) (nn nc : Nat) (ab an ac : Nat) (x : Nd) (lo hi : Int) (Z : List Int) (n : Nat) (hn : Z.length = n) (a : Option Addr) (c : Nat) (was : Bool) (hS : SlV a n c) (hkr : krB lo hi Z = true) (ht : timeB tm = true) (i : Nat) (hi' : i < an) (ha : an ≤ 1048576) (hx : x.a = (i : Int)) (va : Bool) (Y : List Int) (hY : nextI (!va) hi tm Z = Y) (v : Bool) (hv : askTo lo hi tm Y Y.length = v) (w : World) (hab : ab < w.heap.size) (hc : w.cell? ⟨ab, i, none⟩ = some (.bool va)) (hA : ArgI w a Z) :
    Calls Tryz.prog 133 #[.agg #[.slice wf wn wc, .int .i64 cnt, .int .i64 now, .int .i64 tm, .slice na nn nc, .slice (some ⟨ab, 0, none⟩) an ac], .agg #[.int .i64 x.k, .int .i64 x.a, .int .i64 x.b, .int .i64 x.lo, .int .i64 x.hi, .string x.nm], .agg #[.int .i64 lo, .int .i64 hi, .slice a n c, .bool was]] w fun e w' => ∃ va' vc, e = .returned (.tuple #[.bool (!v), .agg #[.int .i64 lo, .int .i64 hi, .slice va' Y.length vc, .bool false]]) ∧ OwnI w' w.heap.size (.slice va' Y.length vc) Y ∧ Below w.heap.size w w' := by
  have HK := hid (fun w h => keepAsk_any wf wn wc cnt now tm na nn nc (some ⟨ab, 0, none⟩) an ac lo hi Z n hn a c hS hkr ht (!va) Y hY v hv w h)
  have HB0 := hid (kbelow4 w (.cells #[.slice wf wn wc, .int .i64 cnt, .int .i64 now, .int .i64 tm, .slice na nn nc, .slice (some ⟨ab, 0, none⟩) an ac] 90) (.cells #[.int .i64 x.k, .int .i64 i, .int .i64 x.b, .int .i64 x.lo, .int .i64 x.hi, .string x.nm] 81) (.cells #[.int .i64 lo, .int .i64 hi, .slice a n c, .bool was] 96) (.cells #[.int .i64 0, .int .i64 0, .slice none 0 0, .bool false] 96))
  have HX := hid (StBox.new w wf wn wc cnt now tm na nn nc ab an ac x.k i x.b x.lo x.hi x.nm lo hi a n c was va hab hc 90)
  have HA := hid (hA.on HB0.out)
  rw [hx]
  clear hA hn hS hkr ht hY hv hx hab hc
  go_enter Tryz.func133, Tryz.ntmps133
  go_wp2_with fail
  generalize (((w.alloc (.cells #[.slice wf wn wc, .int .i64 cnt, .int .i64 now, .int .i64 tm, .slice na nn nc, .slice (some ⟨ab, 0, none⟩) an ac] 90)).alloc (.cells #[.int .i64 x.k, .int .i64 i, .int .i64 x.b, .int .i64 x.lo, .int .i64 x.hi, .string x.nm] 81)).alloc (.cells #[.int .i64 lo, .int .i64 hi, .slice a n c, .bool was] 96)).alloc (.cells #[.int .i64 0, .int .i64 0, .slice none 0 0, .bool false] 96) = V at *
  have HAn := hid (fun W' (hb : Below V.heap.size V W') => HA.out.on hb)
  obtain ⟨l0, l1, l2, l3, q0, q1, q2, q3, q4, q5, x1, k0, k1, k2, r0, r1, r2, r3, ⟨g0, g1, g2, g3⟩, al, acc⟩ := HX.out
  have HBV := hid (Below.refl V.heap.size V)
  have HS := hid (fun W' (hb : Below V.heap.size V W') => (by obtain ⟨_, _, _, _, a0, a1, a2, a3, a4, a5, b1, c0, c1, c2, _, _, _, _, _, _, d0⟩ := HX.out.on hb; exact ⟨a0, a1, a2, a3, a4, a5, b1, c0, c1, c2, d0⟩ : W'.cell? ⟨w.heap.size, 0, none⟩ = some (.slice wf wn wc) ∧ W'.cell? ⟨w.heap.size, 1, none⟩ = some (.int .i64 cnt) ∧ W'.cell? ⟨w.heap.size, 2, none⟩ = some (.int .i64 now) ∧ W'.cell? ⟨w.heap.size, 3, none⟩ = some (.int .i64 tm) ∧ W'.cell? ⟨w.heap.size, 4, none⟩ = some (.slice na nn nc) ∧ W'.cell? ⟨w.heap.size, 5, none⟩ = some (.slice (some ⟨ab, 0, none⟩) an ac) ∧ W'.cell? ⟨w.heap.size + 1, 1, none⟩ = some (.int .i64 i) ∧ W'.cell? ⟨w.heap.size + 1 + 1, 0, none⟩ = some (.int .i64 lo) ∧ W'.cell? ⟨w.heap.size + 1 + 1, 1, none⟩ = some (.int .i64 hi) ∧ W'.cell? ⟨w.heap.size + 1 + 1, 2, none⟩ = some (.slice a n c) ∧ W'.cell? ⟨ab, i, none⟩ = some (.bool va)))
  go_region_held3 (fun W' => W'.cell? ⟨w.heap.size, 0, none⟩ = some (.slice wf wn wc) ∧ W'.cell? ⟨w.heap.size, 1, none⟩ = some (.int .i64 cnt) ∧ W'.cell? ⟨w.heap.size, 2, none⟩ = some (.int .i64 now) ∧ W'.cell? ⟨w.heap.size, 3, none⟩ = some (.int .i64 tm) ∧ W'.cell? ⟨w.heap.size, 4, none⟩ = some (.slice na nn nc) ∧ W'.cell? ⟨w.heap.size, 5, none⟩ = some (.slice (some ⟨ab, 0, none⟩) an ac) ∧ W'.cell? ⟨w.heap.size + 1, 1, none⟩ = some (.int .i64 i) ∧ W'.cell? ⟨w.heap.size + 1 + 1, 0, none⟩ = some (.int .i64 lo) ∧ W'.cell? ⟨w.heap.size + 1 + 1, 1, none⟩ = some (.int .i64 hi) ∧ W'.cell? ⟨w.heap.size + 1 + 1, 2, none⟩ = some (.slice a n c) ∧ W'.cell? ⟨ab, i, none⟩ = some (.bool va)) ((refine HS.out _ ?_; repeat (first | exact HBw.out | exact HBV.out | apply below_drew | (refine Below.alloc ?_ (by first | omega | (simp; done) | (simp; omega)) _) | (refine Below.setCell ?_ (by show V.heap.size ≤ _; first | omega | (simp; done) | (simp; omega)) _)))) ((go_at_call 149; refine (HK.out _ (HAn.out _ (by (repeat (first | exact HBV.out | apply below_drew | (refine Below.alloc ?_ (by simp) _))))) ).mono ?_; rintro e w2 ⟨va', vc, rfl, hO2, hb2'⟩; first | (obtain ⟨hb2, hzc, d0, d1, d2, d3, ⟨e0, e1, e2, e3⟩⟩ := ckz hb2'; clear hb2'; have HB2 := hid (HB0.out.trans (hb2.mono HB0.out.size)); have HO2 := hid hO2; have HBw := hid hb2; obtain ⟨s0, s1, s2, s3, ⟨f0, f1, f2, f3⟩⟩ := HX.out.res hb2; have hz2 := hb2.size; clear hb2 hO2) | (have hb2 := below_undrew hb2'; clear hb2'; have HB2 := hid (HB0.out.trans (hb2.mono HB0.out.size)); have HO2 := hid hO2; have HBw := hid hb2; obtain ⟨s0, s1, s2, s3, ⟨f0, f1, f2, f3⟩⟩ := HX.out.res hb2; have hz2 := hb2.size; clear hb2 hO2)))
  · have hQ : w.heap.size + 1 + 1 + 1 < w2.heap.size := by omega
    go_wp2_with fail
    go_region
    go_wp2_with fail
    refine bodyPost_ret (v := .tuple #[.bool (!v), .agg #[.int .i64 lo, .int .i64 hi, .slice va' Y.length vc, .bool false]]) (by simp [results, Tryz.results133, go_sem, s0, s1, s2, s3, f0, f1, f2, f3, hQ]) rfl ?_
    have hsv := ((gset4 w2 (w.heap.size + 1 + 1 + 1) (.int .i64 lo) (.int .i64 hi) (.slice va' Y.length vc) (.bool false)).alloc (.cells #[.int .i64 lo, .int .i64 hi, .slice va' Y.length vc, .bool false] 96)).drew
    have hV := HB0.out.size
    exact ⟨va', vc, rfl, (HO2.out.save hsv (fun k e => by have := (HO2.out.lt k e).1; have h9 : V.heap.size ≤ k := this; omega)).low (by show w.heap.size ≤ V.heap.size; omega), HB2.out.trans (hsv.below (B := w.heap.size) HB2.out.size (fun j e => by omega))⟩
  · go_wp2_with fail
    go_region
    go_wp2_with fail
    refine bodyPost_ret (v := .tuple #[.bool (!v), .agg #[.int .i64 lo, .int .i64 hi, .slice va' Y.length vc, .bool false]]) (by simp [results, Tryz.results133, go_sem, s0, s1, s2, s3, f0, f1, f2, f3]) rfl ?_
    have hsv := (((gset4 w2 V.heap.size (.int .i64 lo) (.int .i64 hi) (.slice va' Y.length vc) (.bool false)).mono (T := fun j => j = w.heap.size + 1 + 1 + 1 ∨ j = V.heap.size) (fun j _ e => Or.inr e)).trans ((gset4 _ (w.heap.size + 1 + 1 + 1) (.int .i64 lo) (.int .i64 hi) (.slice va' Y.length vc) (.bool false)).mono (T := fun j => j = w.heap.size + 1 + 1 + 1 ∨ j = V.heap.size) (fun j _ e => Or.inl e))).drew
    have hV := HB0.out.size
    exact ⟨va', vc, rfl, (HO2.out.save hsv (fun k e => by have h8 := (HO2.out.lt k e).1; have h9 : V.heap.size + 1 ≤ k := (by simpa using h8); omega)).low (by show w.heap.size ≤ _; simp; omega), HB2.out.trans (hsv.below (B := w.heap.size) HB2.out.size (fun j e => by omega))⟩
end Go.Proofs.YtbfkbgmkibkbnaaGreatDoor
namespace Go.Proofs.YtbfkbgmkibkbnaaGreatDoor
open Go.RowKit
set_option linter.unusedVariables false
set_option linter.unusedSimpArgs false
set_option maxRecDepth 20000 in
set_option maxHeartbeats 2000000 in
theorem kindSteps_any (w : World) :
    Calls Tryz.prog 99 #[] w fun e w' => e = .returned (.agg #[.nilFunc, .func (.func 126) #[] #[], .func (.func 127) #[] #[], .func (.func 128) #[] #[], .func (.func 129) #[] #[], .func (.func 130) #[] #[], .func (.func 131) #[] #[], .func (.func 132) #[] #[], .func (.func 133) #[] #[], .func (.func 134) #[] #[]]) ∧ Below w.heap.size w w' := by
  go_enter Tryz.func99, Tryz.ntmps99
  go_wp2_with fail
  refine bodyPost_ret (v := .agg #[.nilFunc, .func (.func 126) #[] #[], .func (.func 127) #[] #[], .func (.func 128) #[] #[], .func (.func 129) #[] #[], .func (.func 130) #[] #[], .func (.func 131) #[] #[], .func (.func 132) #[] #[], .func (.func 133) #[] #[], .func (.func 134) #[] #[]]) (by simp [results, Tryz.results99, go_sem]) rfl ?_
  exact ⟨rfl, below_one' _ _⟩
def stepF (k : Int) : Nat :=
  if k = 1 then 126 else
  if k = 2 then 127 else
  if k = 3 then 128 else
  if k = 4 then 129 else
  if k = 5 then 130 else
  if k = 6 then 131 else
  if k = 7 then 132 else
  if k = 8 then 133 else
  134
theorem arms_a' {x : Nd} {n : Nat} (h : armsOk x n) (hk : 0 < armsN x.k) : ∃ p : Nat, x.a = p ∧ p < n ∧ x.a.toNat = p := by
  obtain ⟨h1, h2⟩ := h.1 hk
  exact ⟨x.a.toNat, by omega, by omega, rfl⟩
theorem arms_b' {x : Nd} {n : Nat} (h : armsOk x n) (hk : 1 < armsN x.k) : ∃ p : Nat, x.b = p ∧ p < n ∧ x.b.toNat = p := by
  obtain ⟨h1, h2⟩ := h.2 hk
  exact ⟨x.b.toNat, by omega, by omega, rfl⟩
theorem stB_1 (cnt now tm : Int) (S : List ByteArray) (x : Nd) (c : Cl) (g : Nat → Bool) (hk : x.k = 1) : stB cnt now tm S x c g = (true, cl0) := by
  unfold stB
  rw [if_pos hk]
theorem stB_2 (cnt now tm : Int) (S : List ByteArray) (x : Nd) (c : Cl) (g : Nat → Bool) (hk : x.k = 2) : stB cnt now tm S x c g = (nhTo S x.nm S.length, cl0) := by
  unfold stB
  rw [if_neg (by omega), if_pos hk]
theorem stB_3 (cnt now tm : Int) (S : List ByteArray) (x : Nd) (c : Cl) (g : Nat → Bool) (hk : x.k = 3) : stB cnt now tm S x c g = (!g x.a.toNat, cl0) := by
  unfold stB
  rw [if_neg (by omega), if_neg (by omega), if_pos hk]
theorem stB_4 (cnt now tm : Int) (S : List ByteArray) (x : Nd) (c : Cl) (g : Nat → Bool) (hk : x.k = 4) : stB cnt now tm S x c g = (g x.a.toNat && g x.b.toNat, cl0) := by
  unfold stB
  rw [if_neg (by omega), if_neg (by omega), if_neg (by omega), if_pos hk]
theorem stB_5 (cnt now tm : Int) (S : List ByteArray) (x : Nd) (c : Cl) (g : Nat → Bool) (hk : x.k = 5) : stB cnt now tm S x c g = (g x.a.toNat || g x.b.toNat, cl0) := by
  unfold stB
  rw [if_neg (by omega), if_neg (by omega), if_neg (by omega), if_neg (by omega), if_pos hk]
theorem stB_6 (cnt now tm : Int) (S : List ByteArray) (x : Nd) (c : Cl) (g : Nat → Bool) (hk : x.k = 6) : stB cnt now tm S x c g = (decide (0 < cnt) && (c.was && inB x.lo x.hi (tm - now)), ⟨0, 0, [], g x.a.toNat⟩) := by
  unfold stB
  rw [if_neg (by omega), if_neg (by omega), if_neg (by omega), if_neg (by omega), if_neg (by omega), if_pos hk]
theorem stB_7 (cnt now tm : Int) (S : List ByteArray) (x : Nd) (c : Cl) (g : Nat → Bool) (hk : x.k = 7) : stB cnt now tm S x c g = (askTo c.lo c.hi tm (nextI (g x.a.toNat) c.hi tm c.ts) (nextI (g x.a.toNat) c.hi tm c.ts).length, ⟨c.lo, c.hi, nextI (g x.a.toNat) c.hi tm c.ts, false⟩) := by
  unfold stB
  rw [if_neg (by omega), if_neg (by omega), if_neg (by omega), if_neg (by omega), if_neg (by omega), if_neg (by omega), if_pos hk]
theorem stB_8 (cnt now tm : Int) (S : List ByteArray) (x : Nd) (c : Cl) (g : Nat → Bool) (hk : x.k = 8) : stB cnt now tm S x c g = (!askTo c.lo c.hi tm (nextI (!g x.a.toNat) c.hi tm c.ts) (nextI (!g x.a.toNat) c.hi tm c.ts).length, ⟨c.lo, c.hi, nextI (!g x.a.toNat) c.hi tm c.ts, false⟩) := by
  unfold stB
  rw [if_neg (by omega), if_neg (by omega), if_neg (by omega), if_neg (by omega), if_neg (by omega), if_neg (by omega), if_neg (by omega), if_pos hk]
theorem stB_9 (cnt now tm : Int) (S : List ByteArray) (x : Nd) (c : Cl) (g : Nat → Bool) (hk : x.k = 9) : stB cnt now tm S x c g = (askTo c.lo c.hi tm (nextI (g x.b.toNat) c.hi tm (if g x.a.toNat then c.ts else [])) (nextI (g x.b.toNat) c.hi tm (if g x.a.toNat then c.ts else [])).length, ⟨c.lo, c.hi, nextI (g x.b.toNat) c.hi tm (if g x.a.toNat then c.ts else []), false⟩) := by
  unfold stB
  rw [if_neg (by omega), if_neg (by omega), if_neg (by omega), if_neg (by omega), if_neg (by omega), if_neg (by omega), if_neg (by omega), if_neg (by omega)]
theorem stV {v : Bool} {lo hi : Int} {Y : List Int} {was : Bool} {a : Bool} {b c : Int} {d : List Int} {e : Bool} (h : ((a, ⟨b, c, d, e⟩) : Bool × Cl) = (v, ⟨lo, hi, Y, was⟩)) : a = v ∧ b = lo ∧ c = hi ∧ d = Y ∧ e = was := by
  injection h with h1 h2
  injection h2 with h3 h4 h5 h6
  exact ⟨h1, h3, h4, h5, h6⟩
/-- A step of whatever kind. -/
theorem kind_any (wf : Option Addr) (wn wc : Nat) (cnt now tm : Int) (S : List ByteArray) (na : Option Addr) (nn nc : Nat) (hnn : S.length = nn) (hnl : nn ≤ maxLen) (ab an ac : Nat) (ha : an ≤ 1048576) (x : Nd) (i : Nat) (hin : i ≤ an) (hk : kindOk x.k) (hd : armsOk x i) (c : Cl) (n : Nat) (hn : c.ts.length = n) (a : Option Addr) (cc : Nat) (hS : SlV a n cc) (hkr : krB c.lo c.hi c.ts = true) (ht0 : timeB now = true) (ht : timeB tm = true) (g : Nat → Bool) (v : Bool) (lo hi : Int) (Y : List Int) (was : Bool) (hst : stB cnt now tm S x c g = (v, ⟨lo, hi, Y, was⟩)) (w : World) (hab : ab < w.heap.size) (hg : ∀ p, p < i → w.cell? ⟨ab, p, none⟩ = some (.bool (g p))) (hA : ArgI w a c.ts) (hT : TsAt w na S) :
    Calls Tryz.prog (stepF x.k) #[.agg #[.slice wf wn wc, .int .i64 cnt, .int .i64 now, .int .i64 tm, .slice na nn nc, .slice (some ⟨ab, 0, none⟩) an ac], .agg #[.int .i64 x.k, .int .i64 x.a, .int .i64 x.b, .int .i64 x.lo, .int .i64 x.hi, .string x.nm], .agg #[.int .i64 c.lo, .int .i64 c.hi, .slice a n cc, .bool c.was]] w fun e w' => ∃ va vc, e = .returned (.tuple #[.bool v, .agg #[.int .i64 lo, .int .i64 hi, .slice va Y.length vc, .bool was]]) ∧ OwnI w' w.heap.size (.slice va Y.length vc) Y ∧ Below w.heap.size w w' := by
  have hkk : x.k = 1 ∨ x.k = 2 ∨ x.k = 3 ∨ x.k = 4 ∨ x.k = 5 ∨ x.k = 6 ∨ x.k = 7 ∨ x.k = 8 ∨ x.k = 9 := by obtain ⟨h1, h2⟩ := hk; omega
  have t0 := timeB_parts ht0
  have t1 := timeB_parts ht
  rcases hkk with h | h | h | h | h | h | h | h | h
  · have hF : stepF x.k = 126 := by
      unfold stepF
      rw [if_pos h]
    rw [hF]
    rw [stB_1 _ _ _ _ _ _ _ h] at hst
    obtain ⟨rfl, rfl, rfl, rfl, rfl⟩ := stV hst
    refine (always_any wf wn wc cnt now tm na nn nc (some ⟨ab, 0, none⟩) an ac x c.lo c.hi a n cc c.was w).mono ?_
    rintro e w' ⟨rfl, hb⟩
    exact ⟨none, 0, rfl, OwnI.nil _ _, hb⟩
  · have hF : stepF x.k = 127 := by
      unfold stepF
      rw [if_neg (by omega), if_pos h]
    rw [hF]
    rw [stB_2 _ _ _ _ _ _ _ h] at hst
    obtain ⟨rfl, rfl, rfl, rfl, rfl⟩ := stV hst
    refine (atom_any wf wn wc cnt now tm S na nn nc hnn hnl (some ⟨ab, 0, none⟩) an ac x c.lo c.hi a n cc c.was _ rfl w hT).mono ?_
    rintro e w' ⟨rfl, hb⟩
    exact ⟨none, 0, rfl, OwnI.nil _ _, hb⟩
  · have hF : stepF x.k = 128 := by
      unfold stepF
      rw [if_neg (by omega), if_neg (by omega), if_pos h]
    rw [hF]
    rw [stB_3 _ _ _ _ _ _ _ h] at hst
    obtain ⟨p, hp, hpi, hpn⟩ := arms_a' hd (armsN_a (by omega))
    rw [hpn] at hst
    obtain ⟨rfl, rfl, rfl, rfl, rfl⟩ := stV hst
    refine (not_any wf wn wc cnt now tm na nn nc ab an ac x c.lo c.hi a n cc c.was p (by omega) ha hp (g p) w hab (hg p hpi)).mono ?_
    rintro e w' ⟨rfl, hb⟩
    exact ⟨none, 0, rfl, OwnI.nil _ _, hb⟩
  · have hF : stepF x.k = 129 := by
      unfold stepF
      rw [if_neg (by omega), if_neg (by omega), if_neg (by omega), if_pos h]
    rw [hF]
    rw [stB_4 _ _ _ _ _ _ _ h] at hst
    obtain ⟨p, hp, hpi, hpn⟩ := arms_a' hd (armsN_a (by omega))
    rw [hpn] at hst
    obtain ⟨r, hr, hri, hrn⟩ := arms_b' hd (armsN_b (by omega))
    rw [hrn] at hst
    obtain ⟨rfl, rfl, rfl, rfl, rfl⟩ := stV hst
    refine (and_any wf wn wc cnt now tm na nn nc ab an ac x c.lo c.hi a n cc c.was p r (by omega) (by omega) ha hp hr (g p) (g r) w hab (hg p hpi) (hg r hri)).mono ?_
    rintro e w' ⟨rfl, hb⟩
    exact ⟨none, 0, rfl, OwnI.nil _ _, hb⟩
  · have hF : stepF x.k = 130 := by
      unfold stepF
      rw [if_neg (by omega), if_neg (by omega), if_neg (by omega), if_neg (by omega), if_pos h]
    rw [hF]
    rw [stB_5 _ _ _ _ _ _ _ h] at hst
    obtain ⟨p, hp, hpi, hpn⟩ := arms_a' hd (armsN_a (by omega))
    rw [hpn] at hst
    obtain ⟨r, hr, hri, hrn⟩ := arms_b' hd (armsN_b (by omega))
    rw [hrn] at hst
    obtain ⟨rfl, rfl, rfl, rfl, rfl⟩ := stV hst
    refine (or_any wf wn wc cnt now tm na nn nc ab an ac x c.lo c.hi a n cc c.was p r (by omega) (by omega) ha hp hr (g p) (g r) w hab (hg p hpi) (hg r hri)).mono ?_
    rintro e w' ⟨rfl, hb⟩
    exact ⟨none, 0, rfl, OwnI.nil _ _, hb⟩
  · have hF : stepF x.k = 131 := by
      unfold stepF
      rw [if_neg (by omega), if_neg (by omega), if_neg (by omega), if_neg (by omega), if_neg (by omega), if_pos h]
    rw [hF]
    rw [stB_6 _ _ _ _ _ _ _ h] at hst
    obtain ⟨p, hp, hpi, hpn⟩ := arms_a' hd (armsN_a (by omega))
    rw [hpn] at hst
    obtain ⟨rfl, rfl, rfl, rfl, rfl⟩ := stV hst
    refine (prev_any wf wn wc cnt now tm na nn nc ab an ac x c.lo c.hi a n cc c.was t0 t1 p (by omega) ha hp (g p) _ rfl w hab (hg p hpi)).mono ?_
    rintro e w' ⟨rfl, hb⟩
    exact ⟨none, 0, rfl, OwnI.nil _ _, hb⟩
  · have hF : stepF x.k = 132 := by
      unfold stepF
      rw [if_neg (by omega), if_neg (by omega), if_neg (by omega), if_neg (by omega), if_neg (by omega), if_neg (by omega), if_pos h]
    rw [hF]
    rw [stB_7 _ _ _ _ _ _ _ h] at hst
    obtain ⟨p, hp, hpi, hpn⟩ := arms_a' hd (armsN_a (by omega))
    rw [hpn] at hst
    obtain ⟨hv, rfl, rfl, hY, rfl⟩ := stV hst
    rw [hY] at hv
    exact once_any wf wn wc cnt now tm na nn nc ab an ac x c.lo c.hi c.ts n hn a cc c.was hS hkr ht p (by omega) ha hp (g p) Y hY v hv w hab (hg p hpi) hA
  · have hF : stepF x.k = 133 := by
      unfold stepF
      rw [if_neg (by omega), if_neg (by omega), if_neg (by omega), if_neg (by omega), if_neg (by omega), if_neg (by omega), if_neg (by omega), if_pos h]
    rw [hF]
    rw [stB_8 _ _ _ _ _ _ _ h] at hst
    obtain ⟨p, hp, hpi, hpn⟩ := arms_a' hd (armsN_a (by omega))
    rw [hpn] at hst
    obtain ⟨hv, rfl, rfl, hY, rfl⟩ := stV hst
    rw [hY] at hv
    rw [← hv]
    exact hist_any wf wn wc cnt now tm na nn nc ab an ac x c.lo c.hi c.ts n hn a cc c.was hS hkr ht p (by omega) ha hp (g p) Y hY _ rfl w hab (hg p hpi) hA
  · have hF : stepF x.k = 134 := by
      unfold stepF
      rw [if_neg (by omega), if_neg (by omega), if_neg (by omega), if_neg (by omega), if_neg (by omega), if_neg (by omega), if_neg (by omega), if_neg (by omega)]
    rw [hF]
    rw [stB_9 _ _ _ _ _ _ _ h] at hst
    obtain ⟨p, hp, hpi, hpn⟩ := arms_a' hd (armsN_a (by omega))
    rw [hpn] at hst
    obtain ⟨r, hr, hri, hrn⟩ := arms_b' hd (armsN_b (by omega))
    rw [hrn] at hst
    obtain ⟨hv, rfl, rfl, hY, rfl⟩ := stV hst
    rw [hY] at hv
    exact since_any wf wn wc cnt now tm na nn nc ab an ac x c.lo c.hi c.ts n hn a cc c.was hS hkr ht p r (by omega) (by omega) ha hp hr (g p) (g r) Y hY v hv w hab (hg p hpi) (hg r hri) hA
end Go.Proofs.YtbfkbgmkibkbnaaGreatDoor
namespace Go.Proofs.YtbfkbgmkibkbnaaGreatDoor
open Go.RowKit
set_option linter.unusedVariables false
set_option linter.unusedSimpArgs false
theorem OwnI.slv {w : World} {base : Nat} {va : Option Addr} {vc : Nat} {Z : List Int} (h : OwnI w base (.slice va Z.length vc) Z) : SlV va Z.length vc := by
  rcases h.2 with ⟨e, h1⟩ | ⟨g, cap, cur, e, hb, hg, h1, h2, h3, h4⟩
  · injection e with e1 e2 e3
    exact Or.inl ⟨e1, e2, e3⟩
  · injection e with e1 e2 e3
    subst e3
    exact Or.inr ⟨g, 0, e1, h1, h2⟩
/-- A cell of the model's row, its times elsewhere. -/
def CkX (w : World) (T : Nat → Prop) (cb i : Nat) (d : Cl) : Prop := ∃ a c, w.cell? ⟨cb, i * 4, none⟩ = some (.int .i64 d.lo) ∧ w.cell? ⟨cb, i * 4 + 1, none⟩ = some (.int .i64 d.hi) ∧ w.cell? ⟨cb, i * 4 + 2, none⟩ = some (.slice a d.ts.length c) ∧ w.cell? ⟨cb, i * 4 + 3, none⟩ = some (.bool d.was) ∧ SlV a d.ts.length c ∧ ArgI w a d.ts ∧ (0 < d.ts.length → ∀ q, a = some q → ¬ T q.block)
/-- What l06Node leaves. -/
structure NdPost (w w' : World) (T : Nat → Prop) (cb i : Nat) (d : Cl) : Prop where
  sv : Save w w' (fun j => j = cb)
  ck : CkX w' T cb i d
  els : ∀ o, (o < i * 4 ∨ i * 4 + 4 ≤ o) → w'.cell? ⟨cb, o, none⟩ = w.cell? ⟨cb, o, none⟩
  fz : ∀ o, w'.frozen? ⟨cb, o, none⟩ = w.frozen? ⟨cb, o, none⟩
theorem NdPost.same {w w' : World} {T : Nat → Prop} {cb i : Nat} {d : Cl} (hb : Below w.heap.size w w') (hc : cb < w.heap.size) (h : CkX w T cb i d) : NdPost w w' T cb i d := by
  obtain ⟨a, c, h0, h1, h2, h3, h4, h5, h6⟩ := h
  exact ⟨Save.of_below hb _ (fun j h1 h2 => absurd h1 (by omega)), ⟨a, c, (hb.cell (p := ⟨cb, _, none⟩) hc).trans h0, (hb.cell (p := ⟨cb, _, none⟩) hc).trans h1, (hb.cell (p := ⟨cb, _, none⟩) hc).trans h2, (hb.cell (p := ⟨cb, _, none⟩) hc).trans h3, h4, h5.on hb, h6⟩, fun o _ => hb.cell (p := ⟨cb, o, none⟩) hc, fun o => hb.frozen (p := ⟨cb, o, none⟩) hc⟩
theorem NdPost.put {w w' : World} {T : Nat → Prop} {cb i : Nat} {lo hi : Int} {va : Option Addr} {vc : Nat} {Y : List Int} {was : Bool} (h : CkPut w w' cb i lo hi (.slice va Y.length vc) was) (hc : cb < w.heap.size) (ho : OwnI w' w.heap.size (.slice va Y.length vc) Y) (hT : ∀ j, T j → j < w.heap.size) : NdPost w w' T cb i ⟨lo, hi, Y, was⟩ :=
  ⟨h.sv, ⟨va, vc, h.p0, h.p1, h.p2, h.p3, ho.slv, ho.arg, fun _ q e hTq => by
    obtain ⟨a', c', e', _, _, hq⟩ := ho.form
    injection e' with e1
    have := (hq q (e1 ▸ e)).1
    have := hT _ hTq
    omega⟩, h.els, h.fz⟩
theorem nil_of {Z : List Int} (h : Z.length = 0) : Z = [] := List.eq_nil_of_length_eq_zero h
/-- A right cell of a node that keeps no times. -/
theorem cell_zero {cnt now : Int} {x : Nd} {c : Cl} (h : cellB cnt now x c = true) (hk : keepsK x.k = false) : c.lo = 0 ∧ c.hi = 0 ∧ c.ts = [] ∧ (x.k ≠ 6 → c.was = false) := by
  obtain ⟨_, h1, h2, h3, h4⟩ := cell_keeps h
  refine ⟨by rw [h1]; simp [bareLo, hk], by rw [h2]; simp [bareHi, hk], ?_, fun h6 => ?_⟩
  · rcases h3 with h3 | h3
    · exact nil_of h3
    · rw [hk] at h3; simp at h3
  · simp only [wasB, Bool.or_eq_true, Bool.and_eq_true, beq_iff_eq, Bool.not_eq_true'] at h4
    rcases h4 with h4 | h4
    · exact h4
    · exact absurd h4.1 h6
theorem keepsK_no {k : Int} (h : k ≤ 6) : keepsK k = false := by simp [keepsK]; omega
theorem was_no {cnt now : Int} {x : Nd} {c : Cl} (h : cellB cnt now x c = true) (h6 : x.k ≠ 6) : c.was = false := by
  obtain ⟨_, _, _, _, h4⟩ := cell_keeps h
  simp only [wasB, Bool.or_eq_true, Bool.and_eq_true, beq_iff_eq, Bool.not_eq_true'] at h4
  rcases h4 with h4 | h4
  · exact h4
  · exact absurd h4.1 h6
theorem wNode_any (q fb fn fc : Nat) (cnt now : Int) (cb cn cc i : Nat) (x : Nd) (c : Cl) (a : Option Addr) (ac : Nat) (hsl : SlV a c.ts.length ac) (hcell : cellB cnt now x c = true) (htn : timeB now = true) (tm : Int) (ht : timeB tm = true) (S : List ByteArray) (na : Option Addr) (nn nc : Nat) (hnn : S.length = nn) (hnl : nn ≤ maxLen) (hk : kindOk x.k) (hd : armsOk x i) (ab an mc : Nat) (aa : Option Addr) (haa : 0 < i → aa = some ⟨ab, 0, none⟩) (hin : i ≤ an) (ha : an ≤ 1048576) (g : Nat → Bool) (v : Bool) (d : Cl) (hst : stB cnt now tm S x c g = (v, d)) (w : World) (h : WnIn w q fb fn fc cnt now cb cn cc i x c a ac) (hfz : ∀ o, w.frozen? ⟨cb, o, none⟩ = false) (hA : ArgI w a c.ts) (T : Nat → Prop) (hTl : ∀ j, T j → j < w.heap.size) (hne : 0 < c.ts.length → ∀ q, a = some q → ¬ T q.block) (hab : 0 < i → ab < w.heap.size) (hg : ∀ p, p < i → w.cell? ⟨ab, p, none⟩ = some (.bool (g p))) (hT : TsAt w na S) :
    Calls Tryz.prog 105 #[.pointer (some ⟨q, 0, none⟩), .int .i64 i, .agg #[.int .i64 tm, .slice na nn nc], .slice aa an mc] w fun e w' => e = .returned (.bool v) ∧ NdPost w w' T cb i d := by
  have hkk : x.k = 1 ∨ x.k = 2 ∨ x.k = 3 ∨ x.k = 4 ∨ x.k = 5 ∨ x.k = 6 ∨ x.k = 7 ∨ x.k = 8 ∨ x.k = 9 := by obtain ⟨h1, h2⟩ := hk; omega
  obtain ⟨lo, hi, Y, was⟩ := d
  have hX : CkX w T cb i c := ⟨a, ac, h.k0, h.k1, h.k2, h.k3, hsl, hA, hne⟩
  have hkr := (cell_keeps hcell).1
  rcases hkk with hx | hx | hx | hx | hx | hx | hx | hx | hx
  · rw [stB_1 _ _ _ _ _ _ _ hx] at hst
    obtain ⟨z1, z2, z3, z4⟩ := cell_zero hcell (keepsK_no (by omega))
    obtain ⟨rfl, rfl, rfl, rfl, rfl⟩ := stV hst
    have hc0 : c = ⟨0, 0, [], false⟩ := by obtain ⟨q1, q2, q3, q4⟩ := c; simp only at z1 z2 z3 z4; rw [z1, z2, z3, z4 (by omega)]
    refine (wNode1 q fb fn fc cnt now cb cn cc i x c a ac tm S na nn nc aa an mc hx w h).mono ?_
    rintro e w' ⟨rfl, hb⟩
    exact ⟨rfl, NdPost.same hb h.cl (hc0 ▸ hX)⟩
  · rw [stB_2 _ _ _ _ _ _ _ hx] at hst
    obtain ⟨z1, z2, z3, z4⟩ := cell_zero hcell (keepsK_no (by omega))
    obtain ⟨rfl, rfl, rfl, rfl, rfl⟩ := stV hst
    have hc0 : c = ⟨0, 0, [], false⟩ := by obtain ⟨q1, q2, q3, q4⟩ := c; simp only at z1 z2 z3 z4; rw [z1, z2, z3, z4 (by omega)]
    refine (wNode2 q fb fn fc cnt now cb cn cc i x c a ac tm S na nn nc aa an mc hx hnn hnl _ rfl w h hT).mono ?_
    rintro e w' ⟨rfl, hb⟩
    exact ⟨rfl, NdPost.same hb h.cl (hc0 ▸ hX)⟩
  · rw [stB_3 _ _ _ _ _ _ _ hx] at hst
    obtain ⟨p, hp, hpi, hpn⟩ := arms_a' hd (armsN_a (by omega))
    rw [hpn] at hst
    obtain rfl := haa (by omega)
    have hab' := hab (by omega)
    obtain ⟨z1, z2, z3, z4⟩ := cell_zero hcell (keepsK_no (by omega))
    obtain ⟨rfl, rfl, rfl, rfl, rfl⟩ := stV hst
    have hc0 : c = ⟨0, 0, [], false⟩ := by obtain ⟨q1, q2, q3, q4⟩ := c; simp only at z1 z2 z3 z4; rw [z1, z2, z3, z4 (by omega)]
    refine (wNode3 q fb fn fc cnt now cb cn cc i x c a ac tm S na nn nc (some ⟨ab, 0, none⟩) an mc hx p hp (by omega) ha ab (g p) w h hab' (hg p hpi)).mono ?_
    rintro e w' ⟨rfl, hb⟩
    exact ⟨rfl, NdPost.same hb h.cl (hc0 ▸ hX)⟩
  · rw [stB_4 _ _ _ _ _ _ _ hx] at hst
    obtain ⟨p, hp, hpi, hpn⟩ := arms_a' hd (armsN_a (by omega))
    rw [hpn] at hst
    obtain rfl := haa (by omega)
    have hab' := hab (by omega)
    obtain ⟨r, hr, hri, hrn⟩ := arms_b' hd (armsN_b (by omega))
    rw [hrn] at hst
    obtain ⟨z1, z2, z3, z4⟩ := cell_zero hcell (keepsK_no (by omega))
    obtain ⟨rfl, rfl, rfl, rfl, rfl⟩ := stV hst
    have hc0 : c = ⟨0, 0, [], false⟩ := by obtain ⟨q1, q2, q3, q4⟩ := c; simp only at z1 z2 z3 z4; rw [z1, z2, z3, z4 (by omega)]
    refine (wNode4 q fb fn fc cnt now cb cn cc i x c a ac tm S na nn nc (some ⟨ab, 0, none⟩) an mc hx p r hp hr (by omega) (by omega) ha ab (g p) (g r) w h hab' (hg p hpi) (hg r hri)).mono ?_
    rintro e w' ⟨rfl, hb⟩
    exact ⟨rfl, NdPost.same hb h.cl (hc0 ▸ hX)⟩
  · rw [stB_5 _ _ _ _ _ _ _ hx] at hst
    obtain ⟨p, hp, hpi, hpn⟩ := arms_a' hd (armsN_a (by omega))
    rw [hpn] at hst
    obtain rfl := haa (by omega)
    have hab' := hab (by omega)
    obtain ⟨r, hr, hri, hrn⟩ := arms_b' hd (armsN_b (by omega))
    rw [hrn] at hst
    obtain ⟨z1, z2, z3, z4⟩ := cell_zero hcell (keepsK_no (by omega))
    obtain ⟨rfl, rfl, rfl, rfl, rfl⟩ := stV hst
    have hc0 : c = ⟨0, 0, [], false⟩ := by obtain ⟨q1, q2, q3, q4⟩ := c; simp only at z1 z2 z3 z4; rw [z1, z2, z3, z4 (by omega)]
    refine (wNode5 q fb fn fc cnt now cb cn cc i x c a ac tm S na nn nc (some ⟨ab, 0, none⟩) an mc hx p r hp hr (by omega) (by omega) ha ab (g p) (g r) w h hab' (hg p hpi) (hg r hri)).mono ?_
    rintro e w' ⟨rfl, hb⟩
    exact ⟨rfl, NdPost.same hb h.cl (hc0 ▸ hX)⟩
  · rw [stB_6 _ _ _ _ _ _ _ hx] at hst
    obtain ⟨p, hp, hpi, hpn⟩ := arms_a' hd (armsN_a (by omega))
    rw [hpn] at hst
    obtain rfl := haa (by omega)
    have hab' := hab (by omega)
    obtain ⟨z1, z2, z3, z4⟩ := cell_zero hcell (keepsK_no (by omega))
    obtain ⟨rfl, rfl, rfl, rfl, rfl⟩ := stV hst
    obtain ⟨q1, q2, q3, q4⟩ := c
    simp only at z1 z2 z3
    subst z1 z2 z3
    refine (wNode6 q fb fn fc cnt now cb cn cc i x 0 0 [] q4 a ac tm (timeB_parts htn) (timeB_parts ht) na nn nc an mc hx p hp (by omega) ha ab (g p) _ rfl w h hfz hab' (hg p hpi)).mono ?_
    rintro e w' ⟨rfl, hp'⟩
    exact ⟨rfl, hp'.sv, ⟨a, ac, hp'.p0, hp'.p1, hp'.p2, hp'.p3, hsl, Or.inl rfl, fun h => absurd h (by simp)⟩, hp'.els, hp'.fz⟩
  · rw [stB_7 _ _ _ _ _ _ _ hx] at hst
    obtain ⟨p, hp, hpi, hpn⟩ := arms_a' hd (armsN_a (by omega))
    rw [hpn] at hst
    obtain rfl := haa (by omega)
    have hab' := hab (by omega)
    obtain ⟨hv, rfl, rfl, hY, rfl⟩ := stV hst
    rw [hY] at hv
    rcases Bool.eq_false_or_eq_true (g p) with hgp | hgp
    · rw [hgp] at hY
      refine (wK7t q fb fn fc cnt now cb cn cc i x c a ac hkr tm ht na nn nc an mc hx p hp (by omega) ha ab Y hY v hv w h hfz hA hab' (by rw [hg p hpi, hgp])).mono ?_
      rintro e w' ⟨rfl, va', vc, hcp, hown⟩
      rw [was_no hcell (by omega)] at hcp
      exact ⟨rfl, NdPost.put hcp h.cl hown hTl⟩
    · rw [hgp] at hY
      refine (wK7f q fb fn fc cnt now cb cn cc i x c a ac hkr tm ht na nn nc an mc hx p hp (by omega) ha ab Y hY v hv w h hfz hA hab' (by rw [hg p hpi, hgp])).mono ?_
      rintro e w' ⟨rfl, va', vc, hcp, hown⟩
      rw [was_no hcell (by omega)] at hcp
      exact ⟨rfl, NdPost.put hcp h.cl hown hTl⟩
  · rw [stB_8 _ _ _ _ _ _ _ hx] at hst
    obtain ⟨p, hp, hpi, hpn⟩ := arms_a' hd (armsN_a (by omega))
    rw [hpn] at hst
    obtain rfl := haa (by omega)
    have hab' := hab (by omega)
    obtain ⟨hv, rfl, rfl, hY, rfl⟩ := stV hst
    rw [hY] at hv
    rw [← hv]
    rcases Bool.eq_false_or_eq_true (g p) with hgp | hgp
    · rw [hgp] at hY
      refine (wK8t q fb fn fc cnt now cb cn cc i x c a ac hkr tm ht na nn nc an mc hx p hp (by omega) ha ab Y hY _ rfl w h hfz hA hab' (by rw [hg p hpi, hgp])).mono ?_
      rintro e w' ⟨rfl, va', vc, hcp, hown⟩
      rw [was_no hcell (by omega)] at hcp
      exact ⟨rfl, NdPost.put hcp h.cl hown hTl⟩
    · rw [hgp] at hY
      refine (wK8f q fb fn fc cnt now cb cn cc i x c a ac hkr tm ht na nn nc an mc hx p hp (by omega) ha ab Y hY _ rfl w h hfz hA hab' (by rw [hg p hpi, hgp])).mono ?_
      rintro e w' ⟨rfl, va', vc, hcp, hown⟩
      rw [was_no hcell (by omega)] at hcp
      exact ⟨rfl, NdPost.put hcp h.cl hown hTl⟩
  · rw [stB_9 _ _ _ _ _ _ _ hx] at hst
    obtain ⟨p, hp, hpi, hpn⟩ := arms_a' hd (armsN_a (by omega))
    rw [hpn] at hst
    obtain rfl := haa (by omega)
    have hab' := hab (by omega)
    obtain ⟨r, hr, hri, hrn⟩ := arms_b' hd (armsN_b (by omega))
    rw [hrn] at hst
    obtain ⟨hv, rfl, rfl, hY, rfl⟩ := stV hst
    rw [hY] at hv
    rcases Bool.eq_false_or_eq_true (g p) with hgp | hgp <;> rcases Bool.eq_false_or_eq_true (g r) with hgr | hgr
    · rw [hgp, hgr] at hY
      simp only [if_true, Bool.false_eq_true, if_false] at hY
      refine (wK9tt q fb fn fc cnt now cb cn cc i x c a ac hkr tm ht na nn nc an mc hx p hp (by omega) r hr (by omega) ha ab Y hY v hv w h hfz hA hab' (by rw [hg p hpi, hgp]) (by rw [hg r hri, hgr])).mono ?_
      rintro e w' ⟨rfl, va', vc, hcp, hown⟩
      rw [was_no hcell (by omega)] at hcp
      exact ⟨rfl, NdPost.put hcp h.cl hown hTl⟩
    · rw [hgp, hgr] at hY
      simp only [if_true, Bool.false_eq_true, if_false] at hY
      refine (wK9tf q fb fn fc cnt now cb cn cc i x c a ac hkr tm ht na nn nc an mc hx p hp (by omega) r hr (by omega) ha ab Y hY v hv w h hfz hA hab' (by rw [hg p hpi, hgp]) (by rw [hg r hri, hgr])).mono ?_
      rintro e w' ⟨rfl, va', vc, hcp, hown⟩
      rw [was_no hcell (by omega)] at hcp
      exact ⟨rfl, NdPost.put hcp h.cl hown hTl⟩
    · rw [hgp, hgr] at hY
      simp only [if_true, Bool.false_eq_true, if_false] at hY
      refine (wK9ft q fb fn fc cnt now cb cn cc i x c a ac hkr tm ht na nn nc an mc hx p hp (by omega) r hr (by omega) ha ab Y hY v hv w h hfz hA hab' (by rw [hg p hpi, hgp]) (by rw [hg r hri, hgr])).mono ?_
      rintro e w' ⟨rfl, va', vc, hcp, hown⟩
      rw [was_no hcell (by omega)] at hcp
      exact ⟨rfl, NdPost.put hcp h.cl hown hTl⟩
    · rw [hgp, hgr] at hY
      simp only [if_true, Bool.false_eq_true, if_false] at hY
      refine (wK9ff q fb fn fc cnt now cb cn cc i x c a ac hkr tm ht na nn nc an mc hx p hp (by omega) r hr (by omega) ha ab Y hY v hv w h hfz hA hab' (by rw [hg p hpi, hgp]) (by rw [hg r hri, hgr])).mono ?_
      rintro e w' ⟨rfl, va', vc, hcp, hown⟩
      rw [was_no hcell (by omega)] at hcp
      exact ⟨rfl, NdPost.put hcp h.cl hown hTl⟩
end Go.Proofs.YtbfkbgmkibkbnaaGreatDoor
namespace Go.Proofs.YtbfkbgmkibkbnaaGreatDoor
open Go.RowKit
set_option linter.unusedVariables false
set_option linter.unusedSimpArgs false

def str (l : List UInt8) : ByteArray := ⟨l.toArray⟩
def bV (b : UInt8) : Value := .int .u8 (b.toNat : Int)
theorem Tryz.infoU8 : (Tryz.prog.info? 5).map (fun i => (i.zero, i.size, i.bytes)) = some (some (.int .u8 0), 1, 1) := by kernel_rfl
/-- A row of bytes of the call's own: block B, of which the first bytes are p. -/
def Row (w : World) (B n : Nat) (T : TypeId) (p : List UInt8) : Prop := ∃ cur, w.heap[B]? = some (.cells cur T (0, 0)) ∧ cur.size = n ∧ cur.toList.take p.length = p.map bV
theorem addr_add (g j : Nat) : (⟨g, 0, none⟩ : Addr).add j = ⟨g, j, none⟩ := by
  simp only [Addr.add]
  split
  · simp_all
  · simp
theorem Tryz.sizeU8 (w : World) : (sizeOf 5).run Tryz.prog w = .ok 1 w := by kernel_rfl
theorem copyCells (s : ByteArray) : List.take s.size (List.map (fun b : UInt8 => Value.int IntKind.u8 (b.toNat : Int)) s.data.toList) = s.data.toList.map bV := by
  rw [List.take_of_length_le (by rw [List.length_map]; exact Nat.le_refl _)]
  rfl
theorem Row.copy {w : World} {B n : Nat} {p : List UInt8} (h : Row w B n 5 p) (s : ByteArray) (dLen dCap : Nat) (hfit : p.length + s.size ≤ n) (hle : s.size ≤ dLen) :
    ∃ w2, (∀ ty, (Builtin.copy_ #[22, 9] ty #[.slice (some ⟨B, p.length, none⟩) dLen dCap, .string s]).run Tryz.prog w = .ok (goInt s.size) w2) ∧ Row w2 B n 5 (p ++ s.data.toList) ∧ (∀ B0 w0, B0 ≤ B → Below B0 w0 w → Below B0 w0 w2) := by
  obtain ⟨cur, hb, hs, ht⟩ := h
  have hl : (s.data.toList.map bV).length = s.size := by rw [List.length_map]; rfl
  have hst := run_storeCells_at (P := Tryz.prog) B p.length 5 (s.data.toList.map bV) 0 cur w hb (by rw [hl]; omega) (by
    intro v hv
    obtain ⟨b, _, rfl⟩ := List.mem_map.1 hv
    rfl)
  rw [hl] at hst
  simp only [Nat.add_zero] at hst
  refine ⟨w.setRow B (cur.toList.take p.length ++ s.data.toList.map bV ++ cur.toList.drop (p.length + s.size)).toArray, ?_, ⟨_, setRow_heap w B cur _ 5 (0, 0) hb, ?_, ?_⟩, fun B0 w0 hB hbel => hbel.trans ⟨rfl, rfl, rfl, by simp [World.setRow], fun k hk => setRow_other w B k _ (by omega)⟩⟩
  · intro ty
    have hmin : Nat.min s.size dLen = s.size := Nat.min_eq_left hle
    simp [Builtin.copy_, run_underlying Tryz.underlying22, Builtin.lenOf, Builtin.firstCells, hmin]
    rw [copyCells, hst]
    simp [Result.andThen]
  · have h5 : s.data.toList.length = s.size := rfl
    simp [hs]
    have : s.data.size = s.size := rfl
    omega
  · have h5 : s.data.toList.length = s.size := rfl
    rw [ht, List.toList_toArray, List.length_append, h5]
    rw [List.take_append_of_le_length (by simp)]
    rw [List.take_of_length_le (by simp)]
    simp
theorem str_self (a : ByteArray) : str a.data.toList = a := by
  apply ByteArray.ext
  simp [str]
theorem Tryz.cellsU8 : Tryz.prog.cellsOf 5 = 1 := by kernel_rfl
theorem Row.unsafeText {w : World} {B n : Nat} {s : ByteArray} (h : Row w B n 5 s.data.toList) (hp : 0 < s.size) (hn : s.size ≤ n) (h63 : s.size ≤ 9223372036854775807) (ty : TypeId) :
    (Builtin.unsafeString_ #[212, 3] ty #[.pointer (some ⟨B, 0, none⟩), .int .i64 s.size]).run Tryz.prog w = .ok (.string s) (w.freeze ⟨B, 0, none⟩ s.size) := by
  obtain ⟨cur, hb, hs, ht⟩ := h
  have hsz : s.data.toList.length = s.size := rfl
  have hr := Lib.run_unsafeString_row (P := Tryz.prog) w 212 3 ty 5 Tryz.underlying212 Tryz.cellsU8 B n (by simp [World.shape?, hb, hs]) s.data.toList (by intro h0; rw [h0] at hsz; simp at hsz; omega) (by rw [hsz]; exact hn) (by rw [hsz]; exact h63) (by
    intro j x hj
    have hj' : j < s.data.toList.length := (List.getElem?_eq_some_iff.1 hj).1
    rw [addr_add, cell_of_row w B j cur 5 (0, 0) hb]
    have h1 : (cur.toList.take s.data.toList.length)[j]? = (s.data.toList.map bV)[j]? := by rw [ht]
    rw [List.getElem?_take, if_pos hj', List.getElem?_map, hj] at h1
    simpa [bV] using h1)
  rw [hsz] at hr
  rw [hr]

set_option maxHeartbeats 1000000 in
set_option maxRecDepth 100000 in
theorem clone_any (s : ByteArray) (hs : s.size ≤ 10000) (w : World) :
    Calls Tryz.prog 94 #[.string s] w fun e w' => e = .returned (.string s) ∧ Below w.heap.size w w' := by
  by_cases h0 : s.size = 0
  · obtain rfl : s = ByteArray.empty := ByteArray.size_eq_zero_iff.1 h0
    go_enter Tryz.func94, Tryz.ntmps94
    go_wp2
    go_ret
    exact ⟨rfl, Below.refl _ _⟩
  · obtain ⟨i0, hi, hz0, hz1, hz2⟩ := info_parts Tryz.infoU8
    have hp : 0 < s.size := by omega
    go_enter Tryz.func94, Tryz.ntmps94
    go_wp2_with (first | go_in | (at_make; refine wpList_make_full _ rfl (.tmp 8) (.tmp 8) 22 rfl w.heap.size 5 i0 (.int .u8 0) 1 Tryz.underlying22 hi hz0 hz1 .i64 .i64 _ _ s.size rfl rfl rfl rfl ?b2 ?b3 ?b4 ?_))
    case b2 => rw [hz2]; omega
    case b3 => unfold maxLen; omega
    case b4 => exact Nat.le_refl _
    intro w1 hown hgrow
    have hrow : Row w1 w.heap.size s.size 5 [] := by
      rcases hown.2 with ⟨h', _⟩ | ⟨g', cap', cur, h', _, hg, _, _, hcs, _⟩
      · simp at h'
      · simp only [Value.slice.injEq, Option.some.injEq, Addr.mk.injEq, and_true, true_and] at h'
        obtain ⟨rfl, rfl⟩ := h'
        exact ⟨cur, hg, by omega, rfl⟩
    have hbel : Below w.heap.size w w1 := (Below.refl _ _).grown hgrow (Nat.le_refl _) (by simp)
    obtain ⟨w2, hc1, hrow2, hb2⟩ := hrow.copy s s.size s.size (by simp) (Nat.le_refl _)
    have hbel2 := hb2 _ _ (Nat.le_refl _) hbel
    simp only [List.length_nil, List.nil_append] at hc1 hrow2
    have hus := fun ty => hrow2.unsafeText hp (Nat.le_refl _) (by omega) ty
    have HB : Hid (Below w.heap.size w (w2.freeze ⟨w.heap.size, 0, none⟩ s.size)) := Lib.below_freeze hbel2 (Nat.le_refl _) _
    clear hown hgrow hrow hbel hb2 hrow2 hbel2
    go_wp2
    go_ret
    exact ⟨rfl, HB.out⟩
end Go.Proofs.YtbfkbgmkibkbnaaGreatDoor
namespace Go.Proofs.YtbfkbgmkibkbnaaGreatDoor
open Go.RowKit
set_option linter.unusedVariables false
set_option linter.unusedSimpArgs false
theorem Tryz.uFm : Tryz.prog.underlying 86 = some (.slice 81) := by kernel_rfl
theorem eqIn_nil (w : World) (d : Nat) (t e : TypeId) (a : Addr) (l c : Nat) (h : Tryz.prog.underlying t = some (.slice e)) : (Op.equalIn (d + 1) t (.slice (some a) l c) (.slice none 0 0)).run Tryz.prog w = .ok false w := by
  simp [Op.equalIn, run_underlying h]
theorem equal_nil (w : World) (t e : TypeId) (a : Addr) (l c : Nat) (h : Tryz.prog.underlying t = some (.slice e)) : (Op.equal t (.slice (some a) l c) (.slice none 0 0)).run Tryz.prog w = .ok false w := eqIn_nil w 9999 t e a l c h
theorem eql_nil (w : World) (t e : TypeId) (a : Addr) (l c : Nat) (h : Tryz.prog.underlying t = some (.slice e)) : (binOp .eql t (.slice (some a) l c) (.slice none 0 0)).run Tryz.prog w = .ok (.bool false) w := by
  simp [binOp, equal_nil w t e a l c h]
theorem ownsN_none (w : World) (base : Nat) (h : base ≤ w.heap.size) : OwnsN (w.alloc (.cells #[] 81)) base (.slice (some ⟨w.heap.size, 0, none⟩) 0 0) [] :=
  World.ownsRow_made w #[] 0 h (by simp [maxLen]) (by simp)
theorem flatN_cells {W : World} {b : Nat} {f : List Nd} (h : NodesAt W b f) : ∀ j u, (flatN f)[j]? = some u → W.cell? ((⟨b, 0, none⟩ : Addr).add j) = some u := by
  intro j u hu
  have hj : j < f.length * 6 := by rw [← flatN_len]; exact (List.getElem?_eq_some_iff.1 hu).1
  have hi : j / 6 < f.length := by omega
  have e : j = j / 6 * 6 + j % 6 := by omega
  rw [e, flatN_get f (j / 6) (j % 6) hi (by omega)] at hu
  obtain ⟨c0, c1, c2, c3, c4, c5⟩ := h.2 (j / 6) hi
  rw [Addr.add_lit, Nat.zero_add]
  have hc : j % 6 = 0 ∨ j % 6 = 1 ∨ j % 6 = 2 ∨ j % 6 = 3 ∨ j % 6 = 4 ∨ j % 6 = 5 := by omega
  rw [e]
  generalize j / 6 = q at *
  generalize j % 6 = r at *
  rcases hc with rfl | rfl | rfl | rfl | rfl | rfl
  · simp [ndCells] at hu; rw [← hu]; exact c0
  · simp [ndCells] at hu; rw [← hu]; exact c1
  · simp [ndCells] at hu; rw [← hu]; exact c2
  · simp [ndCells] at hu; rw [← hu]; exact c3
  · simp [ndCells] at hu; rw [← hu]; exact c4
  · simp [ndCells] at hu; rw [← hu]; exact c5
theorem flatN_one (f : List Nd) : ∀ u ∈ flatN f, u.oneCell' = true := by
  intro u hu
  obtain ⟨x, _, hx⟩ := List.mem_flatMap.1 hu
  simp only [ndCells, List.mem_cons, List.not_mem_nil, or_false] at hx
  rcases hx with rfl | rfl | rfl | rfl | rfl | rfl <;> rfl
set_option maxRecDepth 20000 in
set_option maxHeartbeats 2000000 in
theorem cloneN_any (f : List Nd) (b cap : Nat) (hl : f.length ≤ 1048576) (w : World) (hN : NodesAt w b f) :
    Calls Tryz.prog 93 #[.slice (some ⟨b, 0, none⟩) f.length cap] w fun e w' => ∃ v, e = .returned v ∧ OwnsN w' w.heap.size v f ∧ Below w.heap.size w w' := by
  obtain ⟨i0, hi0, hz0, hz1, hz2⟩ := info_parts Tryz.infoN
  have HN := hid (hN.below (below_one' w (.cells #[] 81)) hN.1)
  have HB0 := hid (below_one' w (.cells #[] 81))
  have hnil : ∀ W, (binOp .eql 86 (.slice (some ⟨b, 0, none⟩) f.length cap) (.slice none 0 0)).run Tryz.prog W = .ok (.bool false) W := fun W => eql_nil W 86 _ ⟨b, 0, none⟩ _ _ Tryz.uFm
  clear hN
  go_enter Tryz.func93, Tryz.ntmps93
  go_wp2_with (at_builtin; go_loud (refine wpList_append_own_at _ rfl _ _ 86 rfl w.heap.size 81 i0 _ 6 56 Tryz.uFm hi0 hz0 hz1 hz2 rfl (by decide) _ 0 [] rfl (ownsN_none w w.heap.size (Nat.le_refl _)) ⟨b, 0, none⟩ f.length cap (flatN f) rfl (flatN_len f) (flatN_cells HN.out) (flatN_one f) (by unfold maxLen; omega) (by omega) (by simp) ?_; intro v5 w5 hown5 hgrow5 _ hat5; have HO5 : Hid (OwnsN w5 w.heap.size v5 f) := (by show w5.ownsRow _ _ _ _ _ _; simpa using hown5); have hs5 : Save w w5 (fun _ => False) := ((Save.refl w (fun _ => False)).alloc _).grown hgrow5 (fun k hk h => by simp [Value.ownBlock, Act.eval, Act.put] at hk; omega); have HB5 := hid (hs5.below (B := w.heap.size) (Nat.le_refl _) (fun j h => h.elim)); clear hown5 hgrow5 hat5 hs5))
  go_ret
  exact ⟨v5, rfl, HO5.out, HB5.out⟩
/-- A row of nodes that a call owns, as a row that may be longer. -/
theorem OwnsN.row {w : World} {base : Nat} {v : Value} {f : List Nd} (h : OwnsN w base v f) (h0 : 0 < f.length) : ∃ g c m z, v = .slice (some ⟨g, 0, none⟩) f.length c ∧ SlV (some ⟨g, 0, none⟩) f.length c ∧ base ≤ g ∧ f.length * 6 ≤ m ∧ w.rowIs g 81 m z ∧ (∀ i, i < f.length → z (i * 6 + 5) = .string (ndAt f i).nm) ∧ ∀ w' : World, w'.rowIs g 81 m z → NodesAt w' g f := by
  have hO := h
  rcases h.2 with ⟨_, h1⟩ | ⟨g, cap, cur, rfl, hb, hg, h1, h2, h3, h4⟩
  · omega
  · have hrow : w.rowIs g 81 cur.size (fun j => cur.getD j undef) := ⟨cur, hg, rfl, fun i hi => by simp [hi]⟩
    have hat := hO.at
    have key : ∀ i j v, i < f.length → j < 6 → w.cell? ⟨g, i * 6 + j, none⟩ = some v → cur.getD (i * 6 + j) undef = v := by
      intro i j v hi hj hc
      have h5 := hrow.cell (i := i * 6 + j) (by omega)
      rw [hc] at h5
      exact (Option.some.inj h5).symm
    refine ⟨g, cap, cur.size, _, rfl, Or.inr ⟨g, 0, rfl, h1, h2⟩, hb, by omega, hrow, fun i hi => key i 5 _ hi (by omega) (hat.2 i hi).c5, fun w' hr => ⟨hr.lt, fun i hi => ?_⟩⟩
    obtain ⟨c0, c1, c2, c3, c4, c5⟩ := hat.2 i hi
    have cell : ∀ j v, j < 6 → w.cell? ⟨g, i * 6 + j, none⟩ = some v → w'.cell? ⟨g, i * 6 + j, none⟩ = some v := fun j v hj hc => by
      rw [hr.cell (i := i * 6 + j) (by omega), key i j v hi hj hc]
    exact ⟨cell 0 _ (by omega) c0, cell 1 _ (by omega) c1, cell 2 _ (by omega) c2, cell 3 _ (by omega) c3, cell 4 _ (by omega) c4, cell 5 _ (by omega) c5⟩
set_option maxRecDepth 20000 in
set_option maxHeartbeats 4000000 in
theorem own_nodes (f : List Nd) (b cap : Nat) (h0 : 0 < f.length) (hl : f.length ≤ 1048576) (hnm : ∀ i, i < f.length → (ndAt f i).nm.size ≤ 10000) (w : World) (hN : NodesAt w b f) :
    Calls Tryz.prog 51 #[.slice (some ⟨b, 0, none⟩) f.length cap] w fun e w' => ∃ g c m z, e = .returned (.slice (some ⟨g, 0, none⟩) f.length c) ∧ SlV (some ⟨g, 0, none⟩) f.length c ∧ w.heap.size ≤ g ∧ f.length * 6 ≤ m ∧ w'.rowIs g 81 m z ∧ NodesAt w' g f ∧ Below w.heap.size w w' := by
  have HN := hid hN
  have HNm := hid hnm
  have HC := hid (cloneN_any f b cap hl w hN)
  have hbw := hN.1
  clear hN hnm
  go_enter Tryz.func51, Tryz.ntmps51
  go_wp2_with (go_at_call 93; refine HC.out.mono ?_; rintro e w1 ⟨v1, rfl, hO1, hb1⟩; obtain ⟨g, c, m, z, rfl, hsl, hg, hm, hr1, hz5, hall⟩ := hO1.row h0; have HSL := hid hsl; have HR1 := hid hr1; have HZ5 := hid hz5; have HAll := hid hall; have HB1 := hid hb1; clear hO1 hb1 hsl hr1 hz5 hall)
  go_loopw [10] (fun t wr => ∃ k : Nat, k ≤ f.length ∧ t = .int .i64 k ∧ wr.rowIs g 81 m z ∧ Below w.heap.size w wr) (fun t _ => f.length - (intOf t).toNat)
  case atStart => exact ⟨0, Nat.zero_le _, rfl, HR1.out, HB1.out⟩
  case round =>
    obtain ⟨k, hk, rfl, hrow, hbel⟩ := hrel
    have HRow := hid hrow
    have HB := hid hbel
    have hgr := hrow.lt
    clear hrow hbel
    by_cases hlt : k < f.length
    · obtain ⟨n0, n1, n2, n3, n4, n5⟩ := (HN.out.2 k hlt).below HB.out hbw
      have hbr : b < wr.heap.size := by have := HB.out.size; omega
      have hn10 := HNm.out k hlt
      have HZk := hid (HZ5.out k hlt)
      have HBa := hid (below_one' wr (.cells #[.int .i64 (ndAt f k).k, .int .i64 (ndAt f k).a, .int .i64 (ndAt f k).b, .int .i64 (ndAt f k).lo, .int .i64 (ndAt f k).hi, .string (ndAt f k).nm] 81))
      have HCl := hid (fun w => clone_any (ndAt f k).nm hn10 w)
      generalize ndAt f k = x at *
      go_wp2_with (go_at_call 94; refine (HCl.out _).mono ?_; rintro e w2 ⟨rfl, hb2⟩; have HB2 := hid (HB.out.trans ((HBa.out.trans (hb2.mono HBa.out.size)).mono HB.out.size)); have HR2 := hid ((World.rowIs.alloc HRow.out _).of_block (hb2.block g (by simp; omega))); have d5 := HR2.out.cell (i := k * 6 + 5) (by omega); have f5 := HR2.out.frozen (k * 6 + 5); clear hb2)
      go_roundw
      case rel =>
        refine ⟨k + 1, by omega, by go_num, (HR2.out.set (k * 6 + 5) _).congr (fun j hj => ?_), HB2.out.setCell hg _⟩
        by_cases e : j = k * 6 + 5
        · subst e; simp [HZk.out]
        · simp [e]
      case measure => simp [intOf]; omega
    · have hk' : k = f.length := by omega
      subst hk'
      go_wp2_with fail
      go_ret
      exact ⟨g, c, m, z, rfl, HSL.out, hg, hm, HRow.out, HAll.out _ HRow.out, HB.out⟩
end Go.Proofs.YtbfkbgmkibkbnaaGreatDoor
namespace Go.Proofs.YtbfkbgmkibkbnaaGreatDoor
open Go.RowKit
set_option linter.unusedVariables false
set_option linter.unusedSimpArgs false
/-- The cells of a formula of which no event is known. -/
def bareC (f : List Nd) : List Cl := f.map fun x => ⟨bareLo x, bareHi x, [], false⟩
theorem bareC_len (f : List Nd) : (bareC f).length = f.length := by simp [bareC]
theorem bareC_at (f : List Nd) (i : Nat) (h : i < f.length) : clAt (bareC f) i = ⟨bareLo (ndAt f i), bareHi (ndAt f i), [], false⟩ := by
  simp [bareC, clAt, ndAt, List.getD, h]
def noTs (i : Nat) : Value := .slice none 0 0
/-- A row of cells none of which has times. -/
def BareRow (w : World) (g : Nat) (f : List Nd) (m : Nat) (z : Nat → Value) (k : Nat) : Prop := w.rowIs g 96 m (rowC (bareC f) noTs z k)
theorem BareRow.cks {w : World} {g : Nat} {f : List Nd} {m : Nat} {z : Nat → Value} (h : BareRow w g f m z f.length) (hm : f.length * 4 ≤ m) : CksAt w (some ⟨g, 0, none⟩) (bareC f) := by
  refine Or.inr ⟨g, 0, rfl, World.rowIs.lt h, fun i hi => ?_⟩
  rw [bareC_len] at hi
  have hr : w.rowIs g 96 m (rowC (bareC f) noTs z f.length) := h
  refine ⟨?_, ?_, ?_, none, 0, ?_, ?_, ?_⟩
  · rw [show 0 + i * 4 = i * 4 by omega, hr.cell (by omega)]
    unfold rowC
    rw [if_pos (by omega), if_pos (by omega), show i * 4 / 4 = i by omega]
  · rw [show 0 + i * 4 + 1 = i * 4 + 1 by omega, hr.cell (by omega)]
    unfold rowC
    rw [if_pos (by omega), if_neg (by omega), if_pos (by omega), show (i * 4 + 1) / 4 = i by omega]
  · rw [show 0 + i * 4 + 3 = i * 4 + 3 by omega, hr.cell (by omega)]
    unfold rowC
    rw [if_pos (by omega), if_neg (by omega), if_neg (by omega), if_neg (by omega), show (i * 4 + 3) / 4 = i by omega]
  · rw [show 0 + i * 4 + 2 = i * 4 + 2 by omega, hr.cell (by omega)]
    unfold rowC
    rw [if_pos (by omega), if_neg (by omega), if_neg (by omega), if_pos (by omega), bareC_at f i hi]
    rfl
  · rw [bareC_at f i hi]
    exact slV_nil
  · rw [bareC_at f i hi]
    exact Or.inl rfl
def zCk : Array Value := #[.int .i64 0, .int .i64 0, .slice none 0 0, .bool false]
def zC (j : Nat) : Value := zCk[j % 4]!
theorem run_makeCk (n : Nat) (hn : n ≤ 1048576) (w : World) : Sem.run Tryz.prog (Instr.makeSlice 32 (.int .i64 n) (.int .i64 n)) w = .ok (.slice (some ⟨w.heap.size, 0, none⟩) n n) (w.alloc (.cells (madeCells zCk (n * 4)) 96)) := by
  obtain ⟨i0, hi, hz0, hz1, hz2⟩ := info_parts Tryz.infoCk
  have h := run_make (P := Tryz.prog) w 32 96 i0 _ Tryz.uCks hi hz0 .i64 .i64 n n (by omega) (Int.le_refl _) (by rw [hz2]; omega) (by omega)
  rw [hz1] at h
  have e : (Value.agg #[.int .i64 0, .int .i64 0, .slice none 0 0, .bool false]).cells = zCk := rfl
  rw [e] at h
  simpa using h
theorem bare_start (w : World) (f : List Nd) : BareRow (w.alloc (.cells (madeCells zCk (f.length * 4)) 96)) w.heap.size f (f.length * 4) zC 0 := by
  have := World.rowIs_alloc w (madeCells zCk (f.length * 4)) 96 (rowC (bareC f) noTs zC 0) (fun i hi => by
    rw [size_madeCells] at hi
    simp only [rowC, Nat.zero_mul, Nat.not_lt_zero, if_false]
    simp [madeCells, hi, zC, zCk])
  rwa [size_madeCells] at this
theorem zC_was (k : Nat) : zC (k * 4 + 3) = .bool false := by
  have h : (k * 4 + 3) % 4 = 3 := by omega
  unfold zC
  rw [h]
  rfl
theorem bare_step (f : List Nd) (k j : Nat) (hk : k < f.length) : rowC (bareC f) noTs zC (k + 1) j = if j = k * 4 + 2 then .slice none 0 0 else if j = k * 4 + 1 then .int .i64 (bareHi (ndAt f k)) else if j = k * 4 then .int .i64 (bareLo (ndAt f k)) else rowC (bareC f) noTs zC k j := by
  have h := rowC_step (bareC f) noTs zC k j (.slice none 0 0)
  have e : (fun i => if i = k then Value.slice none 0 0 else noTs i) = noTs := by
    funext i
    unfold noTs
    split <;> rfl
  rw [e, bareC_at f k hk] at h
  rw [h]
  by_cases h3 : j = k * 4 + 3
  · subst h3
    rw [if_pos rfl, if_neg (by omega), if_neg (by omega), if_neg (by omega)]
    unfold rowC
    rw [if_neg (by omega), zC_was]
  · rw [if_neg h3]
set_option maxRecDepth 20000 in
set_option maxHeartbeats 4000000 in
theorem bareCells_any (f : List Nd) (b cap : Nat) (hl : f.length ≤ 1048576) (w : World) (hN : NodesAt w b f) :
    Calls Tryz.prog 52 #[.slice (some ⟨b, 0, none⟩) f.length cap] w fun e w' => ∃ g, e = .returned (.slice (some ⟨g, 0, none⟩) f.length f.length) ∧ w.heap.size ≤ g ∧ BareRow w' g f (f.length * 4) zC f.length ∧ Below w.heap.size w w' := by
  have HN := hid hN
  have hbw := hN.1
  have hmk := run_makeCk f.length hl
  have HR0 := hid (bare_start w f)
  have HU : Hid (∀ x : Nd, ndV x = .agg #[.int .i64 x.k, .int .i64 x.a, .int .i64 x.b, .int .i64 x.lo, .int .i64 x.hi, .string x.nm]) := fun _ => rfl
  clear hN
  go_enter Tryz.func52, Tryz.ntmps52
  go_wp2_with fail
  clear hmk
  go_loopw [11] (fun t wr => ∃ k : Nat, k ≤ f.length ∧ t = .int .i64 k ∧ BareRow wr w.heap.size f (f.length * 4) zC k ∧ Below w.heap.size w wr) (fun t _ => f.length - (intOf t).toNat)
  case atStart => exact ⟨0, Nat.zero_le _, rfl, HR0.out, (Below.refl _ _).alloc (Nat.le_refl _) _⟩
  case round =>
    obtain ⟨k, hk, rfl, hrow, hbel⟩ := hrel
    have HRow := hid hrow
    have HB := hid hbel
    have hgr := World.rowIs.lt hrow
    clear hrow hbel
    by_cases hlt : k < f.length
    · obtain ⟨n0, n1, n2, n3, n4, n5⟩ := (HN.out.2 k hlt).below HB.out hbw
      have hbr : b < wr.heap.size := by have := HB.out.size; omega
      have HSt := hid (fun j => bare_step f k j hlt)
      have HBa := hid (below_one' wr (.cells #[.int .i64 (ndAt f k).k, .int .i64 (ndAt f k).a, .int .i64 (ndAt f k).b, .int .i64 (ndAt f k).lo, .int .i64 (ndAt f k).hi, .string (ndAt f k).nm] 81))
      have HCl := hid (fun w => bare_is (ndAt f k) _ _ rfl rfl w)
      rw [HU.out] at HCl
      generalize bareLo (ndAt f k) = lo at *
      generalize bareHi (ndAt f k) = hi at *
      generalize ndAt f k = x at *
      go_wp2_with (go_at_call 59; refine (HCl.out _).mono ?_; rintro e w2 ⟨rfl, hb2⟩; have HB2 := hid (HB.out.trans ((HBa.out.trans (hb2.mono HBa.out.size)).mono HB.out.size)); have HR2 := hid ((World.rowIs.alloc HRow.out _).of_block (hb2.block w.heap.size (by simp; omega))); have d0 := HR2.out.cell (i := k * 4) (by omega); have d1 := HR2.out.cell (i := k * 4 + 1) (by omega); have d2 := HR2.out.cell (i := k * 4 + 2) (by omega); have f0 := HR2.out.frozen (k * 4); have f1 := HR2.out.frozen (k * 4 + 1); have f2 := HR2.out.frozen (k * 4 + 2); clear hb2)
      go_roundw
      case rel =>
        refine ⟨k + 1, by omega, by go_num, (((HR2.out.set (k * 4) _).set (k * 4 + 1) _).set (k * 4 + 2) _).congr (fun j hj => ?_), ((HB2.out.setCell (Nat.le_refl _) _).setCell (Nat.le_refl _) _).setCell (Nat.le_refl _) _⟩
        rw [HSt.out]
      case measure => simp [intOf]; omega
    · have hk' : k = f.length := by omega
      subst hk'
      go_wp2_with fail
      go_ret
      exact ⟨w.heap.size, rfl, Nat.le_refl _, HRow.out, HB.out⟩
end Go.Proofs.YtbfkbgmkibkbnaaGreatDoor
namespace Go.Proofs.YtbfkbgmkibkbnaaGreatDoor
open Go.RowKit
set_option linter.unusedVariables false
set_option linter.unusedSimpArgs false
def bareV (x : Nd) : List Value := [.int .i64 (bareLo x), .int .i64 (bareHi x), .slice none 0 0, .bool false]
def flatB (f : List Nd) : Nat → List Value
  | 0 => []
  | k + 1 => flatB f k ++ bareV (ndAt f k)
theorem flatB_len (f : List Nd) : ∀ k, (flatB f k).length = k * 4 := by
  intro k
  induction k with
  | zero => rfl
  | succ k ih => simp [flatB, bareV, ih]; omega
theorem flatB_get (f : List Nd) : ∀ k i j, i < k → j < 4 → (flatB f k)[i * 4 + j]? = (bareV (ndAt f i))[j]? := by
  intro k
  induction k with
  | zero => intro i j h; omega
  | succ k ih =>
    intro i j hi hj
    have hl := flatB_len f k
    unfold flatB
    by_cases h : i < k
    · rw [List.getElem?_append_left (by omega)]
      exact ih i j h hj
    · have : i = k := by omega
      subst this
      rw [List.getElem?_append_right (by omega), hl]
      congr 1
      omega
theorem bareV_one (x : Nd) : ∀ u ∈ bareV x, u.oneCell' = true := by simp [bareV, Value.oneCell']
/-- A row of bare cells that a call owns. -/
def OwnB (w : World) (base : Nat) (v : Value) (f : List Nd) (k : Nat) : Prop := w.ownsRow base 96 4 v k (flatB f k)
theorem OwnB.save {w w' : World} {base : Nat} {v : Value} {f : List Nd} {k : Nat} {S : Nat → Prop} (h : OwnB w base v f k) (hs : Save w w' S) (hS : ∀ j, v.ownBlock = some j → ¬ S j) : OwnB w' base v f k := by
  refine ⟨h.1, ?_⟩
  rcases h.2 with hn | ⟨b, cap, cur, rfl, hb, hg, rest⟩
  · exact .inl hn
  · refine .inr ⟨b, cap, cur, rfl, hb, ?_, rest⟩
    rw [hs.block b (Array.getElem?_eq_some_iff.1 hg).1 (hS b rfl)]
    exact hg
theorem OwnB.lt {w : World} {base : Nat} {v : Value} {f : List Nd} {k : Nat} (h : OwnB w base v f k) : ∀ j, v.ownBlock = some j → base ≤ j ∧ j < w.heap.size := World.ownsRow.lt h
theorem OwnB.cks {w : World} {base : Nat} {v : Value} {f : List Nd} (h : OwnB w base v f f.length) : ∃ va vc, v = .slice va f.length vc ∧ CksAt w va (bareC f) ∧ ∀ q, va = some q → base ≤ q.block ∧ q.block < w.heap.size := by
  rcases h.2 with ⟨hv, h0⟩ | ⟨g, cap, cur, hv, hb, hg, h1, h2, h3, h4⟩
  · exact ⟨none, 0, by rw [hv, h0], Or.inl (by rw [bareC_len, h0]), fun q e => by cases e⟩
  · have hlt := (Array.getElem?_eq_some_iff.1 hg).1
    refine ⟨some ⟨g, 0, none⟩, cap, hv, Or.inr ⟨g, 0, rfl, hlt, fun i hi => ?_⟩, fun q e => by injection e with e; subst e; exact ⟨hb, hlt⟩⟩
    rw [bareC_len] at hi
    have key : ∀ j u, j < 4 → (bareV (ndAt f i))[j]? = some u → w.cell? ⟨g, 0 + i * 4 + j, none⟩ = some u := by
      intro j u hj hu
      have h5 := World.ownsRow.cells h (g := g) (by rw [hv]; rfl) (i * 4 + j) u (by rw [flatB_get f _ i j hi hj]; exact hu)
      rw [Addr.add_lit] at h5
      rw [← h5]
      congr 2
      omega
    rw [bareC_at f i hi]
    exact ⟨key 0 _ (by omega) rfl, key 1 _ (by omega) rfl, key 3 _ (by omega) rfl, none, 0, key 2 _ (by omega) rfl, slV_nil, Or.inl rfl⟩
/-- What stands in a round of l06New. -/
structure NewAt (W w : World) (q : Nat) (fa : Option Addr) (fn fc : Nat) (va : Option Addr) (vc : Nat) (f : List Nd) (k : Nat) : Prop where
  own : OwnB w (q + 1) (.slice va k vc) f k
  box : MBox w q fa fn fc 0 0 va k vc
  fr : MFree w q
  sv : Save W w (fun j => j = q)
theorem NewAt.mid {W V V' w3 : World} {q : Nat} {fa : Option Addr} {fn fc : Nat} {va : Option Addr} {vc : Nat} {f : List Nd} {k : Nat} (h : NewAt W V q fa fn fc va vc f k) (h1 : Save V V' (fun _ => False)) (hg : V'.grownBy w3 (Value.slice va k vc).ownBlock) :
    w3.cell? ⟨q, 3, none⟩ = some (.slice va k vc) ∧ w3.frozen? ⟨q, 3, none⟩ = false := by
  have hs : Save V w3 (fun j => (Value.slice va k vc).ownBlock = some j) := (h1.mono (T := fun j => (Value.slice va k vc).ownBlock = some j) (fun _ _ f => f.elim)).grown hg (fun k e _ => e)
  have hn : ¬ (Value.slice va k vc).ownBlock = some q := fun e => by have := (h.own.lt _ e).1; omega
  exact ⟨(hs.cell (p := ⟨q, 3, none⟩) h.box.lt hn).trans h.box.m3, (hs.frozen (p := ⟨q, 3, none⟩) h.box.lt hn).trans h.fr.g3⟩
theorem NewAt.put {W V V' w3 : World} {q : Nat} {fa : Option Addr} {fn fc : Nat} {va : Option Addr} {vc : Nat} {f : List Nd} {k : Nat} {gb cp : Nat} (h : NewAt W V q fa fn fc va vc f k) (hW : W.heap.size = q + 1) (h1 : Save V V' (fun _ => False)) (hg : V'.grownBy w3 (Value.slice va k vc).ownBlock) (ho : OwnB w3 (q + 1) (.slice (some ⟨gb, 0, none⟩) (k + 1) cp) f (k + 1)) :
    NewAt W (w3.setCell ⟨q, 3, none⟩ (.slice (some ⟨gb, 0, none⟩) (k + 1) cp)) q fa fn fc (some ⟨gb, 0, none⟩) cp f (k + 1) := by
  have hs : Save V w3 (fun j => (Value.slice va k vc).ownBlock = some j) := (h1.mono (T := fun j => (Value.slice va k vc).ownBlock = some j) (fun _ _ f => f.elim)).grown hg (fun k e _ => e)
  have hn : ¬ (Value.slice va k vc).ownBlock = some q := fun e => by have := (h.own.lt _ e).1; omega
  have hb3 : q < w3.heap.size := Nat.lt_of_lt_of_le h.box.lt hs.size
  have c3 := (hs.cell (p := ⟨q, 3, none⟩) h.box.lt hn).trans h.box.m3
  have hset := gset1 w3 q 3 (.slice (some ⟨gb, 0, none⟩) (k + 1) cp)
  refine ⟨ho.save hset (fun j e => by have := (ho.lt j e).1; omega), ⟨Nat.lt_of_lt_of_le hb3 hset.size, ?_, ?_, ?_, ?_⟩, (h.fr.save hs h.box.lt hn).set _ _, ?_⟩
  · rw [World.cell?_setCell_other _ _ _ _ (by simp)]; exact (hs.cell (p := ⟨q, 0, none⟩) h.box.lt hn).trans h.box.m0
  · rw [World.cell?_setCell_other _ _ _ _ (by simp)]; exact (hs.cell (p := ⟨q, 1, none⟩) h.box.lt hn).trans h.box.m1
  · rw [World.cell?_setCell_other _ _ _ _ (by simp)]; exact (hs.cell (p := ⟨q, 2, none⟩) h.box.lt hn).trans h.box.m2
  · simp [go_sem, c3]
  · refine Save.setCell (S := fun j => j = q) ?_ (p := ⟨q, 3, none⟩) (fun _ => rfl) _
    refine ⟨hs.os.trans h.sv.os, hs.tape.trans h.sv.tape, hs.output.trans h.sv.output, Nat.le_trans h.sv.size hs.size, fun j hj hq => ?_⟩
    exact (hs.block j (Nat.lt_of_lt_of_le hj h.sv.size) (fun e => by have := (h.own.lt _ e).1; omega)).trans (h.sv.block j hj hq)
theorem cells_ck (X : World) (n : Nat) (hn : n = X.heap.size) (x : Nd) : ∀ j u, (bareV x)[j]? = some u → (X.alloc (.cells #[.int .i64 (bareLo x), .int .i64 (bareHi x), .slice none 0 0, .bool false] 96)).cell? ((⟨n, 0, none⟩ : Addr).add j) = some u := by
  subst hn
  intro j u hu
  have hj : j < 4 := by have := (List.getElem?_eq_some_iff.1 hu).1; simpa [bareV] using this
  rw [Addr.add_lit, Nat.zero_add]
  have hc : j = 0 ∨ j = 1 ∨ j = 2 ∨ j = 3 := by omega
  rcases hc with rfl | rfl | rfl | rfl <;> (simp [bareV] at hu; subst hu; simp [go_sem])
theorem NewAt.start {w1 : World} (fa : Option Addr) (fn fc : Nat) (f : List Nd) : NewAt (w1.alloc (.cells #[.slice fa fn fc, .int .i64 0, .int .i64 0, .slice none 0 0] 34)) (w1.alloc (.cells #[.slice fa fn fc, .int .i64 0, .int .i64 0, .slice none 0 0] 34)) w1.heap.size fa fn fc none 0 f 0 :=
  ⟨World.ownsRow_nil _ _ _ _, MBox.new _ _ _ _ _ _ _ _ _ _, MFree.new _ _ _ _ _ _, Save.refl _ _⟩
theorem NewAt.ext {W w V : World} {q : Nat} {fa : Option Addr} {fn fc : Nat} {va : Option Addr} {vc : Nat} {f : List Nd} {k : Nat} (h : NewAt W w q fa fn fc va vc f k) (hs : Save w V (fun _ => False)) : NewAt W V q fa fn fc va vc f k :=
  ⟨h.own.save hs (fun _ _ h => h), h.box.save hs (fun h => h), h.fr.save hs h.box.lt (fun h => h), ⟨hs.os.trans h.sv.os, hs.tape.trans h.sv.tape, hs.output.trans h.sv.output, Nat.le_trans h.sv.size hs.size, fun j hj hq => (hs.block j (Nat.lt_of_lt_of_le hj h.sv.size) (fun h => h)).trans (h.sv.block j hj hq)⟩⟩
theorem ckNew' (w : World) (lo hi : Int) : (w.alloc (.cells #[.int .i64 lo, .int .i64 hi, .slice none 0 0, .bool false] 96)).cell? ⟨w.heap.size, 0, none⟩ = some (.int .i64 lo) ∧ (w.alloc (.cells #[.int .i64 lo, .int .i64 hi, .slice none 0 0, .bool false] 96)).cell? ⟨w.heap.size, 1, none⟩ = some (.int .i64 hi) ∧ (w.alloc (.cells #[.int .i64 lo, .int .i64 hi, .slice none 0 0, .bool false] 96)).cell? ⟨w.heap.size, 2, none⟩ = some (.slice none 0 0) ∧ (w.alloc (.cells #[.int .i64 lo, .int .i64 hi, .slice none 0 0, .bool false] 96)).cell? ⟨w.heap.size, 3, none⟩ = some (.bool false) ∧ w.heap.size < (w.alloc (.cells #[.int .i64 lo, .int .i64 hi, .slice none 0 0, .bool false] 96)).heap.size :=
  ⟨by simp [go_sem], by simp [go_sem], by simp [go_sem], by simp [go_sem], by simp⟩
theorem ckNew (w : World) (lo hi : Int) : (w.alloc (.cells #[.int .i64 lo, .int .i64 hi, .slice none 0 0, .bool false] 96)).drew.cell? ⟨w.heap.size, 0, none⟩ = some (.int .i64 lo) ∧ (w.alloc (.cells #[.int .i64 lo, .int .i64 hi, .slice none 0 0, .bool false] 96)).drew.cell? ⟨w.heap.size, 1, none⟩ = some (.int .i64 hi) ∧ (w.alloc (.cells #[.int .i64 lo, .int .i64 hi, .slice none 0 0, .bool false] 96)).drew.cell? ⟨w.heap.size, 2, none⟩ = some (.slice none 0 0) ∧ (w.alloc (.cells #[.int .i64 lo, .int .i64 hi, .slice none 0 0, .bool false] 96)).drew.cell? ⟨w.heap.size, 3, none⟩ = some (.bool false) ∧ w.heap.size < (w.alloc (.cells #[.int .i64 lo, .int .i64 hi, .slice none 0 0, .bool false] 96)).drew.heap.size :=
  ⟨by simp [go_sem], by simp [go_sem], by simp [go_sem], by simp [go_sem], by simp⟩
theorem ownsN_none' (w : World) (q : Nat) (hq : w.heap.size = q) (base : Nat) (h : base ≤ w.heap.size) : OwnsN (w.alloc (.cells #[] 81)) base (.slice (some ⟨q, 0, none⟩) 0 0) [] := by
  subst hq
  exact ownsN_none w base h
theorem gset4b (w : World) (q : Nat) (x y z u : Value) : Save w ((((w.setCell ⟨q, 0, none⟩ x).setCell ⟨q, 1, none⟩ y).setCell ⟨q, 2, none⟩ z).setCell ⟨q, 3, none⟩ u) (fun j => j = q) := gset4 w q x y z u
set_option maxRecDepth 20000 in
set_option maxHeartbeats 8000000 in
theorem specNew_any (f : List Nd) (b cap : Nat) (h0 : 0 < f.length) (hl : f.length ≤ 1000000) (w : World) (hN : NodesAt w b f) :
    Calls Tryz.prog 73 #[.slice (some ⟨b, 0, none⟩) f.length cap] w fun e w' => ∃ g gc va vc, e = .returned (moV (some ⟨g, 0, none⟩) f.length gc 0 0 va f.length vc) ∧ w.heap.size ≤ g ∧ NodesAt w' g f ∧ CksAt w' va (bareC f) ∧ (∀ q, va = some q → w.heap.size ≤ q.block ∧ q.block < w'.heap.size) ∧ Below w.heap.size w w' := by
  obtain ⟨i0, hi0, hz0, hz1, hz2⟩ := info_parts Tryz.infoN
  obtain ⟨j0, hj0, hy0, hy1, hy2⟩ := info_parts Tryz.infoCk
  have HU : Hid (∀ fa fn fc cnt now ca cn cc, moV fa fn fc cnt now ca cn cc = .agg #[.slice fa fn fc, .int .i64 cnt, .int .i64 now, .slice ca cn cc]) := fun _ _ _ _ _ _ _ _ => rfl
  have HBq := hid (below_one' w (.cells #[.slice none 0 0, .int .i64 0, .int .i64 0, .slice none 0 0] 34))
  have HXq := hid (MBox.new w none 0 0 0 0 none 0 0 34)
  have HGq := hid (MFree.new w (.slice none 0 0) (.int .i64 0) (.int .i64 0) (.slice none 0 0) 34)
  have HN := hid hN
  have hbw := hN.1
  clear hN
  simp only [HU.out]
  go_enter Tryz.func73, Tryz.ntmps73
  go_wp2_with (at_builtin; go_loud (refine wpList_append_own_at _ rfl _ _ 23 rfl (w.heap.size + 1) 81 i0 _ 6 56 Tryz.uNs hi0 hz0 hz1 hz2 rfl (by decide) _ 0 [] rfl (ownsN_none' (w.alloc (.cells #[.slice none 0 0, .int .i64 0, .int .i64 0, .slice none 0 0] 34)) (w.heap.size + 1) (by simp) (w.heap.size + 1) (by simp)) ⟨b, 0, none⟩ f.length cap (flatN f) rfl (flatN_len f) (flatN_cells (HN.out.below (bbelow2 w _ _) hbw)) (flatN_one f) (by unfold maxLen; omega) (by omega) (by simp) ?_; intro v5 w5 hown5 hgrow5 _ hat5; have hO5 : OwnsN w5 (w.heap.size + 1) v5 f := (by show w5.ownsRow _ _ _ _ _ _; simpa using hown5); obtain ⟨g, gc, m, z, rfl, _, hg, hm, hr, _, hall⟩ := hO5.row h0; have hs5 : Save (w.alloc (.cells #[.slice none 0 0, .int .i64 0, .int .i64 0, .slice none 0 0] 34)) w5 (fun _ => False) := ((Save.refl _ (fun _ => False)).alloc _).grown hgrow5 (fun k hk h => by simp [Value.ownBlock, Act.eval, Act.put] at hk; simp at h; omega); have HN5 := hid (hall _ hr); have HX5 := hid (HXq.out.save hs5 (fun h => h)); have HG5 := hid (HGq.out.save hs5 (by simp) (fun h => h)); have HB5 := hid (HBq.out.trans (hs5.below (B := w.heap.size) (by simp) (fun j h => h.elim))); have hz5 := HN5.out.1; clear hown5 hgrow5 hat5 hs5 hO5 hr hall))
  have HS0 := hid (NewAt.start (w1 := w5) (some ⟨g, 0, none⟩) f.length gc f)
  have HSW := hid (Save.alloc (Save.refl w5 (fun _ => False)) (.cells #[.slice (some ⟨g, 0, none⟩) f.length gc, .int .i64 0, .int .i64 0, .slice none 0 0] 34))
  have hWz : (w5.alloc (.cells #[.slice (some ⟨g, 0, none⟩) f.length gc, .int .i64 0, .int .i64 0, .slice none 0 0] 34)).heap.size = w5.heap.size + 1 := by simp
  generalize w5.alloc (.cells #[.slice (some ⟨g, 0, none⟩) f.length gc, .int .i64 0, .int .i64 0, .slice none 0 0] 34) = W at *
  have hz5q := HB5.out.size
  have hz6q := HX5.out.lt
  go_loopw [4] (fun t wr => ∃ (k : Nat) (va : Option Addr) (vc : Nat), k ≤ f.length ∧ t = .int .i64 k ∧ NewAt W wr w5.heap.size (some ⟨g, 0, none⟩) f.length gc va vc f k) (fun t _ => f.length - (intOf t).toNat)
  case atStart => exact ⟨0, none, 0, Nat.zero_le _, rfl, HS0.out⟩
  case round =>
    obtain ⟨k, va, vc, hk, rfl, hD⟩ := hrel
    have HD := hid hD
    have hsz := hD.sv.size
    obtain ⟨q3, m0, m1, m2, m3⟩ := hD.box
    obtain ⟨g0, g1, g2, g3⟩ := hD.fr
    have HBr : Hid (Below w.heap.size w wr) := (HB5.out.trans (HSW.out.below (B := w.heap.size) hz5q (fun j h => h.elim))).trans (hD.sv.below (B := w.heap.size) (by omega) (fun j h => by omega))
    clear hD
    by_cases hlt : k < f.length
    · obtain ⟨n0, n1, n2, n3, n4, n5⟩ := (HN.out.2 k hlt).below HBr.out hbw
      have hbr : b < wr.heap.size := by have := HBr.out.size; omega
      have HF : Hid (flatB f (k + 1) = flatB f k ++ bareV (ndAt f k)) := rfl
      have HFl := hid (flatB_len f k)
      rcases Bool.eq_false_or_eq_true (keepsK (ndAt f k).k) with hkk | hkk
      · have HK := hid (fun w => keepsS_is (ndAt f k).k true hkk w)
        have HLo : Hid (bareLo (ndAt f k) = (ndAt f k).lo) := by show bareLo _ = _; simp [bareLo, hkk]
        have HHi : Hid (bareHi (ndAt f k) = (ndAt f k).hi) := by show bareHi _ = _; simp [bareHi, hkk]
        clear hkk
        go_wp2_with (go_at_call 111; refine (HK.out _).mono ?_; rintro e w' ⟨rfl, rfl⟩)
        go_region
        rw [← HLo.out, ← HHi.out]
        have HSV := hid ((((Save.refl wr (fun _ => False)).alloc (.cells #[.int .i64 (bareLo (ndAt f k)), .int .i64 (bareHi (ndAt f k)), .slice none 0 0, .bool false] 96))).drew)
        obtain ⟨e0, e1, e2, e3, eq⟩ := ckNew wr (bareLo (ndAt f k)) (bareHi (ndAt f k))
        generalize (wr.alloc (.cells #[.int .i64 (bareLo (ndAt f k)), .int .i64 (bareHi (ndAt f k)), .slice none 0 0, .bool false] 96)).drew = V at *
        have HD1 := hid (HD.out.ext HSV.out)
        have p3 := HD1.out.box.m3
        have hp3 := HD1.out.box.lt
        have hpf := HD1.out.fr.g3
        clear n0 n1 n2 n3 n4 n5 m0 m1 m2 m3 g0 g1 g2 g3 q3
        go_wp2_with (at_builtin; go_loud (refine wpList_append_own_at _ rfl _ _ 32 rfl (w5.heap.size + 1) 96 j0 _ 4 48 Tryz.uCks hj0 hy0 hy1 hy2 rfl (by decide) (.slice va k vc) k (flatB f k) rfl (HD1.out.own.save (S := fun _ => False) ((Save.refl V (fun _ => False)).alloc _) (fun _ _ h => h)) ⟨V.heap.size, 0, none⟩ 1 1 (bareV (ndAt f k)) rfl rfl (cells_ck V _ rfl _) (bareV_one _) (by unfold maxLen; omega) (by omega) (by simp; omega) ?_; intro v' w3 hown3 hgrow3 _ hat3; obtain ⟨gb, cp, rfl, _, _⟩ := World.ownsRow.form hown3 (by omega); have HO3 : Hid (OwnB w3 (w5.heap.size + 1) (.slice (some ⟨gb, 0, none⟩) (k + 1) cp) f (k + 1)) := (by show w3.ownsRow _ _ _ _ _ _; rw [HF.out]; exact hown3); have HP := hid (HD1.out.put hWz ((Save.refl V (fun _ => False)).alloc _) hgrow3 HO3.out); have hfc3 := HD1.out.mid ((Save.refl V (fun _ => False)).alloc _) hgrow3; have hc3 := hfc3.1; have hf3 := hfc3.2; clear hfc3 hown3 hgrow3 hat3))
        go_roundw
        case rel => exact ⟨k + 1, some ⟨gb, 0, none⟩, cp, by omega, by go_num, HP.out⟩
        case measure => simp [intOf]; omega
      · have HK := hid (fun w => keepsS_is (ndAt f k).k false hkk w)
        have hLo : bareLo (ndAt f k) = 0 := by simp [bareLo, hkk]
        have hHi : bareHi (ndAt f k) = 0 := by simp [bareHi, hkk]
        have HLo := hid hLo
        have HHi := hid hHi
        clear hkk hLo hHi
        have HSV := hid ((Save.refl wr (fun _ => False)).alloc (.cells #[.int .i64 0, .int .i64 0, .slice none 0 0, .bool false] 96))
        have HEE := hid (ckNew' wr 0 0)
        go_wp2_with (first | (go_at_call 111; refine (HK.out _).mono ?_; rintro e w' ⟨rfl, rfl⟩; obtain ⟨e0, e1, e2, e3, eq⟩ := HEE.out; generalize wr.alloc (.cells #[.int .i64 0, .int .i64 0, .slice none 0 0, .bool false] 96) = V at *; rw [← HLo.out] at e0; rw [← HHi.out] at e1; have HD1 := hid (HD.out.ext HSV.out); have p3 := HD1.out.box.m3; have hp3 := HD1.out.box.lt; have hpf := HD1.out.fr.g3; clear n0 n1 n2 n3 n4 n5 m0 m1 m2 m3 g0 g1 g2 g3 q3) | (at_builtin; go_loud (refine wpList_append_own_at _ rfl _ _ 32 rfl (w5.heap.size + 1) 96 j0 _ 4 48 Tryz.uCks hj0 hy0 hy1 hy2 rfl (by decide) (.slice va k vc) k (flatB f k) rfl (HD1.out.own.save (S := fun _ => False) ((Save.refl V (fun _ => False)).alloc _) (fun _ _ h => h)) ⟨V.heap.size, 0, none⟩ 1 1 (bareV (ndAt f k)) rfl rfl (cells_ck V _ rfl _) (bareV_one _) (by unfold maxLen; omega) (by omega) (by simp; omega) ?_; intro v' w3 hown3 hgrow3 _ hat3; obtain ⟨gb, cp, rfl, _, _⟩ := World.ownsRow.form hown3 (by omega); have HO3 : Hid (OwnB w3 (w5.heap.size + 1) (.slice (some ⟨gb, 0, none⟩) (k + 1) cp) f (k + 1)) := (by show w3.ownsRow _ _ _ _ _ _; rw [HF.out]; exact hown3); have HP := hid (HD1.out.put hWz ((Save.refl V (fun _ => False)).alloc _) hgrow3 HO3.out); have hfc3 := HD1.out.mid ((Save.refl V (fun _ => False)).alloc _) hgrow3; have hc3 := hfc3.1; have hf3 := hfc3.2; clear hfc3 hown3 hgrow3 hat3)))
        go_roundw
        case rel => exact ⟨k + 1, some ⟨gb, 0, none⟩, cp, by omega, by go_num, HP.out⟩
        case measure => simp [intOf]; omega
    · have hk' : k = f.length := by omega
      subst hk'
      have HXr := hid ((HX5.out.save HSW.out (fun h => h)).save HD.out.sv (by omega))
      have HGr := hid ((HG5.out.save HSW.out (by omega) (fun h => h)).save HD.out.sv (by omega) (by omega))
      obtain ⟨_, y0, y1, y2, y3⟩ := HXr.out
      obtain ⟨r0, r1, r2, r3⟩ := HGr.out
      have HNr := hid (HD.out.sv.nodes (HSW.out.nodes HN5.out (fun h => h)) (by omega))
      go_wp2_with fail
      refine bodyPost_ret (v := .agg #[.slice (some ⟨g, 0, none⟩) f.length gc, .int .i64 0, .int .i64 0, .slice va f.length vc]) (by simp [results, Tryz.results73, go_sem, y0, y1, y2, y3, r0, r1, r2, r3]) rfl ?_
      have s4 := gset4 wr w.heap.size (.slice (some ⟨g, 0, none⟩) f.length gc) (.int .i64 0) (.int .i64 0) (.slice va f.length vc)
      obtain ⟨va', vc', ev, hck, hq⟩ := (HD.out.own.save s4 (fun j e => by have := (HD.out.own.lt j e).1; omega)).cks
      injection ev with ev1 _ ev2
      subst ev1 ev2
      exact ⟨g, gc, va, vc, rfl, by omega, s4.nodes HNr.out (by omega), hck, fun q e => by have := hq q e; omega, HBr.out.trans (s4.below (B := w.heap.size) HBr.out.size (fun j h => by omega))⟩
end Go.Proofs.YtbfkbgmkibkbnaaGreatDoor
namespace Go.Proofs.YtbfkbgmkibkbnaaGreatDoor
open Go.RowKit
set_option linter.unusedVariables false
set_option linter.unusedSimpArgs false
theorem wpList_append_I {ops : Array Oper} {rest : List Oper} {o : Oper} {act : Act} {w : World} {Q : Exit → Act → World → Prop} (hgd : o.guard = none) (s x : Operand)
    (ho : o.op = .call { callee := .builtin .append, args := #[s, x], argTypes := #[82, 82] })
    (base B : Nat) (hs : act.eval s = .slice (some ⟨B, 0, none⟩) 0 0) (hown : OwnI w base (.slice (some ⟨B, 0, none⟩) 0 0) [])
    (a : Option Addr) (n c : Nat) (Z : List Int) (hx : act.eval x = .slice a n c) (hZ : Z.length = n) (hS : (a = none ∧ n = 0 ∧ c = 0) ∨ (∃ b off, a = some ⟨b, off, none⟩ ∧ n ≤ c ∧ c ≤ maxLen)) (hA : ArgI w a Z) (hl : n ≤ 2000000) (hbase : base ≤ w.heap.size)
    (h : ∀ v' w', OwnI w' base v' Z → w.grownBy w' (some B) → (v'.ownBlock = some B ∨ v'.ownBlock = some w.heap.size) → wpList Tryz.prog ops Q rest (act.put o.dst v') w') :
    wpList Tryz.prog ops Q (o :: rest) act w := by
  obtain ⟨i0, hi0, hz0, hz1, hz2⟩ := info_parts Tryz.infoI
  rcases hS with ⟨rfl, rfl, rfl⟩ | ⟨b, off, rfl, hnc, hc⟩
  · have hZ0 : Z = [] := List.eq_nil_of_length_eq_zero hZ
    subst hZ0
    refine wpList_plain hgd fun K hK => ?_
    have hr := run_append_nothing (P := Tryz.prog) w 82 82 o.type 2 i0 Tryz.uIs hi0 (some ⟨B, 0, none⟩) 0 0 (Nat.le_refl _) (.slice none 0 0) (Src.ofNil w Tryz.uIs 0)
    unfold Oper.wp execOp
    simp only [ho, resolve, invoke, builtin, Sem.run_bind, Sem.run_pure, Result.andThen_ok, List.map_toArray, List.map_cons, List.map_nil, hs, hx, hr]
    exact hK _ _ (h _ w hown ⟨rfl, rfl, rfl, Nat.le_refl _, fun _ _ _ => rfl⟩ (Or.inl rfl))
  · refine wpList_append_own_at w hgd s x 82 ho base 2 i0 _ 1 8 Tryz.uIs hi0 hz0 hz1 hz2 rfl (by decide) _ 0 [] hs hown ⟨b, off, none⟩ n c (Z.map (Value.int .i64)) hx (by simp [hZ]) ?_ (ints_one Z) (by unfold maxLen; omega) (by omega) hbase ?_
    · rcases hA with h0 | ⟨b', off', e, hb, hc'⟩
      · intro j u hu
        have : Z = [] := List.eq_nil_of_length_eq_zero h0
        subst this
        simp at hu
      · injection e with e
        injection e with e1 e2
        subst e1 e2
        exact ints_cells hc'
    · intro v' w' hown' hg _ hat
      exact h v' w' (by show w'.ownsRow _ _ _ _ _ _; rw [hZ]; simpa using hown') hg hat
end Go.Proofs.YtbfkbgmkibkbnaaGreatDoor
