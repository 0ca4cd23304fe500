/-
  The model's l06Node over once, hist, since.
-/
import Derived.Test.YtbfkbgmkibkbnaaGreatDoorPa24
import Derived.Test.YtbfkbgmkibkbnaaGreatDoorPa11
import Derived.Deep.RegionHeld3
namespace Go.Proofs.YtbfkbgmkibkbnaaGreatDoor
open Go.RowKit
set_option linter.unusedVariables false
set_option linter.unusedSimpArgs false
/-- What the end of l06Node reads. -/
structure WkBox (W : World) (n0 q : Nat) (k : Int) (lo hi tm : Int) (sl : Value) (was : Bool) (cb cn cc i : Nat) (u0 u1 u2 u3 : Value) : Prop where
  l2 : n0 + 1 + 1 < W.heap.size
  lq : q < W.heap.size
  lc : cb < W.heap.size
  e0 : W.cell? ⟨n0, 0, none⟩ = some (.int .i64 tm)
  x0 : W.cell? ⟨n0 + 1, 0, none⟩ = some (.int .i64 k)
  c0 : W.cell? ⟨n0 + 1 + 1, 0, none⟩ = some (.int .i64 lo)
  c1 : W.cell? ⟨n0 + 1 + 1, 1, none⟩ = some (.int .i64 hi)
  c2 : W.cell? ⟨n0 + 1 + 1, 2, none⟩ = some sl
  c3 : W.cell? ⟨n0 + 1 + 1, 3, none⟩ = some (.bool was)
  f0 : W.frozen? ⟨n0 + 1 + 1, 0, none⟩ = false
  f1 : W.frozen? ⟨n0 + 1 + 1, 1, none⟩ = false
  f2 : W.frozen? ⟨n0 + 1 + 1, 2, none⟩ = false
  m3 : W.cell? ⟨q, 3, none⟩ = some (.slice (some ⟨cb, 0, none⟩) cn cc)
  k0 : W.cell? ⟨cb, i * 4, none⟩ = some u0
  k1 : W.cell? ⟨cb, i * 4 + 1, none⟩ = some u1
  k2 : W.cell? ⟨cb, i * 4 + 2, none⟩ = some u2
  k3 : W.cell? ⟨cb, i * 4 + 3, none⟩ = some u3
  fz : ∀ o, W.frozen? ⟨cb, o, none⟩ = false
theorem WkBox.on {W W' : World} {n0 q : Nat} {k lo hi tm : Int} {sl : Value} {was : Bool} {cb cn cc i : Nat} {u0 u1 u2 u3 : Value} (h : WkBox W n0 q k lo hi tm sl was cb cn cc i u0 u1 u2 u3) (hb : Below W.heap.size W W') : WkBox W' n0 q k lo hi tm sl was cb cn cc i u0 u1 u2 u3 := by
  have h2 := h.l2
  have a0 := fun o => hb.cell (p := ⟨n0, o, none⟩) (by show n0 < _; omega)
  have a1 := fun o => hb.cell (p := ⟨n0 + 1, o, none⟩) (by show n0 + 1 < _; omega)
  have a2 := fun o => hb.cell (p := ⟨n0 + 1 + 1, o, none⟩) h.l2
  have g2 := fun o => hb.frozen (p := ⟨n0 + 1 + 1, o, none⟩) h.l2
  have aq := fun o => hb.cell (p := ⟨q, o, none⟩) h.lq
  have ac := fun o => hb.cell (p := ⟨cb, o, none⟩) h.lc
  exact ⟨Nat.lt_of_lt_of_le h.l2 hb.size, Nat.lt_of_lt_of_le h.lq hb.size, Nat.lt_of_lt_of_le h.lc hb.size, (a0 _).trans h.e0, (a1 _).trans h.x0, (a2 _).trans h.c0, (a2 _).trans h.c1, (a2 _).trans h.c2, (a2 _).trans h.c3, (g2 _).trans h.f0, (g2 _).trans h.f1, (g2 _).trans h.f2, (aq _).trans h.m3, (ac _).trans h.k0, (ac _).trans h.k1, (ac _).trans h.k2, (ac _).trans h.k3, fun o => (hb.frozen (p := ⟨cb, o, none⟩) h.lc).trans (h.fz o)⟩
/-- The keep put into the cell's box. -/
theorem WkBox.put {W : World} {n0 q : Nat} {k lo hi tm : Int} {sl : Value} {was : Bool} {cb cn cc i : Nat} {u0 u1 u2 u3 : Value} (h : WkBox W n0 q k lo hi tm sl was cb cn cc i u0 u1 u2 u3) (hq : q < n0) (hc : cb < n0) (sl' : Value) : WkBox (((W.setCell ⟨n0 + 1 + 1, 0, none⟩ (.int .i64 lo)).setCell ⟨n0 + 1 + 1, 1, none⟩ (.int .i64 hi)).setCell ⟨n0 + 1 + 1, 2, none⟩ sl') n0 q k lo hi tm sl' was cb cn cc i u0 u1 u2 u3 := by
  have hs := set3 W (n0 + 1 + 1) lo hi sl'
  have h2 := h.l2
  have a0 := fun o => hs.cell (p := ⟨n0, o, none⟩) (by show n0 < _; omega) (by show ¬ n0 = _; omega)
  have a1 := fun o => hs.cell (p := ⟨n0 + 1, o, none⟩) (by show n0 + 1 < _; omega) (by show ¬ n0 + 1 = _; omega)
  have aq := fun o => hs.cell (p := ⟨q, o, none⟩) h.lq (by show ¬ q = _; omega)
  have ac := fun o => hs.cell (p := ⟨cb, o, none⟩) h.lc (by show ¬ cb = _; omega)
  have gc := fun o => hs.frozen (p := ⟨cb, o, none⟩) h.lc (by show ¬ cb = _; omega)
  exact ⟨Nat.lt_of_lt_of_le h.l2 hs.size, Nat.lt_of_lt_of_le h.lq hs.size, Nat.lt_of_lt_of_le h.lc hs.size, (a0 _).trans h.e0, (a1 _).trans h.x0, by simp [go_sem, h.c0], by simp [go_sem, h.c1], by simp [go_sem, h.c2], by simp [go_sem, h.c3], by simpa using h.f0, by simpa using h.f1, by simpa using h.f2, (aq _).trans h.m3, (ac _).trans h.k0, (ac _).trans h.k1, (ac _).trans h.k2, (ac _).trans h.k3, fun o => (gc o).trans (h.fz o)⟩
/-- The boxes as they are laid. -/
theorem WkBox.new {w : World} {q fb fn fc : Nat} {cnt now : Int} {cb cn cc i : Nat} {x : Nd} {c : Cl} {a : Option Addr} {ac : Nat} (h : WnIn w q fb fn fc cnt now cb cn cc i x c a ac) (hfz : ∀ o, w.frozen? ⟨cb, o, none⟩ = false) (tm : Int) (nv : Value) (k x1 x2 x3 x4 : Int) (nm : ByteArray) (sl : Value) : WkBox (((w.alloc (.cells #[.int .i64 tm, nv] 41)).alloc (.cells #[.int .i64 k, .int .i64 x1, .int .i64 x2, .int .i64 x3, .int .i64 x4, .string nm] 81)).alloc (.cells #[.int .i64 c.lo, .int .i64 c.hi, sl, .bool c.was] 96)) w.heap.size q k c.lo c.hi tm sl c.was cb cn cc i (.int .i64 c.lo) (.int .i64 c.hi) (.slice a c.ts.length ac) (.bool c.was) := by
  have hb := kbelow3 w (.cells #[.int .i64 tm, nv] 41) (.cells #[.int .i64 k, .int .i64 x1, .int .i64 x2, .int .i64 x3, .int .i64 x4, .string nm] 81) (.cells #[.int .i64 c.lo, .int .i64 c.hi, sl, .bool c.was] 96)
  exact ⟨by simp, by have := h.hq; simp; omega, by have := h.cl; simp; omega, by simp [go_sem], by simp [go_sem], by simp [go_sem], by simp [go_sem], by simp [go_sem], by simp [go_sem], by simp [go_sem], by simp [go_sem], by simp [go_sem], (hb.cell (p := ⟨q, _, none⟩) h.hq).trans h.m3, (hb.cell (p := ⟨cb, _, none⟩) h.cl).trans h.k0, (hb.cell (p := ⟨cb, _, none⟩) h.cl).trans h.k1, (hb.cell (p := ⟨cb, _, none⟩) h.cl).trans h.k2, (hb.cell (p := ⟨cb, _, none⟩) h.cl).trans h.k3, fun o => (hb.frozen (p := ⟨cb, o, none⟩) h.cl).trans (hfz o)⟩
/-- l05Put or l05Drop, by what is put. -/
theorem wk_next (put : Bool) (lo hi : Int) (Z : List Int) (n : Nat) (hn : Z.length = n) (a : Option Addr) (c : Nat) (hkr : krB lo hi Z = true) (tm : Int) (ht : timeB tm = true) (Y : List Int) (hY : nextI put hi tm Z = Y) (w : World) (hA : ArgI w a Z) :
    Calls Tryz.prog (if put then 137 else 138) #[.agg #[.int .i64 lo, .int .i64 hi, .slice a n c], .int .i64 tm] w fun e w' => ∃ va vc, e = .returned (.agg #[.int .i64 lo, .int .i64 hi, .slice va Y.length vc]) ∧ OwnI w' w.heap.size (.slice va Y.length vc) Y ∧ Below w.heap.size w w' := by
  have hl := krB_len hkr
  have hz := krB_times hkr
  subst hY
  cases put with
  | true => exact specPutR_any lo hi Z n hn a c (by omega) tm (timeB_parts ht) (fun i hi => hz i (by omega)) w hA
  | false => exact specDropR_any lo hi Z n hn a c (by omega) tm (timeB_parts ht) (fun i hi => hz i (by omega)) w hA
set_option maxRecDepth 20000 in
set_option maxHeartbeats 4000000 in
theorem wK7t (q fb fn fc : Nat) (cnt now : Int) (cb cn cc i : Nat) (x : Nd) (c : Cl) (a : Option Addr) (ac : Nat) (hkr : krB c.lo c.hi c.ts = true) (tm : Int) (ht : timeB tm = true) (na : Option Addr) (nn nc : Nat) (an mc : Nat) (hk : x.k = 7) (p : Nat) (hp : x.a = (p : Int)) (hpn : p < an) (ha : an ≤ 1048576) (ab : Nat) (Y : List Int) (hY : nextI true c.hi tm c.ts = Y) (v : Bool) (hv : askTo c.lo c.hi tm Y Y.length = v) (w : World) (h : WnIn w q fb fn fc cnt now cb cn cc i x c a ac) (hfz : ∀ o, w.frozen? ⟨cb, o, none⟩ = false) (hA : ArgI w a c.ts) (hab : ab < w.heap.size) (hvv : w.cell? ⟨ab, p, none⟩ = some (.bool true)) :
    Calls Tryz.prog 105 #[.pointer (some ⟨q, 0, none⟩), .int .i64 i, .agg #[.int .i64 tm, .slice na nn nc], .slice (some ⟨ab, 0, none⟩) an mc] w fun e w' => e = .returned (.bool v) ∧ ∃ va' vc, CkPut w w' cb i c.lo c.hi (.slice va' Y.length vc) c.was ∧ OwnI w' w.heap.size (.slice va' Y.length vc) Y := by
  have HWk := hid (WkBox.new h hfz tm (.slice na nn nc) 7 p x.b x.lo x.hi x.nm (.slice a c.ts.length ac))
  have HB3 := hid (kbelow3 w (.cells #[.int .i64 tm, .slice na nn nc] 41) (.cells #[.int .i64 7, .int .i64 p, .int .i64 x.b, .int .i64 x.lo, .int .i64 x.hi, .string x.nm] 81) (.cells #[.int .i64 c.lo, .int .i64 c.hi, .slice a c.ts.length ac, .bool c.was] 96))
  have hkz : krB c.lo c.hi c.ts = true := hkr
  have HNx := hid (fun W' h => wk_next true c.lo c.hi c.ts _ rfl a ac hkz tm ht Y hY W' h)
  simp only [if_true] at HNx
  have HAs := hid (fun va vc W' h => specAskR_any c.lo c.hi Y _ rfl va vc (by have := krB_len (show krB c.lo c.hi Y = true by rw [← hY]; exact kr_next _ hkz ht); omega) tm ht (fun i hi => krB_times (show krB c.lo c.hi Y = true by rw [← hY]; exact kr_next _ hkz ht) i hi) W' h)
  unfold kpV at HAs
  rw [hv] at HAs
  have HA := hid (hA.on HB3.out)
  obtain ⟨hq, m0, m1, m2, m3, fl, cl, ⟨c0, c1, c2, c3, c4, c5⟩, k0, k1, k2, k3, hn, hc, fm, cm⟩ := h
  have e1 : q < w.heap.size + 1 := by omega
  have e2 : q < w.heap.size + 1 + 1 := by omega
  have e3 : fb < w.heap.size + 1 := by omega
  have e4 : cb < w.heap.size + 1 := by omega
  have e5 : cb < w.heap.size + 1 + 1 := by omega
  have e6 : ab < w.heap.size + 1 := by omega
  have e7 : ab < w.heap.size + 1 + 1 := by omega
  have e8 : ab < w.heap.size + 1 + 1 + 1 := by omega
  have HKk := hid (And.intro cl (And.intro k0 (And.intro k1 (And.intro k2 k3))))
  have HV := hid hv
  rw [hk] at c0
  rw [hp] at c1
  skip
  clear hk hp hv hY hkz hkr ht hA hfz
  go_enter Tryz.func105, Tryz.ntmps105
  go_wp2_with (go_at_call 137; generalize ((w.alloc (.cells #[.int .i64 tm, .slice na nn nc] 41)).alloc (.cells #[.int .i64 7, .int .i64 p, .int .i64 x.b, .int .i64 x.lo, .int .i64 x.hi, .string x.nm] 81)).alloc (.cells #[.int .i64 c.lo, .int .i64 c.hi, .slice a c.ts.length ac, .bool c.was] 96) = V at *; refine (HNx.out _ HA.out).mono ?_; rintro e w1 ⟨va', vc, rfl, hO1, hb1⟩; have HO1 := hid hO1; have HB1 := hid (HB3.out.trans (hb1.mono HB3.out.size)); have HW1 := hid (HWk.out.on hb1); have hz1 := hb1.size; clear hb1 hO1 m0 m1 m2 m3 c0 c1 c2 c3 c4 c5 k0 k1 k2 k3; obtain ⟨l2, lq, lc, y0, y1, y2, y3, y4, y5, f0, f1, f2, m3, k0, k1, k2, k3, fz⟩ := HW1.out)
  have hV3 := HB3.out.size
  have hset := set3 w1 (w.heap.size + 1 + 1) c.lo c.hi (.slice va' Y.length vc)
  have HWp := hid (HW1.out.put hq cl (.slice va' Y.length vc))
  have hVl := HWk.out.l2
  have HOp := hid (HO1.out.save hset (fun k e => by have := (HO1.out.lt k e).1; omega))
  have HBp := hid (HB1.out.trans (hset.below (B := w.heap.size) HB1.out.size (fun j e => by omega)))
  clear hset y0 y1 y2 y3 y4 y5 f0 f1 f2 m3 k0 k1 k2 k3 fz l2 lq lc
  generalize ((w1.setCell ⟨w.heap.size + 1 + 1, 0, none⟩ (.int .i64 c.lo)).setCell ⟨w.heap.size + 1 + 1, 1, none⟩ (.int .i64 c.hi)).setCell ⟨w.heap.size + 1 + 1, 2, none⟩ (.slice va' Y.length vc) = U at *
  obtain ⟨l2, lq, lc, y0, y1, y2, y3, y4, y5, f0, f1, f2, m3, k0, k1, k2, k3, fz⟩ := HWp.out
  go_region
  have HCp := hid ((ckput HBp.out HKk.out.1 HKk.out.2.1 HKk.out.2.2.1 HKk.out.2.2.2.1 HKk.out.2.2.2.2 c.lo c.hi (.slice va' Y.length vc) c.was).drew)
  have hs4 : Save U ((((U.setCell ⟨cb, i * 4, none⟩ (.int .i64 c.lo)).setCell ⟨cb, i * 4 + 1, none⟩ (.int .i64 c.hi)).setCell ⟨cb, i * 4 + 2, none⟩ (.slice va' Y.length vc)).setCell ⟨cb, i * 4 + 3, none⟩ (.bool c.was)).drew (fun j => j = cb) := (Save.setCell (S := fun j => j = cb) (Save.setCell (S := fun j => j = cb) (Save.setCell (S := fun j => j = cb) (Save.setCell (S := fun j => j = cb) (Save.refl U _) (p := ⟨cb, i * 4, none⟩) (fun _ => rfl) _) (p := ⟨cb, i * 4 + 1, none⟩) (fun _ => rfl) _) (p := ⟨cb, i * 4 + 2, none⟩) (fun _ => rfl) _) (p := ⟨cb, i * 4 + 3, none⟩) (fun _ => rfl) _).drew
  have HO4 := hid (HOp.out.save hs4 (fun k e => by have := (HOp.out.lt k e).1; omega))
  have HS4 := hid hs4
  have a0 := (hs4.cell (p := ⟨w.heap.size, 0, none⟩) (by show w.heap.size < _; omega) (by show ¬ w.heap.size = cb; omega)).trans y0
  have a1 := (hs4.cell (p := ⟨w.heap.size + 1, 0, none⟩) (by show w.heap.size + 1 < _; omega) (by show ¬ w.heap.size + 1 = cb; omega)).trans y1
  have a2 := (hs4.cell (p := ⟨w.heap.size + 1 + 1, 0, none⟩) l2 (by show ¬ w.heap.size + 1 + 1 = cb; omega)).trans y2
  have a3 := (hs4.cell (p := ⟨w.heap.size + 1 + 1, 1, none⟩) l2 (by show ¬ w.heap.size + 1 + 1 = cb; omega)).trans y3
  have a4 := (hs4.cell (p := ⟨w.heap.size + 1 + 1, 2, none⟩) l2 (by show ¬ w.heap.size + 1 + 1 = cb; omega)).trans y4
  have l4 := Nat.lt_of_lt_of_le l2 hs4.size
  clear y0 y1 y2 y3 y4 y5 f0 f1 f2 m3 k0 k1 k2 k3 fz hs4
  generalize ((((U.setCell ⟨cb, i * 4, none⟩ (.int .i64 c.lo)).setCell ⟨cb, i * 4 + 1, none⟩ (.int .i64 c.hi)).setCell ⟨cb, i * 4 + 2, none⟩ (.slice va' Y.length vc)).setCell ⟨cb, i * 4 + 3, none⟩ (.bool c.was)).drew = X at *
  go_wp2_with fail
  have HSs := hid (fun W' (hb : Below X.heap.size X W') => (⟨(hb.cell (p := ⟨w.heap.size, 0, none⟩) (by show w.heap.size < _; omega)).trans a0, (hb.cell (p := ⟨w.heap.size + 1, 0, none⟩) (by show w.heap.size + 1 < _; omega)).trans a1, (hb.cell (p := ⟨w.heap.size + 1 + 1, 0, none⟩) l4).trans a2, (hb.cell (p := ⟨w.heap.size + 1 + 1, 1, none⟩) l4).trans a3, (hb.cell (p := ⟨w.heap.size + 1 + 1, 2, none⟩) l4).trans a4⟩ : W'.cell? ⟨w.heap.size, 0, none⟩ = some (.int .i64 tm) ∧ W'.cell? ⟨w.heap.size + 1, 0, none⟩ = some (.int .i64 7) ∧ W'.cell? ⟨w.heap.size + 1 + 1, 0, none⟩ = some (.int .i64 c.lo) ∧ W'.cell? ⟨w.heap.size + 1 + 1, 1, none⟩ = some (.int .i64 c.hi) ∧ W'.cell? ⟨w.heap.size + 1 + 1, 2, none⟩ = some (.slice va' Y.length vc)))
  have HBX := hid (Below.refl X.heap.size X)
  cases v
  all_goals
    go_region_held3 (fun W' => W'.cell? ⟨w.heap.size, 0, none⟩ = some (.int .i64 tm) ∧ W'.cell? ⟨w.heap.size + 1, 0, none⟩ = some (.int .i64 7) ∧ W'.cell? ⟨w.heap.size + 1 + 1, 0, none⟩ = some (.int .i64 c.lo) ∧ W'.cell? ⟨w.heap.size + 1 + 1, 1, none⟩ = some (.int .i64 c.hi) ∧ W'.cell? ⟨w.heap.size + 1 + 1, 2, none⟩ = some (.slice va' Y.length vc)) (((first | (with_reducible exact HSs.out _ HB5.out) | (with_reducible exact HSs.out _ (below_drew HBX.out))))) ((go_at_call 139; refine (HAs.out va' vc _ (HO4.out.arg).drew').mono ?_; rintro e w5 ⟨rfl, hb5⟩; have HB5 := hid (below_undrew hb5); clear hb5))
    go_wp2_with fail
    go_ret
    exact ⟨rfl, va', vc, HCp.out.on HB5.out HKk.out.1, (HO4.out.on HB5.out).low (by omega)⟩
set_option maxRecDepth 20000 in
set_option maxHeartbeats 4000000 in
theorem wK7f (q fb fn fc : Nat) (cnt now : Int) (cb cn cc i : Nat) (x : Nd) (c : Cl) (a : Option Addr) (ac : Nat) (hkr : krB c.lo c.hi c.ts = true) (tm : Int) (ht : timeB tm = true) (na : Option Addr) (nn nc : Nat) (an mc : Nat) (hk : x.k = 7) (p : Nat) (hp : x.a = (p : Int)) (hpn : p < an) (ha : an ≤ 1048576) (ab : Nat) (Y : List Int) (hY : nextI false c.hi tm c.ts = Y) (v : Bool) (hv : askTo c.lo c.hi tm Y Y.length = v) (w : World) (h : WnIn w q fb fn fc cnt now cb cn cc i x c a ac) (hfz : ∀ o, w.frozen? ⟨cb, o, none⟩ = false) (hA : ArgI w a c.ts) (hab : ab < w.heap.size) (hvv : w.cell? ⟨ab, p, none⟩ = some (.bool false)) :
    Calls Tryz.prog 105 #[.pointer (some ⟨q, 0, none⟩), .int .i64 i, .agg #[.int .i64 tm, .slice na nn nc], .slice (some ⟨ab, 0, none⟩) an mc] w fun e w' => e = .returned (.bool v) ∧ ∃ va' vc, CkPut w w' cb i c.lo c.hi (.slice va' Y.length vc) c.was ∧ OwnI w' w.heap.size (.slice va' Y.length vc) Y := by
  have HWk := hid (WkBox.new h hfz tm (.slice na nn nc) 7 p x.b x.lo x.hi x.nm (.slice a c.ts.length ac))
  have HB3 := hid (kbelow3 w (.cells #[.int .i64 tm, .slice na nn nc] 41) (.cells #[.int .i64 7, .int .i64 p, .int .i64 x.b, .int .i64 x.lo, .int .i64 x.hi, .string x.nm] 81) (.cells #[.int .i64 c.lo, .int .i64 c.hi, .slice a c.ts.length ac, .bool c.was] 96))
  have hkz : krB c.lo c.hi c.ts = true := hkr
  have HNx := hid (fun W' h => wk_next false c.lo c.hi c.ts _ rfl a ac hkz tm ht Y hY W' h)
  simp only [Bool.false_eq_true, if_false] at HNx
  have HAs := hid (fun va vc W' h => specAskR_any c.lo c.hi Y _ rfl va vc (by have := krB_len (show krB c.lo c.hi Y = true by rw [← hY]; exact kr_next _ hkz ht); omega) tm ht (fun i hi => krB_times (show krB c.lo c.hi Y = true by rw [← hY]; exact kr_next _ hkz ht) i hi) W' h)
  unfold kpV at HAs
  rw [hv] at HAs
  have HA := hid (hA.on HB3.out)
  obtain ⟨hq, m0, m1, m2, m3, fl, cl, ⟨c0, c1, c2, c3, c4, c5⟩, k0, k1, k2, k3, hn, hc, fm, cm⟩ := h
  have e1 : q < w.heap.size + 1 := by omega
  have e2 : q < w.heap.size + 1 + 1 := by omega
  have e3 : fb < w.heap.size + 1 := by omega
  have e4 : cb < w.heap.size + 1 := by omega
  have e5 : cb < w.heap.size + 1 + 1 := by omega
  have e6 : ab < w.heap.size + 1 := by omega
  have e7 : ab < w.heap.size + 1 + 1 := by omega
  have e8 : ab < w.heap.size + 1 + 1 + 1 := by omega
  have HKk := hid (And.intro cl (And.intro k0 (And.intro k1 (And.intro k2 k3))))
  have HV := hid hv
  rw [hk] at c0
  rw [hp] at c1
  skip
  clear hk hp hv hY hkz hkr ht hA hfz
  go_enter Tryz.func105, Tryz.ntmps105
  go_wp2_with (go_at_call 138; generalize ((w.alloc (.cells #[.int .i64 tm, .slice na nn nc] 41)).alloc (.cells #[.int .i64 7, .int .i64 p, .int .i64 x.b, .int .i64 x.lo, .int .i64 x.hi, .string x.nm] 81)).alloc (.cells #[.int .i64 c.lo, .int .i64 c.hi, .slice a c.ts.length ac, .bool c.was] 96) = V at *; refine (HNx.out _ HA.out).mono ?_; rintro e w1 ⟨va', vc, rfl, hO1, hb1⟩; have HO1 := hid hO1; have HB1 := hid (HB3.out.trans (hb1.mono HB3.out.size)); have HW1 := hid (HWk.out.on hb1); have hz1 := hb1.size; clear hb1 hO1 m0 m1 m2 m3 c0 c1 c2 c3 c4 c5 k0 k1 k2 k3; obtain ⟨l2, lq, lc, y0, y1, y2, y3, y4, y5, f0, f1, f2, m3, k0, k1, k2, k3, fz⟩ := HW1.out)
  have hV3 := HB3.out.size
  have hset := set3 w1 (w.heap.size + 1 + 1) c.lo c.hi (.slice va' Y.length vc)
  have HWp := hid (HW1.out.put hq cl (.slice va' Y.length vc))
  have hVl := HWk.out.l2
  have HOp := hid (HO1.out.save hset (fun k e => by have := (HO1.out.lt k e).1; omega))
  have HBp := hid (HB1.out.trans (hset.below (B := w.heap.size) HB1.out.size (fun j e => by omega)))
  clear hset y0 y1 y2 y3 y4 y5 f0 f1 f2 m3 k0 k1 k2 k3 fz l2 lq lc
  generalize ((w1.setCell ⟨w.heap.size + 1 + 1, 0, none⟩ (.int .i64 c.lo)).setCell ⟨w.heap.size + 1 + 1, 1, none⟩ (.int .i64 c.hi)).setCell ⟨w.heap.size + 1 + 1, 2, none⟩ (.slice va' Y.length vc) = U at *
  obtain ⟨l2, lq, lc, y0, y1, y2, y3, y4, y5, f0, f1, f2, m3, k0, k1, k2, k3, fz⟩ := HWp.out
  go_region
  have HCp := hid ((ckput HBp.out HKk.out.1 HKk.out.2.1 HKk.out.2.2.1 HKk.out.2.2.2.1 HKk.out.2.2.2.2 c.lo c.hi (.slice va' Y.length vc) c.was).drew)
  have hs4 : Save U ((((U.setCell ⟨cb, i * 4, none⟩ (.int .i64 c.lo)).setCell ⟨cb, i * 4 + 1, none⟩ (.int .i64 c.hi)).setCell ⟨cb, i * 4 + 2, none⟩ (.slice va' Y.length vc)).setCell ⟨cb, i * 4 + 3, none⟩ (.bool c.was)).drew (fun j => j = cb) := (Save.setCell (S := fun j => j = cb) (Save.setCell (S := fun j => j = cb) (Save.setCell (S := fun j => j = cb) (Save.setCell (S := fun j => j = cb) (Save.refl U _) (p := ⟨cb, i * 4, none⟩) (fun _ => rfl) _) (p := ⟨cb, i * 4 + 1, none⟩) (fun _ => rfl) _) (p := ⟨cb, i * 4 + 2, none⟩) (fun _ => rfl) _) (p := ⟨cb, i * 4 + 3, none⟩) (fun _ => rfl) _).drew
  have HO4 := hid (HOp.out.save hs4 (fun k e => by have := (HOp.out.lt k e).1; omega))
  have HS4 := hid hs4
  have a0 := (hs4.cell (p := ⟨w.heap.size, 0, none⟩) (by show w.heap.size < _; omega) (by show ¬ w.heap.size = cb; omega)).trans y0
  have a1 := (hs4.cell (p := ⟨w.heap.size + 1, 0, none⟩) (by show w.heap.size + 1 < _; omega) (by show ¬ w.heap.size + 1 = cb; omega)).trans y1
  have a2 := (hs4.cell (p := ⟨w.heap.size + 1 + 1, 0, none⟩) l2 (by show ¬ w.heap.size + 1 + 1 = cb; omega)).trans y2
  have a3 := (hs4.cell (p := ⟨w.heap.size + 1 + 1, 1, none⟩) l2 (by show ¬ w.heap.size + 1 + 1 = cb; omega)).trans y3
  have a4 := (hs4.cell (p := ⟨w.heap.size + 1 + 1, 2, none⟩) l2 (by show ¬ w.heap.size + 1 + 1 = cb; omega)).trans y4
  have l4 := Nat.lt_of_lt_of_le l2 hs4.size
  clear y0 y1 y2 y3 y4 y5 f0 f1 f2 m3 k0 k1 k2 k3 fz hs4
  generalize ((((U.setCell ⟨cb, i * 4, none⟩ (.int .i64 c.lo)).setCell ⟨cb, i * 4 + 1, none⟩ (.int .i64 c.hi)).setCell ⟨cb, i * 4 + 2, none⟩ (.slice va' Y.length vc)).setCell ⟨cb, i * 4 + 3, none⟩ (.bool c.was)).drew = X at *
  go_wp2_with fail
  have HSs := hid (fun W' (hb : Below X.heap.size X W') => (⟨(hb.cell (p := ⟨w.heap.size, 0, none⟩) (by show w.heap.size < _; omega)).trans a0, (hb.cell (p := ⟨w.heap.size + 1, 0, none⟩) (by show w.heap.size + 1 < _; omega)).trans a1, (hb.cell (p := ⟨w.heap.size + 1 + 1, 0, none⟩) l4).trans a2, (hb.cell (p := ⟨w.heap.size + 1 + 1, 1, none⟩) l4).trans a3, (hb.cell (p := ⟨w.heap.size + 1 + 1, 2, none⟩) l4).trans a4⟩ : W'.cell? ⟨w.heap.size, 0, none⟩ = some (.int .i64 tm) ∧ W'.cell? ⟨w.heap.size + 1, 0, none⟩ = some (.int .i64 7) ∧ W'.cell? ⟨w.heap.size + 1 + 1, 0, none⟩ = some (.int .i64 c.lo) ∧ W'.cell? ⟨w.heap.size + 1 + 1, 1, none⟩ = some (.int .i64 c.hi) ∧ W'.cell? ⟨w.heap.size + 1 + 1, 2, none⟩ = some (.slice va' Y.length vc)))
  have HBX := hid (Below.refl X.heap.size X)
  cases v
  all_goals
    go_region_held3 (fun W' => W'.cell? ⟨w.heap.size, 0, none⟩ = some (.int .i64 tm) ∧ W'.cell? ⟨w.heap.size + 1, 0, none⟩ = some (.int .i64 7) ∧ W'.cell? ⟨w.heap.size + 1 + 1, 0, none⟩ = some (.int .i64 c.lo) ∧ W'.cell? ⟨w.heap.size + 1 + 1, 1, none⟩ = some (.int .i64 c.hi) ∧ W'.cell? ⟨w.heap.size + 1 + 1, 2, none⟩ = some (.slice va' Y.length vc)) (((first | (with_reducible exact HSs.out _ HB5.out) | (with_reducible exact HSs.out _ (below_drew HBX.out))))) ((go_at_call 139; refine (HAs.out va' vc _ (HO4.out.arg).drew').mono ?_; rintro e w5 ⟨rfl, hb5⟩; have HB5 := hid (below_undrew hb5); clear hb5))
    go_wp2_with fail
    go_ret
    exact ⟨rfl, va', vc, HCp.out.on HB5.out HKk.out.1, (HO4.out.on HB5.out).low (by omega)⟩
set_option maxRecDepth 20000 in
set_option maxHeartbeats 4000000 in
theorem wK8t (q fb fn fc : Nat) (cnt now : Int) (cb cn cc i : Nat) (x : Nd) (c : Cl) (a : Option Addr) (ac : Nat) (hkr : krB c.lo c.hi c.ts = true) (tm : Int) (ht : timeB tm = true) (na : Option Addr) (nn nc : Nat) (an mc : Nat) (hk : x.k = 8) (p : Nat) (hp : x.a = (p : Int)) (hpn : p < an) (ha : an ≤ 1048576) (ab : Nat) (Y : List Int) (hY : nextI false c.hi tm c.ts = Y) (v : Bool) (hv : askTo c.lo c.hi tm Y Y.length = v) (w : World) (h : WnIn w q fb fn fc cnt now cb cn cc i x c a ac) (hfz : ∀ o, w.frozen? ⟨cb, o, none⟩ = false) (hA : ArgI w a c.ts) (hab : ab < w.heap.size) (hvv : w.cell? ⟨ab, p, none⟩ = some (.bool true)) :
    Calls Tryz.prog 105 #[.pointer (some ⟨q, 0, none⟩), .int .i64 i, .agg #[.int .i64 tm, .slice na nn nc], .slice (some ⟨ab, 0, none⟩) an mc] w fun e w' => e = .returned (.bool (!v)) ∧ ∃ va' vc, CkPut w w' cb i c.lo c.hi (.slice va' Y.length vc) c.was ∧ OwnI w' w.heap.size (.slice va' Y.length vc) Y := by
  have HWk := hid (WkBox.new h hfz tm (.slice na nn nc) 8 p x.b x.lo x.hi x.nm (.slice a c.ts.length ac))
  have HB3 := hid (kbelow3 w (.cells #[.int .i64 tm, .slice na nn nc] 41) (.cells #[.int .i64 8, .int .i64 p, .int .i64 x.b, .int .i64 x.lo, .int .i64 x.hi, .string x.nm] 81) (.cells #[.int .i64 c.lo, .int .i64 c.hi, .slice a c.ts.length ac, .bool c.was] 96))
  have hkz : krB c.lo c.hi c.ts = true := hkr
  have HNx := hid (fun W' h => wk_next false c.lo c.hi c.ts _ rfl a ac hkz tm ht Y hY W' h)
  simp only [Bool.false_eq_true, if_false] at HNx
  have HAs := hid (fun va vc W' h => specAskR_any c.lo c.hi Y _ rfl va vc (by have := krB_len (show krB c.lo c.hi Y = true by rw [← hY]; exact kr_next _ hkz ht); omega) tm ht (fun i hi => krB_times (show krB c.lo c.hi Y = true by rw [← hY]; exact kr_next _ hkz ht) i hi) W' h)
  unfold kpV at HAs
  rw [hv] at HAs
  have HA := hid (hA.on HB3.out)
  obtain ⟨hq, m0, m1, m2, m3, fl, cl, ⟨c0, c1, c2, c3, c4, c5⟩, k0, k1, k2, k3, hn, hc, fm, cm⟩ := h
  have e1 : q < w.heap.size + 1 := by omega
  have e2 : q < w.heap.size + 1 + 1 := by omega
  have e3 : fb < w.heap.size + 1 := by omega
  have e4 : cb < w.heap.size + 1 := by omega
  have e5 : cb < w.heap.size + 1 + 1 := by omega
  have e6 : ab < w.heap.size + 1 := by omega
  have e7 : ab < w.heap.size + 1 + 1 := by omega
  have e8 : ab < w.heap.size + 1 + 1 + 1 := by omega
  have HKk := hid (And.intro cl (And.intro k0 (And.intro k1 (And.intro k2 k3))))
  have HV := hid hv
  rw [hk] at c0
  rw [hp] at c1
  skip
  clear hk hp hv hY hkz hkr ht hA hfz
  go_enter Tryz.func105, Tryz.ntmps105
  go_wp2_with (go_at_call 138; generalize ((w.alloc (.cells #[.int .i64 tm, .slice na nn nc] 41)).alloc (.cells #[.int .i64 8, .int .i64 p, .int .i64 x.b, .int .i64 x.lo, .int .i64 x.hi, .string x.nm] 81)).alloc (.cells #[.int .i64 c.lo, .int .i64 c.hi, .slice a c.ts.length ac, .bool c.was] 96) = V at *; refine (HNx.out _ HA.out).mono ?_; rintro e w1 ⟨va', vc, rfl, hO1, hb1⟩; have HO1 := hid hO1; have HB1 := hid (HB3.out.trans (hb1.mono HB3.out.size)); have HW1 := hid (HWk.out.on hb1); have hz1 := hb1.size; clear hb1 hO1 m0 m1 m2 m3 c0 c1 c2 c3 c4 c5 k0 k1 k2 k3; obtain ⟨l2, lq, lc, y0, y1, y2, y3, y4, y5, f0, f1, f2, m3, k0, k1, k2, k3, fz⟩ := HW1.out)
  have hV3 := HB3.out.size
  have hset := set3 w1 (w.heap.size + 1 + 1) c.lo c.hi (.slice va' Y.length vc)
  have HWp := hid (HW1.out.put hq cl (.slice va' Y.length vc))
  have hVl := HWk.out.l2
  have HOp := hid (HO1.out.save hset (fun k e => by have := (HO1.out.lt k e).1; omega))
  have HBp := hid (HB1.out.trans (hset.below (B := w.heap.size) HB1.out.size (fun j e => by omega)))
  clear hset y0 y1 y2 y3 y4 y5 f0 f1 f2 m3 k0 k1 k2 k3 fz l2 lq lc
  generalize ((w1.setCell ⟨w.heap.size + 1 + 1, 0, none⟩ (.int .i64 c.lo)).setCell ⟨w.heap.size + 1 + 1, 1, none⟩ (.int .i64 c.hi)).setCell ⟨w.heap.size + 1 + 1, 2, none⟩ (.slice va' Y.length vc) = U at *
  obtain ⟨l2, lq, lc, y0, y1, y2, y3, y4, y5, f0, f1, f2, m3, k0, k1, k2, k3, fz⟩ := HWp.out
  go_region
  have HCp := hid ((ckput HBp.out HKk.out.1 HKk.out.2.1 HKk.out.2.2.1 HKk.out.2.2.2.1 HKk.out.2.2.2.2 c.lo c.hi (.slice va' Y.length vc) c.was).drew)
  have hs4 : Save U ((((U.setCell ⟨cb, i * 4, none⟩ (.int .i64 c.lo)).setCell ⟨cb, i * 4 + 1, none⟩ (.int .i64 c.hi)).setCell ⟨cb, i * 4 + 2, none⟩ (.slice va' Y.length vc)).setCell ⟨cb, i * 4 + 3, none⟩ (.bool c.was)).drew (fun j => j = cb) := (Save.setCell (S := fun j => j = cb) (Save.setCell (S := fun j => j = cb) (Save.setCell (S := fun j => j = cb) (Save.setCell (S := fun j => j = cb) (Save.refl U _) (p := ⟨cb, i * 4, none⟩) (fun _ => rfl) _) (p := ⟨cb, i * 4 + 1, none⟩) (fun _ => rfl) _) (p := ⟨cb, i * 4 + 2, none⟩) (fun _ => rfl) _) (p := ⟨cb, i * 4 + 3, none⟩) (fun _ => rfl) _).drew
  have HO4 := hid (HOp.out.save hs4 (fun k e => by have := (HOp.out.lt k e).1; omega))
  have HS4 := hid hs4
  have a0 := (hs4.cell (p := ⟨w.heap.size, 0, none⟩) (by show w.heap.size < _; omega) (by show ¬ w.heap.size = cb; omega)).trans y0
  have a1 := (hs4.cell (p := ⟨w.heap.size + 1, 0, none⟩) (by show w.heap.size + 1 < _; omega) (by show ¬ w.heap.size + 1 = cb; omega)).trans y1
  have a2 := (hs4.cell (p := ⟨w.heap.size + 1 + 1, 0, none⟩) l2 (by show ¬ w.heap.size + 1 + 1 = cb; omega)).trans y2
  have a3 := (hs4.cell (p := ⟨w.heap.size + 1 + 1, 1, none⟩) l2 (by show ¬ w.heap.size + 1 + 1 = cb; omega)).trans y3
  have a4 := (hs4.cell (p := ⟨w.heap.size + 1 + 1, 2, none⟩) l2 (by show ¬ w.heap.size + 1 + 1 = cb; omega)).trans y4
  have l4 := Nat.lt_of_lt_of_le l2 hs4.size
  clear y0 y1 y2 y3 y4 y5 f0 f1 f2 m3 k0 k1 k2 k3 fz hs4
  generalize ((((U.setCell ⟨cb, i * 4, none⟩ (.int .i64 c.lo)).setCell ⟨cb, i * 4 + 1, none⟩ (.int .i64 c.hi)).setCell ⟨cb, i * 4 + 2, none⟩ (.slice va' Y.length vc)).setCell ⟨cb, i * 4 + 3, none⟩ (.bool c.was)).drew = X at *
  go_wp2_with fail
  have HSs := hid (fun W' (hb : Below X.heap.size X W') => (⟨(hb.cell (p := ⟨w.heap.size, 0, none⟩) (by show w.heap.size < _; omega)).trans a0, (hb.cell (p := ⟨w.heap.size + 1, 0, none⟩) (by show w.heap.size + 1 < _; omega)).trans a1, (hb.cell (p := ⟨w.heap.size + 1 + 1, 0, none⟩) l4).trans a2, (hb.cell (p := ⟨w.heap.size + 1 + 1, 1, none⟩) l4).trans a3, (hb.cell (p := ⟨w.heap.size + 1 + 1, 2, none⟩) l4).trans a4⟩ : W'.cell? ⟨w.heap.size, 0, none⟩ = some (.int .i64 tm) ∧ W'.cell? ⟨w.heap.size + 1, 0, none⟩ = some (.int .i64 8) ∧ W'.cell? ⟨w.heap.size + 1 + 1, 0, none⟩ = some (.int .i64 c.lo) ∧ W'.cell? ⟨w.heap.size + 1 + 1, 1, none⟩ = some (.int .i64 c.hi) ∧ W'.cell? ⟨w.heap.size + 1 + 1, 2, none⟩ = some (.slice va' Y.length vc)))
  have HBX := hid (Below.refl X.heap.size X)
  cases v
  all_goals
    go_region_held3 (fun W' => W'.cell? ⟨w.heap.size, 0, none⟩ = some (.int .i64 tm) ∧ W'.cell? ⟨w.heap.size + 1, 0, none⟩ = some (.int .i64 8) ∧ W'.cell? ⟨w.heap.size + 1 + 1, 0, none⟩ = some (.int .i64 c.lo) ∧ W'.cell? ⟨w.heap.size + 1 + 1, 1, none⟩ = some (.int .i64 c.hi) ∧ W'.cell? ⟨w.heap.size + 1 + 1, 2, none⟩ = some (.slice va' Y.length vc)) (((first | (with_reducible exact HSs.out _ HB5.out) | (with_reducible exact HSs.out _ (below_drew HBX.out))))) ((go_at_call 139; refine (HAs.out va' vc _ (HO4.out.arg).drew').mono ?_; rintro e w5 ⟨rfl, hb5⟩; have HB5 := hid (below_undrew hb5); clear hb5))
    go_wp2_with fail
    go_ret
    exact ⟨rfl, va', vc, HCp.out.on HB5.out HKk.out.1, (HO4.out.on HB5.out).low (by omega)⟩
set_option maxRecDepth 20000 in
set_option maxHeartbeats 4000000 in
theorem wK8f (q fb fn fc : Nat) (cnt now : Int) (cb cn cc i : Nat) (x : Nd) (c : Cl) (a : Option Addr) (ac : Nat) (hkr : krB c.lo c.hi c.ts = true) (tm : Int) (ht : timeB tm = true) (na : Option Addr) (nn nc : Nat) (an mc : Nat) (hk : x.k = 8) (p : Nat) (hp : x.a = (p : Int)) (hpn : p < an) (ha : an ≤ 1048576) (ab : Nat) (Y : List Int) (hY : nextI true c.hi tm c.ts = Y) (v : Bool) (hv : askTo c.lo c.hi tm Y Y.length = v) (w : World) (h : WnIn w q fb fn fc cnt now cb cn cc i x c a ac) (hfz : ∀ o, w.frozen? ⟨cb, o, none⟩ = false) (hA : ArgI w a c.ts) (hab : ab < w.heap.size) (hvv : w.cell? ⟨ab, p, none⟩ = some (.bool false)) :
    Calls Tryz.prog 105 #[.pointer (some ⟨q, 0, none⟩), .int .i64 i, .agg #[.int .i64 tm, .slice na nn nc], .slice (some ⟨ab, 0, none⟩) an mc] w fun e w' => e = .returned (.bool (!v)) ∧ ∃ va' vc, CkPut w w' cb i c.lo c.hi (.slice va' Y.length vc) c.was ∧ OwnI w' w.heap.size (.slice va' Y.length vc) Y := by
  have HWk := hid (WkBox.new h hfz tm (.slice na nn nc) 8 p x.b x.lo x.hi x.nm (.slice a c.ts.length ac))
  have HB3 := hid (kbelow3 w (.cells #[.int .i64 tm, .slice na nn nc] 41) (.cells #[.int .i64 8, .int .i64 p, .int .i64 x.b, .int .i64 x.lo, .int .i64 x.hi, .string x.nm] 81) (.cells #[.int .i64 c.lo, .int .i64 c.hi, .slice a c.ts.length ac, .bool c.was] 96))
  have hkz : krB c.lo c.hi c.ts = true := hkr
  have HNx := hid (fun W' h => wk_next true c.lo c.hi c.ts _ rfl a ac hkz tm ht Y hY W' h)
  simp only [if_true] at HNx
  have HAs := hid (fun va vc W' h => specAskR_any c.lo c.hi Y _ rfl va vc (by have := krB_len (show krB c.lo c.hi Y = true by rw [← hY]; exact kr_next _ hkz ht); omega) tm ht (fun i hi => krB_times (show krB c.lo c.hi Y = true by rw [← hY]; exact kr_next _ hkz ht) i hi) W' h)
  unfold kpV at HAs
  rw [hv] at HAs
  have HA := hid (hA.on HB3.out)
  obtain ⟨hq, m0, m1, m2, m3, fl, cl, ⟨c0, c1, c2, c3, c4, c5⟩, k0, k1, k2, k3, hn, hc, fm, cm⟩ := h
  have e1 : q < w.heap.size + 1 := by omega
  have e2 : q < w.heap.size + 1 + 1 := by omega
  have e3 : fb < w.heap.size + 1 := by omega
  have e4 : cb < w.heap.size + 1 := by omega
  have e5 : cb < w.heap.size + 1 + 1 := by omega
  have e6 : ab < w.heap.size + 1 := by omega
  have e7 : ab < w.heap.size + 1 + 1 := by omega
  have e8 : ab < w.heap.size + 1 + 1 + 1 := by omega
  have HKk := hid (And.intro cl (And.intro k0 (And.intro k1 (And.intro k2 k3))))
  have HV := hid hv
  rw [hk] at c0
  rw [hp] at c1
  skip
  clear hk hp hv hY hkz hkr ht hA hfz
  go_enter Tryz.func105, Tryz.ntmps105
  go_wp2_with (go_at_call 137; generalize ((w.alloc (.cells #[.int .i64 tm, .slice na nn nc] 41)).alloc (.cells #[.int .i64 8, .int .i64 p, .int .i64 x.b, .int .i64 x.lo, .int .i64 x.hi, .string x.nm] 81)).alloc (.cells #[.int .i64 c.lo, .int .i64 c.hi, .slice a c.ts.length ac, .bool c.was] 96) = V at *; refine (HNx.out _ HA.out).mono ?_; rintro e w1 ⟨va', vc, rfl, hO1, hb1⟩; have HO1 := hid hO1; have HB1 := hid (HB3.out.trans (hb1.mono HB3.out.size)); have HW1 := hid (HWk.out.on hb1); have hz1 := hb1.size; clear hb1 hO1 m0 m1 m2 m3 c0 c1 c2 c3 c4 c5 k0 k1 k2 k3; obtain ⟨l2, lq, lc, y0, y1, y2, y3, y4, y5, f0, f1, f2, m3, k0, k1, k2, k3, fz⟩ := HW1.out)
  have hV3 := HB3.out.size
  have hset := set3 w1 (w.heap.size + 1 + 1) c.lo c.hi (.slice va' Y.length vc)
  have HWp := hid (HW1.out.put hq cl (.slice va' Y.length vc))
  have hVl := HWk.out.l2
  have HOp := hid (HO1.out.save hset (fun k e => by have := (HO1.out.lt k e).1; omega))
  have HBp := hid (HB1.out.trans (hset.below (B := w.heap.size) HB1.out.size (fun j e => by omega)))
  clear hset y0 y1 y2 y3 y4 y5 f0 f1 f2 m3 k0 k1 k2 k3 fz l2 lq lc
  generalize ((w1.setCell ⟨w.heap.size + 1 + 1, 0, none⟩ (.int .i64 c.lo)).setCell ⟨w.heap.size + 1 + 1, 1, none⟩ (.int .i64 c.hi)).setCell ⟨w.heap.size + 1 + 1, 2, none⟩ (.slice va' Y.length vc) = U at *
  obtain ⟨l2, lq, lc, y0, y1, y2, y3, y4, y5, f0, f1, f2, m3, k0, k1, k2, k3, fz⟩ := HWp.out
  go_region
  have HCp := hid ((ckput HBp.out HKk.out.1 HKk.out.2.1 HKk.out.2.2.1 HKk.out.2.2.2.1 HKk.out.2.2.2.2 c.lo c.hi (.slice va' Y.length vc) c.was).drew)
  have hs4 : Save U ((((U.setCell ⟨cb, i * 4, none⟩ (.int .i64 c.lo)).setCell ⟨cb, i * 4 + 1, none⟩ (.int .i64 c.hi)).setCell ⟨cb, i * 4 + 2, none⟩ (.slice va' Y.length vc)).setCell ⟨cb, i * 4 + 3, none⟩ (.bool c.was)).drew (fun j => j = cb) := (Save.setCell (S := fun j => j = cb) (Save.setCell (S := fun j => j = cb) (Save.setCell (S := fun j => j = cb) (Save.setCell (S := fun j => j = cb) (Save.refl U _) (p := ⟨cb, i * 4, none⟩) (fun _ => rfl) _) (p := ⟨cb, i * 4 + 1, none⟩) (fun _ => rfl) _) (p := ⟨cb, i * 4 + 2, none⟩) (fun _ => rfl) _) (p := ⟨cb, i * 4 + 3, none⟩) (fun _ => rfl) _).drew
  have HO4 := hid (HOp.out.save hs4 (fun k e => by have := (HOp.out.lt k e).1; omega))
  have HS4 := hid hs4
  have a0 := (hs4.cell (p := ⟨w.heap.size, 0, none⟩) (by show w.heap.size < _; omega) (by show ¬ w.heap.size = cb; omega)).trans y0
  have a1 := (hs4.cell (p := ⟨w.heap.size + 1, 0, none⟩) (by show w.heap.size + 1 < _; omega) (by show ¬ w.heap.size + 1 = cb; omega)).trans y1
  have a2 := (hs4.cell (p := ⟨w.heap.size + 1 + 1, 0, none⟩) l2 (by show ¬ w.heap.size + 1 + 1 = cb; omega)).trans y2
  have a3 := (hs4.cell (p := ⟨w.heap.size + 1 + 1, 1, none⟩) l2 (by show ¬ w.heap.size + 1 + 1 = cb; omega)).trans y3
  have a4 := (hs4.cell (p := ⟨w.heap.size + 1 + 1, 2, none⟩) l2 (by show ¬ w.heap.size + 1 + 1 = cb; omega)).trans y4
  have l4 := Nat.lt_of_lt_of_le l2 hs4.size
  clear y0 y1 y2 y3 y4 y5 f0 f1 f2 m3 k0 k1 k2 k3 fz hs4
  generalize ((((U.setCell ⟨cb, i * 4, none⟩ (.int .i64 c.lo)).setCell ⟨cb, i * 4 + 1, none⟩ (.int .i64 c.hi)).setCell ⟨cb, i * 4 + 2, none⟩ (.slice va' Y.length vc)).setCell ⟨cb, i * 4 + 3, none⟩ (.bool c.was)).drew = X at *
  go_wp2_with fail
  have HSs := hid (fun W' (hb : Below X.heap.size X W') => (⟨(hb.cell (p := ⟨w.heap.size, 0, none⟩) (by show w.heap.size < _; omega)).trans a0, (hb.cell (p := ⟨w.heap.size + 1, 0, none⟩) (by show w.heap.size + 1 < _; omega)).trans a1, (hb.cell (p := ⟨w.heap.size + 1 + 1, 0, none⟩) l4).trans a2, (hb.cell (p := ⟨w.heap.size + 1 + 1, 1, none⟩) l4).trans a3, (hb.cell (p := ⟨w.heap.size + 1 + 1, 2, none⟩) l4).trans a4⟩ : W'.cell? ⟨w.heap.size, 0, none⟩ = some (.int .i64 tm) ∧ W'.cell? ⟨w.heap.size + 1, 0, none⟩ = some (.int .i64 8) ∧ W'.cell? ⟨w.heap.size + 1 + 1, 0, none⟩ = some (.int .i64 c.lo) ∧ W'.cell? ⟨w.heap.size + 1 + 1, 1, none⟩ = some (.int .i64 c.hi) ∧ W'.cell? ⟨w.heap.size + 1 + 1, 2, none⟩ = some (.slice va' Y.length vc)))
  have HBX := hid (Below.refl X.heap.size X)
  cases v
  all_goals
    go_region_held3 (fun W' => W'.cell? ⟨w.heap.size, 0, none⟩ = some (.int .i64 tm) ∧ W'.cell? ⟨w.heap.size + 1, 0, none⟩ = some (.int .i64 8) ∧ W'.cell? ⟨w.heap.size + 1 + 1, 0, none⟩ = some (.int .i64 c.lo) ∧ W'.cell? ⟨w.heap.size + 1 + 1, 1, none⟩ = some (.int .i64 c.hi) ∧ W'.cell? ⟨w.heap.size + 1 + 1, 2, none⟩ = some (.slice va' Y.length vc)) (((first | (with_reducible exact HSs.out _ HB5.out) | (with_reducible exact HSs.out _ (below_drew HBX.out))))) ((go_at_call 139; refine (HAs.out va' vc _ (HO4.out.arg).drew').mono ?_; rintro e w5 ⟨rfl, hb5⟩; have HB5 := hid (below_undrew hb5); clear hb5))
    go_wp2_with fail
    go_ret
    exact ⟨rfl, va', vc, HCp.out.on HB5.out HKk.out.1, (HO4.out.on HB5.out).low (by omega)⟩
set_option maxRecDepth 20000 in
set_option maxHeartbeats 4000000 in
theorem wK9tt (q fb fn fc : Nat) (cnt now : Int) (cb cn cc i : Nat) (x : Nd) (c : Cl) (a : Option Addr) (ac : Nat) (hkr : krB c.lo c.hi c.ts = true) (tm : Int) (ht : timeB tm = true) (na : Option Addr) (nn nc : Nat) (an mc : Nat) (hk : x.k = 9) (p : Nat) (hp : x.a = (p : Int)) (hpn : p < an) (r : Nat) (hr : x.b = (r : Int)) (hrn : r < an) (ha : an ≤ 1048576) (ab : Nat) (Y : List Int) (hY : nextI true c.hi tm c.ts = Y) (v : Bool) (hv : askTo c.lo c.hi tm Y Y.length = v) (w : World) (h : WnIn w q fb fn fc cnt now cb cn cc i x c a ac) (hfz : ∀ o, w.frozen? ⟨cb, o, none⟩ = false) (hA : ArgI w a c.ts) (hab : ab < w.heap.size) (hvv : w.cell? ⟨ab, p, none⟩ = some (.bool true)) (hvb : w.cell? ⟨ab, r, none⟩ = some (.bool true)) :
    Calls Tryz.prog 105 #[.pointer (some ⟨q, 0, none⟩), .int .i64 i, .agg #[.int .i64 tm, .slice na nn nc], .slice (some ⟨ab, 0, none⟩) an mc] w fun e w' => e = .returned (.bool v) ∧ ∃ va' vc, CkPut w w' cb i c.lo c.hi (.slice va' Y.length vc) c.was ∧ OwnI w' w.heap.size (.slice va' Y.length vc) Y := by
  have HWk := hid (WkBox.new h hfz tm (.slice na nn nc) 9 p r x.lo x.hi x.nm (.slice a c.ts.length ac))
  have HB3 := hid (kbelow3 w (.cells #[.int .i64 tm, .slice na nn nc] 41) (.cells #[.int .i64 9, .int .i64 p, .int .i64 r, .int .i64 x.lo, .int .i64 x.hi, .string x.nm] 81) (.cells #[.int .i64 c.lo, .int .i64 c.hi, .slice a c.ts.length ac, .bool c.was] 96))
  have hkz : krB c.lo c.hi c.ts = true := hkr
  have HNx := hid (fun W' h => wk_next true c.lo c.hi c.ts _ rfl a ac hkz tm ht Y hY W' h)
  simp only [if_true] at HNx
  have HAs := hid (fun va vc W' h => specAskR_any c.lo c.hi Y _ rfl va vc (by have := krB_len (show krB c.lo c.hi Y = true by rw [← hY]; exact kr_next _ hkz ht); omega) tm ht (fun i hi => krB_times (show krB c.lo c.hi Y = true by rw [← hY]; exact kr_next _ hkz ht) i hi) W' h)
  unfold kpV at HAs
  rw [hv] at HAs
  have HA := hid (hA.on HB3.out)
  obtain ⟨hq, m0, m1, m2, m3, fl, cl, ⟨c0, c1, c2, c3, c4, c5⟩, k0, k1, k2, k3, hn, hc, fm, cm⟩ := h
  have e1 : q < w.heap.size + 1 := by omega
  have e2 : q < w.heap.size + 1 + 1 := by omega
  have e3 : fb < w.heap.size + 1 := by omega
  have e4 : cb < w.heap.size + 1 := by omega
  have e5 : cb < w.heap.size + 1 + 1 := by omega
  have e6 : ab < w.heap.size + 1 := by omega
  have e7 : ab < w.heap.size + 1 + 1 := by omega
  have e8 : ab < w.heap.size + 1 + 1 + 1 := by omega
  have HKk := hid (And.intro cl (And.intro k0 (And.intro k1 (And.intro k2 k3))))
  have HV := hid hv
  rw [hk] at c0
  rw [hp] at c1
  rw [hr] at c2
  clear hk hp hv hY hkz hkr ht hA hfz hr
  go_enter Tryz.func105, Tryz.ntmps105
  go_wp2_with (go_at_call 137; generalize ((w.alloc (.cells #[.int .i64 tm, .slice na nn nc] 41)).alloc (.cells #[.int .i64 9, .int .i64 p, .int .i64 r, .int .i64 x.lo, .int .i64 x.hi, .string x.nm] 81)).alloc (.cells #[.int .i64 c.lo, .int .i64 c.hi, .slice a c.ts.length ac, .bool c.was] 96) = V at *; refine (HNx.out _ HA.out).mono ?_; rintro e w1 ⟨va', vc, rfl, hO1, hb1⟩; have HO1 := hid hO1; have HB1 := hid (HB3.out.trans (hb1.mono HB3.out.size)); have HW1 := hid (HWk.out.on hb1); have hz1 := hb1.size; clear hb1 hO1 m0 m1 m2 m3 c0 c1 c2 c3 c4 c5 k0 k1 k2 k3; obtain ⟨l2, lq, lc, y0, y1, y2, y3, y4, y5, f0, f1, f2, m3, k0, k1, k2, k3, fz⟩ := HW1.out)
  have hV3 := HB3.out.size
  have hset := set3 w1 (w.heap.size + 1 + 1) c.lo c.hi (.slice va' Y.length vc)
  have HWp := hid (HW1.out.put hq cl (.slice va' Y.length vc))
  have hVl := HWk.out.l2
  have HOp := hid (HO1.out.save hset (fun k e => by have := (HO1.out.lt k e).1; omega))
  have HBp := hid (HB1.out.trans (hset.below (B := w.heap.size) HB1.out.size (fun j e => by omega)))
  clear hset y0 y1 y2 y3 y4 y5 f0 f1 f2 m3 k0 k1 k2 k3 fz l2 lq lc
  generalize ((w1.setCell ⟨w.heap.size + 1 + 1, 0, none⟩ (.int .i64 c.lo)).setCell ⟨w.heap.size + 1 + 1, 1, none⟩ (.int .i64 c.hi)).setCell ⟨w.heap.size + 1 + 1, 2, none⟩ (.slice va' Y.length vc) = U at *
  obtain ⟨l2, lq, lc, y0, y1, y2, y3, y4, y5, f0, f1, f2, m3, k0, k1, k2, k3, fz⟩ := HWp.out
  go_region
  have HCp := hid ((ckput HBp.out HKk.out.1 HKk.out.2.1 HKk.out.2.2.1 HKk.out.2.2.2.1 HKk.out.2.2.2.2 c.lo c.hi (.slice va' Y.length vc) c.was).drew)
  have hs4 : Save U ((((U.setCell ⟨cb, i * 4, none⟩ (.int .i64 c.lo)).setCell ⟨cb, i * 4 + 1, none⟩ (.int .i64 c.hi)).setCell ⟨cb, i * 4 + 2, none⟩ (.slice va' Y.length vc)).setCell ⟨cb, i * 4 + 3, none⟩ (.bool c.was)).drew (fun j => j = cb) := (Save.setCell (S := fun j => j = cb) (Save.setCell (S := fun j => j = cb) (Save.setCell (S := fun j => j = cb) (Save.setCell (S := fun j => j = cb) (Save.refl U _) (p := ⟨cb, i * 4, none⟩) (fun _ => rfl) _) (p := ⟨cb, i * 4 + 1, none⟩) (fun _ => rfl) _) (p := ⟨cb, i * 4 + 2, none⟩) (fun _ => rfl) _) (p := ⟨cb, i * 4 + 3, none⟩) (fun _ => rfl) _).drew
  have HO4 := hid (HOp.out.save hs4 (fun k e => by have := (HOp.out.lt k e).1; omega))
  have HS4 := hid hs4
  have a0 := (hs4.cell (p := ⟨w.heap.size, 0, none⟩) (by show w.heap.size < _; omega) (by show ¬ w.heap.size = cb; omega)).trans y0
  have a1 := (hs4.cell (p := ⟨w.heap.size + 1, 0, none⟩) (by show w.heap.size + 1 < _; omega) (by show ¬ w.heap.size + 1 = cb; omega)).trans y1
  have a2 := (hs4.cell (p := ⟨w.heap.size + 1 + 1, 0, none⟩) l2 (by show ¬ w.heap.size + 1 + 1 = cb; omega)).trans y2
  have a3 := (hs4.cell (p := ⟨w.heap.size + 1 + 1, 1, none⟩) l2 (by show ¬ w.heap.size + 1 + 1 = cb; omega)).trans y3
  have a4 := (hs4.cell (p := ⟨w.heap.size + 1 + 1, 2, none⟩) l2 (by show ¬ w.heap.size + 1 + 1 = cb; omega)).trans y4
  have l4 := Nat.lt_of_lt_of_le l2 hs4.size
  clear y0 y1 y2 y3 y4 y5 f0 f1 f2 m3 k0 k1 k2 k3 fz hs4
  generalize ((((U.setCell ⟨cb, i * 4, none⟩ (.int .i64 c.lo)).setCell ⟨cb, i * 4 + 1, none⟩ (.int .i64 c.hi)).setCell ⟨cb, i * 4 + 2, none⟩ (.slice va' Y.length vc)).setCell ⟨cb, i * 4 + 3, none⟩ (.bool c.was)).drew = X at *
  go_wp2_with fail
  have HSs := hid (fun W' (hb : Below X.heap.size X W') => (⟨(hb.cell (p := ⟨w.heap.size, 0, none⟩) (by show w.heap.size < _; omega)).trans a0, (hb.cell (p := ⟨w.heap.size + 1, 0, none⟩) (by show w.heap.size + 1 < _; omega)).trans a1, (hb.cell (p := ⟨w.heap.size + 1 + 1, 0, none⟩) l4).trans a2, (hb.cell (p := ⟨w.heap.size + 1 + 1, 1, none⟩) l4).trans a3, (hb.cell (p := ⟨w.heap.size + 1 + 1, 2, none⟩) l4).trans a4⟩ : W'.cell? ⟨w.heap.size, 0, none⟩ = some (.int .i64 tm) ∧ W'.cell? ⟨w.heap.size + 1, 0, none⟩ = some (.int .i64 9) ∧ W'.cell? ⟨w.heap.size + 1 + 1, 0, none⟩ = some (.int .i64 c.lo) ∧ W'.cell? ⟨w.heap.size + 1 + 1, 1, none⟩ = some (.int .i64 c.hi) ∧ W'.cell? ⟨w.heap.size + 1 + 1, 2, none⟩ = some (.slice va' Y.length vc)))
  have HBX := hid (Below.refl X.heap.size X)
  cases v
  all_goals
    go_region_held3 (fun W' => W'.cell? ⟨w.heap.size, 0, none⟩ = some (.int .i64 tm) ∧ W'.cell? ⟨w.heap.size + 1, 0, none⟩ = some (.int .i64 9) ∧ W'.cell? ⟨w.heap.size + 1 + 1, 0, none⟩ = some (.int .i64 c.lo) ∧ W'.cell? ⟨w.heap.size + 1 + 1, 1, none⟩ = some (.int .i64 c.hi) ∧ W'.cell? ⟨w.heap.size + 1 + 1, 2, none⟩ = some (.slice va' Y.length vc)) (((first | (with_reducible exact HSs.out _ HB5.out) | (with_reducible exact HSs.out _ (below_drew HBX.out))))) ((go_at_call 139; refine (HAs.out va' vc _ (HO4.out.arg).drew').mono ?_; rintro e w5 ⟨rfl, hb5⟩; have HB5 := hid (below_undrew hb5); clear hb5))
    go_wp2_with fail
    go_ret
    exact ⟨rfl, va', vc, HCp.out.on HB5.out HKk.out.1, (HO4.out.on HB5.out).low (by omega)⟩
set_option maxRecDepth 20000 in
set_option maxHeartbeats 4000000 in
theorem wK9tf (q fb fn fc : Nat) (cnt now : Int) (cb cn cc i : Nat) (x : Nd) (c : Cl) (a : Option Addr) (ac : Nat) (hkr : krB c.lo c.hi c.ts = true) (tm : Int) (ht : timeB tm = true) (na : Option Addr) (nn nc : Nat) (an mc : Nat) (hk : x.k = 9) (p : Nat) (hp : x.a = (p : Int)) (hpn : p < an) (r : Nat) (hr : x.b = (r : Int)) (hrn : r < an) (ha : an ≤ 1048576) (ab : Nat) (Y : List Int) (hY : nextI false c.hi tm c.ts = Y) (v : Bool) (hv : askTo c.lo c.hi tm Y Y.length = v) (w : World) (h : WnIn w q fb fn fc cnt now cb cn cc i x c a ac) (hfz : ∀ o, w.frozen? ⟨cb, o, none⟩ = false) (hA : ArgI w a c.ts) (hab : ab < w.heap.size) (hvv : w.cell? ⟨ab, p, none⟩ = some (.bool true)) (hvb : w.cell? ⟨ab, r, none⟩ = some (.bool false)) :
    Calls Tryz.prog 105 #[.pointer (some ⟨q, 0, none⟩), .int .i64 i, .agg #[.int .i64 tm, .slice na nn nc], .slice (some ⟨ab, 0, none⟩) an mc] w fun e w' => e = .returned (.bool v) ∧ ∃ va' vc, CkPut w w' cb i c.lo c.hi (.slice va' Y.length vc) c.was ∧ OwnI w' w.heap.size (.slice va' Y.length vc) Y := by
  have HWk := hid (WkBox.new h hfz tm (.slice na nn nc) 9 p r x.lo x.hi x.nm (.slice a c.ts.length ac))
  have HB3 := hid (kbelow3 w (.cells #[.int .i64 tm, .slice na nn nc] 41) (.cells #[.int .i64 9, .int .i64 p, .int .i64 r, .int .i64 x.lo, .int .i64 x.hi, .string x.nm] 81) (.cells #[.int .i64 c.lo, .int .i64 c.hi, .slice a c.ts.length ac, .bool c.was] 96))
  have hkz : krB c.lo c.hi c.ts = true := hkr
  have HNx := hid (fun W' h => wk_next false c.lo c.hi c.ts _ rfl a ac hkz tm ht Y hY W' h)
  simp only [Bool.false_eq_true, if_false] at HNx
  have HAs := hid (fun va vc W' h => specAskR_any c.lo c.hi Y _ rfl va vc (by have := krB_len (show krB c.lo c.hi Y = true by rw [← hY]; exact kr_next _ hkz ht); omega) tm ht (fun i hi => krB_times (show krB c.lo c.hi Y = true by rw [← hY]; exact kr_next _ hkz ht) i hi) W' h)
  unfold kpV at HAs
  rw [hv] at HAs
  have HA := hid (hA.on HB3.out)
  obtain ⟨hq, m0, m1, m2, m3, fl, cl, ⟨c0, c1, c2, c3, c4, c5⟩, k0, k1, k2, k3, hn, hc, fm, cm⟩ := h
  have e1 : q < w.heap.size + 1 := by omega
  have e2 : q < w.heap.size + 1 + 1 := by omega
  have e3 : fb < w.heap.size + 1 := by omega
  have e4 : cb < w.heap.size + 1 := by omega
  have e5 : cb < w.heap.size + 1 + 1 := by omega
  have e6 : ab < w.heap.size + 1 := by omega
  have e7 : ab < w.heap.size + 1 + 1 := by omega
  have e8 : ab < w.heap.size + 1 + 1 + 1 := by omega
  have HKk := hid (And.intro cl (And.intro k0 (And.intro k1 (And.intro k2 k3))))
  have HV := hid hv
  rw [hk] at c0
  rw [hp] at c1
  rw [hr] at c2
  clear hk hp hv hY hkz hkr ht hA hfz hr
  go_enter Tryz.func105, Tryz.ntmps105
  go_wp2_with (go_at_call 138; generalize ((w.alloc (.cells #[.int .i64 tm, .slice na nn nc] 41)).alloc (.cells #[.int .i64 9, .int .i64 p, .int .i64 r, .int .i64 x.lo, .int .i64 x.hi, .string x.nm] 81)).alloc (.cells #[.int .i64 c.lo, .int .i64 c.hi, .slice a c.ts.length ac, .bool c.was] 96) = V at *; refine (HNx.out _ HA.out).mono ?_; rintro e w1 ⟨va', vc, rfl, hO1, hb1⟩; have HO1 := hid hO1; have HB1 := hid (HB3.out.trans (hb1.mono HB3.out.size)); have HW1 := hid (HWk.out.on hb1); have hz1 := hb1.size; clear hb1 hO1 m0 m1 m2 m3 c0 c1 c2 c3 c4 c5 k0 k1 k2 k3; obtain ⟨l2, lq, lc, y0, y1, y2, y3, y4, y5, f0, f1, f2, m3, k0, k1, k2, k3, fz⟩ := HW1.out)
  have hV3 := HB3.out.size
  have hset := set3 w1 (w.heap.size + 1 + 1) c.lo c.hi (.slice va' Y.length vc)
  have HWp := hid (HW1.out.put hq cl (.slice va' Y.length vc))
  have hVl := HWk.out.l2
  have HOp := hid (HO1.out.save hset (fun k e => by have := (HO1.out.lt k e).1; omega))
  have HBp := hid (HB1.out.trans (hset.below (B := w.heap.size) HB1.out.size (fun j e => by omega)))
  clear hset y0 y1 y2 y3 y4 y5 f0 f1 f2 m3 k0 k1 k2 k3 fz l2 lq lc
  generalize ((w1.setCell ⟨w.heap.size + 1 + 1, 0, none⟩ (.int .i64 c.lo)).setCell ⟨w.heap.size + 1 + 1, 1, none⟩ (.int .i64 c.hi)).setCell ⟨w.heap.size + 1 + 1, 2, none⟩ (.slice va' Y.length vc) = U at *
  obtain ⟨l2, lq, lc, y0, y1, y2, y3, y4, y5, f0, f1, f2, m3, k0, k1, k2, k3, fz⟩ := HWp.out
  go_region
  have HCp := hid ((ckput HBp.out HKk.out.1 HKk.out.2.1 HKk.out.2.2.1 HKk.out.2.2.2.1 HKk.out.2.2.2.2 c.lo c.hi (.slice va' Y.length vc) c.was).drew)
  have hs4 : Save U ((((U.setCell ⟨cb, i * 4, none⟩ (.int .i64 c.lo)).setCell ⟨cb, i * 4 + 1, none⟩ (.int .i64 c.hi)).setCell ⟨cb, i * 4 + 2, none⟩ (.slice va' Y.length vc)).setCell ⟨cb, i * 4 + 3, none⟩ (.bool c.was)).drew (fun j => j = cb) := (Save.setCell (S := fun j => j = cb) (Save.setCell (S := fun j => j = cb) (Save.setCell (S := fun j => j = cb) (Save.setCell (S := fun j => j = cb) (Save.refl U _) (p := ⟨cb, i * 4, none⟩) (fun _ => rfl) _) (p := ⟨cb, i * 4 + 1, none⟩) (fun _ => rfl) _) (p := ⟨cb, i * 4 + 2, none⟩) (fun _ => rfl) _) (p := ⟨cb, i * 4 + 3, none⟩) (fun _ => rfl) _).drew
  have HO4 := hid (HOp.out.save hs4 (fun k e => by have := (HOp.out.lt k e).1; omega))
  have HS4 := hid hs4
  have a0 := (hs4.cell (p := ⟨w.heap.size, 0, none⟩) (by show w.heap.size < _; omega) (by show ¬ w.heap.size = cb; omega)).trans y0
  have a1 := (hs4.cell (p := ⟨w.heap.size + 1, 0, none⟩) (by show w.heap.size + 1 < _; omega) (by show ¬ w.heap.size + 1 = cb; omega)).trans y1
  have a2 := (hs4.cell (p := ⟨w.heap.size + 1 + 1, 0, none⟩) l2 (by show ¬ w.heap.size + 1 + 1 = cb; omega)).trans y2
  have a3 := (hs4.cell (p := ⟨w.heap.size + 1 + 1, 1, none⟩) l2 (by show ¬ w.heap.size + 1 + 1 = cb; omega)).trans y3
  have a4 := (hs4.cell (p := ⟨w.heap.size + 1 + 1, 2, none⟩) l2 (by show ¬ w.heap.size + 1 + 1 = cb; omega)).trans y4
  have l4 := Nat.lt_of_lt_of_le l2 hs4.size
  clear y0 y1 y2 y3 y4 y5 f0 f1 f2 m3 k0 k1 k2 k3 fz hs4
  generalize ((((U.setCell ⟨cb, i * 4, none⟩ (.int .i64 c.lo)).setCell ⟨cb, i * 4 + 1, none⟩ (.int .i64 c.hi)).setCell ⟨cb, i * 4 + 2, none⟩ (.slice va' Y.length vc)).setCell ⟨cb, i * 4 + 3, none⟩ (.bool c.was)).drew = X at *
  go_wp2_with fail
  have HSs := hid (fun W' (hb : Below X.heap.size X W') => (⟨(hb.cell (p := ⟨w.heap.size, 0, none⟩) (by show w.heap.size < _; omega)).trans a0, (hb.cell (p := ⟨w.heap.size + 1, 0, none⟩) (by show w.heap.size + 1 < _; omega)).trans a1, (hb.cell (p := ⟨w.heap.size + 1 + 1, 0, none⟩) l4).trans a2, (hb.cell (p := ⟨w.heap.size + 1 + 1, 1, none⟩) l4).trans a3, (hb.cell (p := ⟨w.heap.size + 1 + 1, 2, none⟩) l4).trans a4⟩ : W'.cell? ⟨w.heap.size, 0, none⟩ = some (.int .i64 tm) ∧ W'.cell? ⟨w.heap.size + 1, 0, none⟩ = some (.int .i64 9) ∧ W'.cell? ⟨w.heap.size + 1 + 1, 0, none⟩ = some (.int .i64 c.lo) ∧ W'.cell? ⟨w.heap.size + 1 + 1, 1, none⟩ = some (.int .i64 c.hi) ∧ W'.cell? ⟨w.heap.size + 1 + 1, 2, none⟩ = some (.slice va' Y.length vc)))
  have HBX := hid (Below.refl X.heap.size X)
  cases v
  all_goals
    go_region_held3 (fun W' => W'.cell? ⟨w.heap.size, 0, none⟩ = some (.int .i64 tm) ∧ W'.cell? ⟨w.heap.size + 1, 0, none⟩ = some (.int .i64 9) ∧ W'.cell? ⟨w.heap.size + 1 + 1, 0, none⟩ = some (.int .i64 c.lo) ∧ W'.cell? ⟨w.heap.size + 1 + 1, 1, none⟩ = some (.int .i64 c.hi) ∧ W'.cell? ⟨w.heap.size + 1 + 1, 2, none⟩ = some (.slice va' Y.length vc)) (((first | (with_reducible exact HSs.out _ HB5.out) | (with_reducible exact HSs.out _ (below_drew HBX.out))))) ((go_at_call 139; refine (HAs.out va' vc _ (HO4.out.arg).drew').mono ?_; rintro e w5 ⟨rfl, hb5⟩; have HB5 := hid (below_undrew hb5); clear hb5))
    go_wp2_with fail
    go_ret
    exact ⟨rfl, va', vc, HCp.out.on HB5.out HKk.out.1, (HO4.out.on HB5.out).low (by omega)⟩
set_option maxRecDepth 20000 in
set_option maxHeartbeats 4000000 in
theorem wK9ft (q fb fn fc : Nat) (cnt now : Int) (cb cn cc i : Nat) (x : Nd) (c : Cl) (a : Option Addr) (ac : Nat) (hkr : krB c.lo c.hi c.ts = true) (tm : Int) (ht : timeB tm = true) (na : Option Addr) (nn nc : Nat) (an mc : Nat) (hk : x.k = 9) (p : Nat) (hp : x.a = (p : Int)) (hpn : p < an) (r : Nat) (hr : x.b = (r : Int)) (hrn : r < an) (ha : an ≤ 1048576) (ab : Nat) (Y : List Int) (hY : nextI true c.hi tm [] = Y) (v : Bool) (hv : askTo c.lo c.hi tm Y Y.length = v) (w : World) (h : WnIn w q fb fn fc cnt now cb cn cc i x c a ac) (hfz : ∀ o, w.frozen? ⟨cb, o, none⟩ = false) (hA : ArgI w a c.ts) (hab : ab < w.heap.size) (hvv : w.cell? ⟨ab, p, none⟩ = some (.bool false)) (hvb : w.cell? ⟨ab, r, none⟩ = some (.bool true)) :
    Calls Tryz.prog 105 #[.pointer (some ⟨q, 0, none⟩), .int .i64 i, .agg #[.int .i64 tm, .slice na nn nc], .slice (some ⟨ab, 0, none⟩) an mc] w fun e w' => e = .returned (.bool v) ∧ ∃ va' vc, CkPut w w' cb i c.lo c.hi (.slice va' Y.length vc) c.was ∧ OwnI w' w.heap.size (.slice va' Y.length vc) Y := by
  have HWk := hid (WkBox.new h hfz tm (.slice na nn nc) 9 p r x.lo x.hi x.nm (.slice none 0 0))
  have HB3 := hid (kbelow3 w (.cells #[.int .i64 tm, .slice na nn nc] 41) (.cells #[.int .i64 9, .int .i64 p, .int .i64 r, .int .i64 x.lo, .int .i64 x.hi, .string x.nm] 81) (.cells #[.int .i64 c.lo, .int .i64 c.hi, .slice none 0 0, .bool c.was] 96))
  have hkz : krB c.lo c.hi [] = true := kr_nil hkr
  have HNx := hid (fun W' h => wk_next true c.lo c.hi [] _ rfl none 0 hkz tm ht Y hY W' h)
  simp only [if_true, List.length_nil] at HNx
  have HAs := hid (fun va vc W' h => specAskR_any c.lo c.hi Y _ rfl va vc (by have := krB_len (show krB c.lo c.hi Y = true by rw [← hY]; exact kr_next _ hkz ht); omega) tm ht (fun i hi => krB_times (show krB c.lo c.hi Y = true by rw [← hY]; exact kr_next _ hkz ht) i hi) W' h)
  unfold kpV at HAs
  rw [hv] at HAs
  have HA := hid (hA.on HB3.out)
  obtain ⟨hq, m0, m1, m2, m3, fl, cl, ⟨c0, c1, c2, c3, c4, c5⟩, k0, k1, k2, k3, hn, hc, fm, cm⟩ := h
  have e1 : q < w.heap.size + 1 := by omega
  have e2 : q < w.heap.size + 1 + 1 := by omega
  have e3 : fb < w.heap.size + 1 := by omega
  have e4 : cb < w.heap.size + 1 := by omega
  have e5 : cb < w.heap.size + 1 + 1 := by omega
  have e6 : ab < w.heap.size + 1 := by omega
  have e7 : ab < w.heap.size + 1 + 1 := by omega
  have e8 : ab < w.heap.size + 1 + 1 + 1 := by omega
  have HKk := hid (And.intro cl (And.intro k0 (And.intro k1 (And.intro k2 k3))))
  have HV := hid hv
  rw [hk] at c0
  rw [hp] at c1
  rw [hr] at c2
  clear hk hp hv hY hkz hkr ht hA hfz hr
  go_enter Tryz.func105, Tryz.ntmps105
  go_wp2_with (go_at_call 137; generalize ((w.alloc (.cells #[.int .i64 tm, .slice na nn nc] 41)).alloc (.cells #[.int .i64 9, .int .i64 p, .int .i64 r, .int .i64 x.lo, .int .i64 x.hi, .string x.nm] 81)).alloc (.cells #[.int .i64 c.lo, .int .i64 c.hi, .slice none 0 0, .bool c.was] 96) = V at *; refine (HNx.out _ (Or.inl rfl)).mono ?_; rintro e w1 ⟨va', vc, rfl, hO1, hb1⟩; have HO1 := hid hO1; have HB1 := hid (HB3.out.trans (hb1.mono HB3.out.size)); have HW1 := hid (HWk.out.on hb1); have hz1 := hb1.size; clear hb1 hO1 m0 m1 m2 m3 c0 c1 c2 c3 c4 c5 k0 k1 k2 k3; obtain ⟨l2, lq, lc, y0, y1, y2, y3, y4, y5, f0, f1, f2, m3, k0, k1, k2, k3, fz⟩ := HW1.out)
  have hV3 := HB3.out.size
  have hset := set3 w1 (w.heap.size + 1 + 1) c.lo c.hi (.slice va' Y.length vc)
  have HWp := hid (HW1.out.put hq cl (.slice va' Y.length vc))
  have hVl := HWk.out.l2
  have HOp := hid (HO1.out.save hset (fun k e => by have := (HO1.out.lt k e).1; omega))
  have HBp := hid (HB1.out.trans (hset.below (B := w.heap.size) HB1.out.size (fun j e => by omega)))
  clear hset y0 y1 y2 y3 y4 y5 f0 f1 f2 m3 k0 k1 k2 k3 fz l2 lq lc
  generalize ((w1.setCell ⟨w.heap.size + 1 + 1, 0, none⟩ (.int .i64 c.lo)).setCell ⟨w.heap.size + 1 + 1, 1, none⟩ (.int .i64 c.hi)).setCell ⟨w.heap.size + 1 + 1, 2, none⟩ (.slice va' Y.length vc) = U at *
  obtain ⟨l2, lq, lc, y0, y1, y2, y3, y4, y5, f0, f1, f2, m3, k0, k1, k2, k3, fz⟩ := HWp.out
  go_region
  have HCp := hid ((ckput HBp.out HKk.out.1 HKk.out.2.1 HKk.out.2.2.1 HKk.out.2.2.2.1 HKk.out.2.2.2.2 c.lo c.hi (.slice va' Y.length vc) c.was).drew)
  have hs4 : Save U ((((U.setCell ⟨cb, i * 4, none⟩ (.int .i64 c.lo)).setCell ⟨cb, i * 4 + 1, none⟩ (.int .i64 c.hi)).setCell ⟨cb, i * 4 + 2, none⟩ (.slice va' Y.length vc)).setCell ⟨cb, i * 4 + 3, none⟩ (.bool c.was)).drew (fun j => j = cb) := (Save.setCell (S := fun j => j = cb) (Save.setCell (S := fun j => j = cb) (Save.setCell (S := fun j => j = cb) (Save.setCell (S := fun j => j = cb) (Save.refl U _) (p := ⟨cb, i * 4, none⟩) (fun _ => rfl) _) (p := ⟨cb, i * 4 + 1, none⟩) (fun _ => rfl) _) (p := ⟨cb, i * 4 + 2, none⟩) (fun _ => rfl) _) (p := ⟨cb, i * 4 + 3, none⟩) (fun _ => rfl) _).drew
  have HO4 := hid (HOp.out.save hs4 (fun k e => by have := (HOp.out.lt k e).1; omega))
  have HS4 := hid hs4
  have a0 := (hs4.cell (p := ⟨w.heap.size, 0, none⟩) (by show w.heap.size < _; omega) (by show ¬ w.heap.size = cb; omega)).trans y0
  have a1 := (hs4.cell (p := ⟨w.heap.size + 1, 0, none⟩) (by show w.heap.size + 1 < _; omega) (by show ¬ w.heap.size + 1 = cb; omega)).trans y1
  have a2 := (hs4.cell (p := ⟨w.heap.size + 1 + 1, 0, none⟩) l2 (by show ¬ w.heap.size + 1 + 1 = cb; omega)).trans y2
  have a3 := (hs4.cell (p := ⟨w.heap.size + 1 + 1, 1, none⟩) l2 (by show ¬ w.heap.size + 1 + 1 = cb; omega)).trans y3
  have a4 := (hs4.cell (p := ⟨w.heap.size + 1 + 1, 2, none⟩) l2 (by show ¬ w.heap.size + 1 + 1 = cb; omega)).trans y4
  have l4 := Nat.lt_of_lt_of_le l2 hs4.size
  clear y0 y1 y2 y3 y4 y5 f0 f1 f2 m3 k0 k1 k2 k3 fz hs4
  generalize ((((U.setCell ⟨cb, i * 4, none⟩ (.int .i64 c.lo)).setCell ⟨cb, i * 4 + 1, none⟩ (.int .i64 c.hi)).setCell ⟨cb, i * 4 + 2, none⟩ (.slice va' Y.length vc)).setCell ⟨cb, i * 4 + 3, none⟩ (.bool c.was)).drew = X at *
  go_wp2_with fail
  have HSs := hid (fun W' (hb : Below X.heap.size X W') => (⟨(hb.cell (p := ⟨w.heap.size, 0, none⟩) (by show w.heap.size < _; omega)).trans a0, (hb.cell (p := ⟨w.heap.size + 1, 0, none⟩) (by show w.heap.size + 1 < _; omega)).trans a1, (hb.cell (p := ⟨w.heap.size + 1 + 1, 0, none⟩) l4).trans a2, (hb.cell (p := ⟨w.heap.size + 1 + 1, 1, none⟩) l4).trans a3, (hb.cell (p := ⟨w.heap.size + 1 + 1, 2, none⟩) l4).trans a4⟩ : W'.cell? ⟨w.heap.size, 0, none⟩ = some (.int .i64 tm) ∧ W'.cell? ⟨w.heap.size + 1, 0, none⟩ = some (.int .i64 9) ∧ W'.cell? ⟨w.heap.size + 1 + 1, 0, none⟩ = some (.int .i64 c.lo) ∧ W'.cell? ⟨w.heap.size + 1 + 1, 1, none⟩ = some (.int .i64 c.hi) ∧ W'.cell? ⟨w.heap.size + 1 + 1, 2, none⟩ = some (.slice va' Y.length vc)))
  have HBX := hid (Below.refl X.heap.size X)
  cases v
  all_goals
    go_region_held3 (fun W' => W'.cell? ⟨w.heap.size, 0, none⟩ = some (.int .i64 tm) ∧ W'.cell? ⟨w.heap.size + 1, 0, none⟩ = some (.int .i64 9) ∧ W'.cell? ⟨w.heap.size + 1 + 1, 0, none⟩ = some (.int .i64 c.lo) ∧ W'.cell? ⟨w.heap.size + 1 + 1, 1, none⟩ = some (.int .i64 c.hi) ∧ W'.cell? ⟨w.heap.size + 1 + 1, 2, none⟩ = some (.slice va' Y.length vc)) (((first | (with_reducible exact HSs.out _ HB5.out) | (with_reducible exact HSs.out _ (below_drew HBX.out))))) ((go_at_call 139; refine (HAs.out va' vc _ (HO4.out.arg).drew').mono ?_; rintro e w5 ⟨rfl, hb5⟩; have HB5 := hid (below_undrew hb5); clear hb5))
    go_wp2_with fail
    go_ret
    exact ⟨rfl, va', vc, HCp.out.on HB5.out HKk.out.1, (HO4.out.on HB5.out).low (by omega)⟩
set_option maxRecDepth 20000 in
set_option maxHeartbeats 4000000 in
theorem wK9ff (q fb fn fc : Nat) (cnt now : Int) (cb cn cc i : Nat) (x : Nd) (c : Cl) (a : Option Addr) (ac : Nat) (hkr : krB c.lo c.hi c.ts = true) (tm : Int) (ht : timeB tm = true) (na : Option Addr) (nn nc : Nat) (an mc : Nat) (hk : x.k = 9) (p : Nat) (hp : x.a = (p : Int)) (hpn : p < an) (r : Nat) (hr : x.b = (r : Int)) (hrn : r < an) (ha : an ≤ 1048576) (ab : Nat) (Y : List Int) (hY : nextI false c.hi tm [] = Y) (v : Bool) (hv : askTo c.lo c.hi tm Y Y.length = v) (w : World) (h : WnIn w q fb fn fc cnt now cb cn cc i x c a ac) (hfz : ∀ o, w.frozen? ⟨cb, o, none⟩ = false) (hA : ArgI w a c.ts) (hab : ab < w.heap.size) (hvv : w.cell? ⟨ab, p, none⟩ = some (.bool false)) (hvb : w.cell? ⟨ab, r, none⟩ = some (.bool false)) :
    Calls Tryz.prog 105 #[.pointer (some ⟨q, 0, none⟩), .int .i64 i, .agg #[.int .i64 tm, .slice na nn nc], .slice (some ⟨ab, 0, none⟩) an mc] w fun e w' => e = .returned (.bool v) ∧ ∃ va' vc, CkPut w w' cb i c.lo c.hi (.slice va' Y.length vc) c.was ∧ OwnI w' w.heap.size (.slice va' Y.length vc) Y := by
  have HWk := hid (WkBox.new h hfz tm (.slice na nn nc) 9 p r x.lo x.hi x.nm (.slice none 0 0))
  have HB3 := hid (kbelow3 w (.cells #[.int .i64 tm, .slice na nn nc] 41) (.cells #[.int .i64 9, .int .i64 p, .int .i64 r, .int .i64 x.lo, .int .i64 x.hi, .string x.nm] 81) (.cells #[.int .i64 c.lo, .int .i64 c.hi, .slice none 0 0, .bool c.was] 96))
  have hkz : krB c.lo c.hi [] = true := kr_nil hkr
  have HNx := hid (fun W' h => wk_next false c.lo c.hi [] _ rfl none 0 hkz tm ht Y hY W' h)
  simp only [Bool.false_eq_true, if_false, List.length_nil] at HNx
  have HAs := hid (fun va vc W' h => specAskR_any c.lo c.hi Y _ rfl va vc (by have := krB_len (show krB c.lo c.hi Y = true by rw [← hY]; exact kr_next _ hkz ht); omega) tm ht (fun i hi => krB_times (show krB c.lo c.hi Y = true by rw [← hY]; exact kr_next _ hkz ht) i hi) W' h)
  unfold kpV at HAs
  rw [hv] at HAs
  have HA := hid (hA.on HB3.out)
  obtain ⟨hq, m0, m1, m2, m3, fl, cl, ⟨c0, c1, c2, c3, c4, c5⟩, k0, k1, k2, k3, hn, hc, fm, cm⟩ := h
  have e1 : q < w.heap.size + 1 := by omega
  have e2 : q < w.heap.size + 1 + 1 := by omega
  have e3 : fb < w.heap.size + 1 := by omega
  have e4 : cb < w.heap.size + 1 := by omega
  have e5 : cb < w.heap.size + 1 + 1 := by omega
  have e6 : ab < w.heap.size + 1 := by omega
  have e7 : ab < w.heap.size + 1 + 1 := by omega
  have e8 : ab < w.heap.size + 1 + 1 + 1 := by omega
  have HKk := hid (And.intro cl (And.intro k0 (And.intro k1 (And.intro k2 k3))))
  have HV := hid hv
  rw [hk] at c0
  rw [hp] at c1
  rw [hr] at c2
  clear hk hp hv hY hkz hkr ht hA hfz hr
  go_enter Tryz.func105, Tryz.ntmps105
  go_wp2_with (go_at_call 138; generalize ((w.alloc (.cells #[.int .i64 tm, .slice na nn nc] 41)).alloc (.cells #[.int .i64 9, .int .i64 p, .int .i64 r, .int .i64 x.lo, .int .i64 x.hi, .string x.nm] 81)).alloc (.cells #[.int .i64 c.lo, .int .i64 c.hi, .slice none 0 0, .bool c.was] 96) = V at *; refine (HNx.out _ (Or.inl rfl)).mono ?_; rintro e w1 ⟨va', vc, rfl, hO1, hb1⟩; have HO1 := hid hO1; have HB1 := hid (HB3.out.trans (hb1.mono HB3.out.size)); have HW1 := hid (HWk.out.on hb1); have hz1 := hb1.size; clear hb1 hO1 m0 m1 m2 m3 c0 c1 c2 c3 c4 c5 k0 k1 k2 k3; obtain ⟨l2, lq, lc, y0, y1, y2, y3, y4, y5, f0, f1, f2, m3, k0, k1, k2, k3, fz⟩ := HW1.out)
  have hV3 := HB3.out.size
  have hset := set3 w1 (w.heap.size + 1 + 1) c.lo c.hi (.slice va' Y.length vc)
  have HWp := hid (HW1.out.put hq cl (.slice va' Y.length vc))
  have hVl := HWk.out.l2
  have HOp := hid (HO1.out.save hset (fun k e => by have := (HO1.out.lt k e).1; omega))
  have HBp := hid (HB1.out.trans (hset.below (B := w.heap.size) HB1.out.size (fun j e => by omega)))
  clear hset y0 y1 y2 y3 y4 y5 f0 f1 f2 m3 k0 k1 k2 k3 fz l2 lq lc
  generalize ((w1.setCell ⟨w.heap.size + 1 + 1, 0, none⟩ (.int .i64 c.lo)).setCell ⟨w.heap.size + 1 + 1, 1, none⟩ (.int .i64 c.hi)).setCell ⟨w.heap.size + 1 + 1, 2, none⟩ (.slice va' Y.length vc) = U at *
  obtain ⟨l2, lq, lc, y0, y1, y2, y3, y4, y5, f0, f1, f2, m3, k0, k1, k2, k3, fz⟩ := HWp.out
  go_region
  have HCp := hid ((ckput HBp.out HKk.out.1 HKk.out.2.1 HKk.out.2.2.1 HKk.out.2.2.2.1 HKk.out.2.2.2.2 c.lo c.hi (.slice va' Y.length vc) c.was).drew)
  have hs4 : Save U ((((U.setCell ⟨cb, i * 4, none⟩ (.int .i64 c.lo)).setCell ⟨cb, i * 4 + 1, none⟩ (.int .i64 c.hi)).setCell ⟨cb, i * 4 + 2, none⟩ (.slice va' Y.length vc)).setCell ⟨cb, i * 4 + 3, none⟩ (.bool c.was)).drew (fun j => j = cb) := (Save.setCell (S := fun j => j = cb) (Save.setCell (S := fun j => j = cb) (Save.setCell (S := fun j => j = cb) (Save.setCell (S := fun j => j = cb) (Save.refl U _) (p := ⟨cb, i * 4, none⟩) (fun _ => rfl) _) (p := ⟨cb, i * 4 + 1, none⟩) (fun _ => rfl) _) (p := ⟨cb, i * 4 + 2, none⟩) (fun _ => rfl) _) (p := ⟨cb, i * 4 + 3, none⟩) (fun _ => rfl) _).drew
  have HO4 := hid (HOp.out.save hs4 (fun k e => by have := (HOp.out.lt k e).1; omega))
  have HS4 := hid hs4
  have a0 := (hs4.cell (p := ⟨w.heap.size, 0, none⟩) (by show w.heap.size < _; omega) (by show ¬ w.heap.size = cb; omega)).trans y0
  have a1 := (hs4.cell (p := ⟨w.heap.size + 1, 0, none⟩) (by show w.heap.size + 1 < _; omega) (by show ¬ w.heap.size + 1 = cb; omega)).trans y1
  have a2 := (hs4.cell (p := ⟨w.heap.size + 1 + 1, 0, none⟩) l2 (by show ¬ w.heap.size + 1 + 1 = cb; omega)).trans y2
  have a3 := (hs4.cell (p := ⟨w.heap.size + 1 + 1, 1, none⟩) l2 (by show ¬ w.heap.size + 1 + 1 = cb; omega)).trans y3
  have a4 := (hs4.cell (p := ⟨w.heap.size + 1 + 1, 2, none⟩) l2 (by show ¬ w.heap.size + 1 + 1 = cb; omega)).trans y4
  have l4 := Nat.lt_of_lt_of_le l2 hs4.size
  clear y0 y1 y2 y3 y4 y5 f0 f1 f2 m3 k0 k1 k2 k3 fz hs4
  generalize ((((U.setCell ⟨cb, i * 4, none⟩ (.int .i64 c.lo)).setCell ⟨cb, i * 4 + 1, none⟩ (.int .i64 c.hi)).setCell ⟨cb, i * 4 + 2, none⟩ (.slice va' Y.length vc)).setCell ⟨cb, i * 4 + 3, none⟩ (.bool c.was)).drew = X at *
  go_wp2_with fail
  have HSs := hid (fun W' (hb : Below X.heap.size X W') => (⟨(hb.cell (p := ⟨w.heap.size, 0, none⟩) (by show w.heap.size < _; omega)).trans a0, (hb.cell (p := ⟨w.heap.size + 1, 0, none⟩) (by show w.heap.size + 1 < _; omega)).trans a1, (hb.cell (p := ⟨w.heap.size + 1 + 1, 0, none⟩) l4).trans a2, (hb.cell (p := ⟨w.heap.size + 1 + 1, 1, none⟩) l4).trans a3, (hb.cell (p := ⟨w.heap.size + 1 + 1, 2, none⟩) l4).trans a4⟩ : W'.cell? ⟨w.heap.size, 0, none⟩ = some (.int .i64 tm) ∧ W'.cell? ⟨w.heap.size + 1, 0, none⟩ = some (.int .i64 9) ∧ W'.cell? ⟨w.heap.size + 1 + 1, 0, none⟩ = some (.int .i64 c.lo) ∧ W'.cell? ⟨w.heap.size + 1 + 1, 1, none⟩ = some (.int .i64 c.hi) ∧ W'.cell? ⟨w.heap.size + 1 + 1, 2, none⟩ = some (.slice va' Y.length vc)))
  have HBX := hid (Below.refl X.heap.size X)
  cases v
  all_goals
    go_region_held3 (fun W' => W'.cell? ⟨w.heap.size, 0, none⟩ = some (.int .i64 tm) ∧ W'.cell? ⟨w.heap.size + 1, 0, none⟩ = some (.int .i64 9) ∧ W'.cell? ⟨w.heap.size + 1 + 1, 0, none⟩ = some (.int .i64 c.lo) ∧ W'.cell? ⟨w.heap.size + 1 + 1, 1, none⟩ = some (.int .i64 c.hi) ∧ W'.cell? ⟨w.heap.size + 1 + 1, 2, none⟩ = some (.slice va' Y.length vc)) (((first | (with_reducible exact HSs.out _ HB5.out) | (with_reducible exact HSs.out _ (below_drew HBX.out))))) ((go_at_call 139; refine (HAs.out va' vc _ (HO4.out.arg).drew').mono ?_; rintro e w5 ⟨rfl, hb5⟩; have HB5 := hid (below_undrew hb5); clear hb5))
    go_wp2_with fail
    go_ret
    exact ⟨rfl, va', vc, HCp.out.on HB5.out HKk.out.1, (HO4.out.on HB5.out).low (by omega)⟩
end Go.Proofs.YtbfkbgmkibkbnaaGreatDoor
