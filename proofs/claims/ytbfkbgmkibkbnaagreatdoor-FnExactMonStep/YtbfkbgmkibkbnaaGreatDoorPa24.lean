/-
  The program's steps since, atom and prev, by their contracts.
  The model's l06Node, the kinds that keep nothing.
  The model's l06Node over prev.
-/
import Derived.Test.YtbfkbgmkibkbnaaGreatDoorPa23
import Derived.Test.YtbfkbgmkibkbnaaGreatDoorPa00
import Derived.Test.YtbfkbgmkibkbnaaGreatDoorPa09
namespace Go.Proofs.YtbfkbgmkibkbnaaGreatDoor
open Go.RowKit
set_option linter.unusedVariables false
set_option linter.unusedSimpArgs false
theorem kr_nil {lo hi : Int} {Z : List Int} (h : krB lo hi Z = true) : krB lo hi [] = true :=
  krB_yes _ _ _ (krB_parts h).1 (by unfold mostI; split <;> simp <;> omega) rfl
theorem kbelow5 (w : World) (o1 o2 o3 o4 o5 : Obj) : Below w.heap.size w (((((w.alloc o1).alloc o2).alloc o3).alloc o4).alloc o5) := (kbelow4 w o1 o2 o3 o4).alloc (by simp; omega) o5
set_option maxRecDepth 20000 in
set_option maxHeartbeats 4000000 in
theorem atom_any (wf : Option Addr) (wn wc : Nat) (cnt now tm : Int) (S : List ByteArray) (na : Option Addr) (nn nc : Nat) (hnn : S.length = nn) (hl : nn ≤ maxLen) (aa : Option Addr) (an ac : Nat) (x : Nd) (lo hi : Int) (a : Option Addr) (n c : Nat) (was : Bool) (v : Bool) (hv : nhTo S x.nm S.length = v) (w : World) (hA : TsAt w na S) :
    Calls Tryz.prog 127 #[.agg #[.slice wf wn wc, .int .i64 cnt, .int .i64 now, .int .i64 tm, .slice na nn nc, .slice aa an ac], .agg #[.int .i64 x.k, .int .i64 x.a, .int .i64 x.b, .int .i64 x.lo, .int .i64 x.hi, .string x.nm], .agg #[.int .i64 lo, .int .i64 hi, .slice a n c, .bool was]] w fun e w' => e = .returned (.tuple #[.bool v, .agg #[.int .i64 0, .int .i64 0, .slice none 0 0, .bool false]]) ∧ Below w.heap.size w w' := by
  have HB0 := hid (kbelow4 w (.cells #[.slice wf wn wc, .int .i64 cnt, .int .i64 now, .int .i64 tm, .slice na nn nc, .slice aa an ac] 90) (.cells #[.int .i64 x.k, .int .i64 x.a, .int .i64 x.b, .int .i64 x.lo, .int .i64 x.hi, .string x.nm] 81) (.cells #[.int .i64 lo, .int .i64 hi, .slice a n c, .bool was] 96) (.cells #[.int .i64 0, .int .i64 0, .slice none 0 0, .bool false] 96))
  have HC := hid (contains_any S x.nm nn hnn na nc hl _ (hA.below HB0.out))
  rw [hv] at HC
  clear hA hnn hv
  go_enter Tryz.func127, Tryz.ntmps127
  go_wp2_with (go_at_call 147; refine HC.out.mono ?_; rintro e w1 ⟨rfl, rfl⟩)
  refine bodyPost_ret (v := .tuple #[.bool v, .agg #[.int .i64 0, .int .i64 0, .slice none 0 0, .bool false]]) (by simp [results, Tryz.results127, go_sem]) rfl ?_
  exact ⟨rfl, HB0.out⟩
end Go.Proofs.YtbfkbgmkibkbnaaGreatDoor
namespace Go.Proofs.YtbfkbgmkibkbnaaGreatDoor
open Go.RowKit
set_option linter.unusedVariables false
set_option linter.unusedSimpArgs false
/-- What l06Node reads: the monitor, its node, its cell. -/
structure WnIn (w : World) (q fb fn fc : Nat) (cnt now : Int) (cb cn cc i : Nat) (x : Nd) (c : Cl) (a : Option Addr) (ac : Nat) : Prop where
  hq : q < w.heap.size
  m0 : w.cell? ⟨q, 0, none⟩ = some (.slice (some ⟨fb, 0, none⟩) fn fc)
  m1 : w.cell? ⟨q, 1, none⟩ = some (.int .i64 cnt)
  m2 : w.cell? ⟨q, 2, none⟩ = some (.int .i64 now)
  m3 : w.cell? ⟨q, 3, none⟩ = some (.slice (some ⟨cb, 0, none⟩) cn cc)
  fl : fb < w.heap.size
  cl : cb < w.heap.size
  node : NodeAt w fb (i * 6) x
  k0 : w.cell? ⟨cb, i * 4, none⟩ = some (.int .i64 c.lo)
  k1 : w.cell? ⟨cb, i * 4 + 1, none⟩ = some (.int .i64 c.hi)
  k2 : w.cell? ⟨cb, i * 4 + 2, none⟩ = some (.slice a c.ts.length ac)
  k3 : w.cell? ⟨cb, i * 4 + 3, none⟩ = some (.bool c.was)
  hn : i < fn
  hc : i < cn
  fm : fn ≤ 1048576
  cm : cn ≤ 1048576
set_option maxRecDepth 20000 in
set_option maxHeartbeats 2000000 in
theorem wNode1 (q fb fn fc : Nat) (cnt now : Int) (cb cn cc i : Nat) (x : Nd) (c : Cl) (a : Option Addr) (ac : Nat) (tm : Int) (S : List ByteArray) (na : Option Addr) (nn nc : Nat) (aa : Option Addr) (an mc : Nat) (hk : x.k = 1) (w : World) (h : WnIn w q fb fn fc cnt now cb cn cc i x c a ac) :
    Calls Tryz.prog 105 #[.pointer (some ⟨q, 0, none⟩), .int .i64 i, .agg #[.int .i64 tm, .slice na nn nc], .slice aa an mc] w fun e w' => e = .returned (.bool true) ∧ Below w.heap.size w w' := by
  obtain ⟨hq, m0, m1, m2, m3, fl, cl, ⟨c0, c1, c2, c3, c4, c5⟩, k0, k1, k2, k3, hn, hc, fm, cm⟩ := h
  have e1 : q < w.heap.size + 1 := by omega
  have e2 : q < w.heap.size + 1 + 1 := by omega
  have e3 : fb < w.heap.size + 1 := by omega
  have e4 : cb < w.heap.size + 1 := by omega
  have e5 : cb < w.heap.size + 1 + 1 := by omega
  have HB3 := hid (kbelow3 w (.cells #[.int .i64 tm, .slice na nn nc] 41) (.cells #[.int .i64 1, .int .i64 x.a, .int .i64 x.b, .int .i64 x.lo, .int .i64 x.hi, .string x.nm] 81) (.cells #[.int .i64 c.lo, .int .i64 c.hi, .slice a c.ts.length ac, .bool c.was] 96))
  rw [hk] at c0
  clear hk
  go_enter Tryz.func105, Tryz.ntmps105
  go_wp2_with fail
  go_ret
  exact ⟨rfl, HB3.out⟩
set_option maxRecDepth 20000 in
set_option maxHeartbeats 2000000 in
theorem wNode2 (q fb fn fc : Nat) (cnt now : Int) (cb cn cc i : Nat) (x : Nd) (c : Cl) (a : Option Addr) (ac : Nat) (tm : Int) (S : List ByteArray) (na : Option Addr) (nn nc : Nat) (aa : Option Addr) (an mc : Nat) (hk : x.k = 2) (hnn : S.length = nn) (hl : nn ≤ maxLen) (v : Bool) (hv : nhTo S x.nm S.length = v) (w : World) (h : WnIn w q fb fn fc cnt now cb cn cc i x c a ac) (hA : TsAt w na S) :
    Calls Tryz.prog 105 #[.pointer (some ⟨q, 0, none⟩), .int .i64 i, .agg #[.int .i64 tm, .slice na nn nc], .slice aa an mc] w fun e w' => e = .returned (.bool v) ∧ Below w.heap.size w w' := by
  obtain ⟨hq, m0, m1, m2, m3, fl, cl, ⟨c0, c1, c2, c3, c4, c5⟩, k0, k1, k2, k3, hn, hc, fm, cm⟩ := h
  have e1 : q < w.heap.size + 1 := by omega
  have e2 : q < w.heap.size + 1 + 1 := by omega
  have e3 : fb < w.heap.size + 1 := by omega
  have e4 : cb < w.heap.size + 1 := by omega
  have e5 : cb < w.heap.size + 1 + 1 := by omega
  have HB3 := hid (kbelow3 w (.cells #[.int .i64 tm, .slice na nn nc] 41) (.cells #[.int .i64 2, .int .i64 x.a, .int .i64 x.b, .int .i64 x.lo, .int .i64 x.hi, .string x.nm] 81) (.cells #[.int .i64 c.lo, .int .i64 c.hi, .slice a c.ts.length ac, .bool c.was] 96))
  rw [hk] at c0
  have HH := hid (fun W h => specL03Has_any tm S x.nm nn hnn na nc hl W h)
  rw [hv] at HH
  have HA := hid (hA.below HB3.out)
  clear hk hnn hv hA
  go_enter Tryz.func105, Tryz.ntmps105
  go_wp2_with (go_at_call 120; refine (HH.out _ HA.out).mono ?_; rintro e w2 ⟨rfl, hb2⟩; have HB4 := hid (HB3.out.trans (hb2.mono HB3.out.size)); clear hb2)
  go_ret
  exact ⟨rfl, HB4.out⟩
set_option maxRecDepth 20000 in
set_option maxHeartbeats 2000000 in
theorem wNode3 (q fb fn fc : Nat) (cnt now : Int) (cb cn cc i : Nat) (x : Nd) (c : Cl) (a : Option Addr) (ac : Nat) (tm : Int) (S : List ByteArray) (na : Option Addr) (nn nc : Nat) (aa : Option Addr) (an mc : Nat) (hk : x.k = 3) (p : Nat) (hp : x.a = (p : Int)) (hpn : p < an) (ha : an ≤ 1048576) (ab : Nat) (va : Bool) (w : World) (h : WnIn w q fb fn fc cnt now cb cn cc i x c a ac) (hab : ab < w.heap.size) (hv : w.cell? ⟨ab, p, none⟩ = some (.bool va)) :
    Calls Tryz.prog 105 #[.pointer (some ⟨q, 0, none⟩), .int .i64 i, .agg #[.int .i64 tm, .slice na nn nc], .slice (some ⟨ab, 0, none⟩) an mc] w fun e w' => e = .returned (.bool (!va)) ∧ Below w.heap.size w w' := by
  obtain ⟨hq, m0, m1, m2, m3, fl, cl, ⟨c0, c1, c2, c3, c4, c5⟩, k0, k1, k2, k3, hn, hc, fm, cm⟩ := h
  have e1 : q < w.heap.size + 1 := by omega
  have e2 : q < w.heap.size + 1 + 1 := by omega
  have e3 : fb < w.heap.size + 1 := by omega
  have e4 : cb < w.heap.size + 1 := by omega
  have e5 : cb < w.heap.size + 1 + 1 := by omega
  have e6 : ab < w.heap.size + 1 := by omega
  have e7 : ab < w.heap.size + 1 + 1 := by omega
  have e8 : ab < w.heap.size + 1 + 1 + 1 := by omega
  have HB3 := hid (kbelow3 w (.cells #[.int .i64 tm, .slice na nn nc] 41) (.cells #[.int .i64 3, .int .i64 p, .int .i64 x.b, .int .i64 x.lo, .int .i64 x.hi, .string x.nm] 81) (.cells #[.int .i64 c.lo, .int .i64 c.hi, .slice a c.ts.length ac, .bool c.was] 96))
  rw [hk] at c0
  rw [hp] at c1
  clear hk hp
  go_enter Tryz.func105, Tryz.ntmps105
  go_wp2_with fail
  go_ret
  exact ⟨rfl, HB3.out⟩
set_option maxRecDepth 20000 in
set_option maxHeartbeats 2000000 in
theorem wNode4 (q fb fn fc : Nat) (cnt now : Int) (cb cn cc i : Nat) (x : Nd) (c : Cl) (a : Option Addr) (ac : Nat) (tm : Int) (S : List ByteArray) (na : Option Addr) (nn nc : Nat) (aa : Option Addr) (an mc : Nat) (hk : x.k = 4) (p r : Nat) (hp : x.a = (p : Int)) (hr : x.b = (r : Int)) (hpn : p < an) (hrn : r < an) (ha : an ≤ 1048576) (ab : Nat) (va vb : Bool) (w : World) (h : WnIn w q fb fn fc cnt now cb cn cc i x c a ac) (hab : ab < w.heap.size) (hv : w.cell? ⟨ab, p, none⟩ = some (.bool va)) (hu : w.cell? ⟨ab, r, none⟩ = some (.bool vb)) :
    Calls Tryz.prog 105 #[.pointer (some ⟨q, 0, none⟩), .int .i64 i, .agg #[.int .i64 tm, .slice na nn nc], .slice (some ⟨ab, 0, none⟩) an mc] w fun e w' => e = .returned (.bool (va && vb)) ∧ Below w.heap.size w w' := by
  obtain ⟨hq, m0, m1, m2, m3, fl, cl, ⟨c0, c1, c2, c3, c4, c5⟩, k0, k1, k2, k3, hn, hc, fm, cm⟩ := h
  have e1 : q < w.heap.size + 1 := by omega
  have e2 : q < w.heap.size + 1 + 1 := by omega
  have e3 : fb < w.heap.size + 1 := by omega
  have e4 : cb < w.heap.size + 1 := by omega
  have e5 : cb < w.heap.size + 1 + 1 := by omega
  have e6 : ab < w.heap.size + 1 := by omega
  have e7 : ab < w.heap.size + 1 + 1 := by omega
  have e8 : ab < w.heap.size + 1 + 1 + 1 := by omega
  have HB3 := hid (kbelow3 w (.cells #[.int .i64 tm, .slice na nn nc] 41) (.cells #[.int .i64 4, .int .i64 p, .int .i64 r, .int .i64 x.lo, .int .i64 x.hi, .string x.nm] 81) (.cells #[.int .i64 c.lo, .int .i64 c.hi, .slice a c.ts.length ac, .bool c.was] 96))
  rw [hk] at c0
  rw [hp] at c1
  rw [hr] at c2
  clear hk hp hr
  cases va
  all_goals
    go_enter Tryz.func105, Tryz.ntmps105
    go_wp2_with fail
    go_ret
    exact ⟨ret_bool (by simp), HB3.out⟩
set_option maxRecDepth 20000 in
set_option maxHeartbeats 2000000 in
theorem wNode5 (q fb fn fc : Nat) (cnt now : Int) (cb cn cc i : Nat) (x : Nd) (c : Cl) (a : Option Addr) (ac : Nat) (tm : Int) (S : List ByteArray) (na : Option Addr) (nn nc : Nat) (aa : Option Addr) (an mc : Nat) (hk : x.k = 5) (p r : Nat) (hp : x.a = (p : Int)) (hr : x.b = (r : Int)) (hpn : p < an) (hrn : r < an) (ha : an ≤ 1048576) (ab : Nat) (va vb : Bool) (w : World) (h : WnIn w q fb fn fc cnt now cb cn cc i x c a ac) (hab : ab < w.heap.size) (hv : w.cell? ⟨ab, p, none⟩ = some (.bool va)) (hu : w.cell? ⟨ab, r, none⟩ = some (.bool vb)) :
    Calls Tryz.prog 105 #[.pointer (some ⟨q, 0, none⟩), .int .i64 i, .agg #[.int .i64 tm, .slice na nn nc], .slice (some ⟨ab, 0, none⟩) an mc] w fun e w' => e = .returned (.bool (va || vb)) ∧ Below w.heap.size w w' := by
  obtain ⟨hq, m0, m1, m2, m3, fl, cl, ⟨c0, c1, c2, c3, c4, c5⟩, k0, k1, k2, k3, hn, hc, fm, cm⟩ := h
  have e1 : q < w.heap.size + 1 := by omega
  have e2 : q < w.heap.size + 1 + 1 := by omega
  have e3 : fb < w.heap.size + 1 := by omega
  have e4 : cb < w.heap.size + 1 := by omega
  have e5 : cb < w.heap.size + 1 + 1 := by omega
  have e6 : ab < w.heap.size + 1 := by omega
  have e7 : ab < w.heap.size + 1 + 1 := by omega
  have e8 : ab < w.heap.size + 1 + 1 + 1 := by omega
  have HB3 := hid (kbelow3 w (.cells #[.int .i64 tm, .slice na nn nc] 41) (.cells #[.int .i64 5, .int .i64 p, .int .i64 r, .int .i64 x.lo, .int .i64 x.hi, .string x.nm] 81) (.cells #[.int .i64 c.lo, .int .i64 c.hi, .slice a c.ts.length ac, .bool c.was] 96))
  rw [hk] at c0
  rw [hp] at c1
  rw [hr] at c2
  clear hk hp hr
  cases va
  all_goals
    go_enter Tryz.func105, Tryz.ntmps105
    go_wp2_with fail
    go_ret
    exact ⟨ret_bool (by simp), HB3.out⟩
end Go.Proofs.YtbfkbgmkibkbnaaGreatDoor
namespace Go.Proofs.YtbfkbgmkibkbnaaGreatDoor
open Go.RowKit
set_option linter.unusedVariables false
set_option linter.unusedSimpArgs false
theorem frozen_setCell' (w : World) (p a : Addr) (v : Value) : (w.setCell a v).frozen? p = w.frozen? p := by simp
/-- A cell of a row written anew. -/
structure CkPut (w w' : World) (cb i : Nat) (lo hi : Int) (sl : Value) (was : Bool) : Prop where
  sv : Save w w' (fun j => j = cb)
  p0 : w'.cell? ⟨cb, i * 4, none⟩ = some (.int .i64 lo)
  p1 : w'.cell? ⟨cb, i * 4 + 1, none⟩ = some (.int .i64 hi)
  p2 : w'.cell? ⟨cb, i * 4 + 2, none⟩ = some sl
  p3 : w'.cell? ⟨cb, i * 4 + 3, none⟩ = some (.bool was)
  els : ∀ o, (o < i * 4 ∨ i * 4 + 4 ≤ o) → w'.cell? ⟨cb, o, none⟩ = w.cell? ⟨cb, o, none⟩
  fz : ∀ o, w'.frozen? ⟨cb, o, none⟩ = w.frozen? ⟨cb, o, none⟩
theorem ckput {w V : World} {cb i : Nat} {u0 u1 u2 u3 : Value} (hb : Below w.heap.size w V) (hc : cb < w.heap.size) (k0 : w.cell? ⟨cb, i * 4, none⟩ = some u0) (k1 : w.cell? ⟨cb, i * 4 + 1, none⟩ = some u1) (k2 : w.cell? ⟨cb, i * 4 + 2, none⟩ = some u2) (k3 : w.cell? ⟨cb, i * 4 + 3, none⟩ = some u3) (lo hi : Int) (sl : Value) (was : Bool) :
    CkPut w ((((V.setCell ⟨cb, i * 4, none⟩ (.int .i64 lo)).setCell ⟨cb, i * 4 + 1, none⟩ (.int .i64 hi)).setCell ⟨cb, i * 4 + 2, none⟩ sl).setCell ⟨cb, i * 4 + 3, none⟩ (.bool was)) cb i lo hi sl was := by
  have h0 := (hb.cell (p := ⟨cb, i * 4, none⟩) hc).trans k0
  have h1 := (hb.cell (p := ⟨cb, i * 4 + 1, none⟩) hc).trans k1
  have h2 := (hb.cell (p := ⟨cb, i * 4 + 2, none⟩) hc).trans k2
  have h3 := (hb.cell (p := ⟨cb, i * 4 + 3, none⟩) hc).trans k3
  refine ⟨?_, ?_, ?_, ?_, ?_, fun o ho => ?_, fun o => ?_⟩
  · exact Save.setCell (S := fun j => j = cb) (Save.setCell (S := fun j => j = cb) (Save.setCell (S := fun j => j = cb) (Save.setCell (S := fun j => j = cb) (Save.of_below hb _ (fun j h1 h2 => absurd h1 (by omega))) (p := ⟨cb, i * 4, none⟩) (fun _ => rfl) _) (p := ⟨cb, i * 4 + 1, none⟩) (fun _ => rfl) _) (p := ⟨cb, i * 4 + 2, none⟩) (fun _ => rfl) _) (p := ⟨cb, i * 4 + 3, none⟩) (fun _ => rfl) _
  · simp [go_sem, h0]
  · simp [go_sem, h1]
  · simp [go_sem, h2]
  · simp [go_sem, h3]
  · rw [World.cell?_setCell_other _ _ _ _ (by intro e; injection e with e1 e2; omega), World.cell?_setCell_other _ _ _ _ (by intro e; injection e with e1 e2; omega), World.cell?_setCell_other _ _ _ _ (by intro e; injection e with e1 e2; omega), World.cell?_setCell_other _ _ _ _ (by intro e; injection e with e1 e2; omega)]
    exact hb.cell (p := ⟨cb, o, none⟩) hc
  · rw [frozen_setCell', frozen_setCell', frozen_setCell', frozen_setCell']
    exact hb.frozen (p := ⟨cb, o, none⟩) hc
theorem CkPut.drew {w w' : World} {cb i : Nat} {lo hi : Int} {sl : Value} {was : Bool} (h : CkPut w w' cb i lo hi sl was) : CkPut w w'.drew cb i lo hi sl was :=
  ⟨h.sv.drew, h.p0, h.p1, h.p2, h.p3, h.els, h.fz⟩
theorem CkPut.on {w w' w'' : World} {cb i : Nat} {lo hi : Int} {sl : Value} {was : Bool} (h : CkPut w w' cb i lo hi sl was) (hb : Below w'.heap.size w' w'') (hc : cb < w.heap.size) : CkPut w w'' cb i lo hi sl was := by
  have hc' : cb < w'.heap.size := Nat.lt_of_lt_of_le hc h.sv.size
  exact ⟨h.sv.trans (Save.of_below hb _ (fun j h1 h2 => absurd h1 (by omega))), (hb.cell (p := ⟨cb, _, none⟩) hc').trans h.p0, (hb.cell (p := ⟨cb, _, none⟩) hc').trans h.p1, (hb.cell (p := ⟨cb, _, none⟩) hc').trans h.p2, (hb.cell (p := ⟨cb, _, none⟩) hc').trans h.p3, fun o ho => (hb.cell (p := ⟨cb, o, none⟩) hc').trans (h.els o ho), fun o => (hb.frozen (p := ⟨cb, o, none⟩) hc').trans (h.fz o)⟩
set_option maxRecDepth 20000 in
set_option maxHeartbeats 4000000 in
theorem wNode6 (q fb fn fc : Nat) (cnt now : Int) (cb cn cc i : Nat) (x : Nd) (lo hi : Int) (ts : List Int) (was : Bool) (a : Option Addr) (ac : Nat) (tm : Int) (ht0 : 0 ≤ now ∧ now ≤ 1000000) (ht : 0 ≤ tm ∧ tm ≤ 1000000) (na : Option Addr) (nn nc : Nat) (an mc : Nat) (hk : x.k = 6) (p : Nat) (hp : x.a = (p : Int)) (hpn : p < an) (ha : an ≤ 1048576) (ab : Nat) (va : Bool) (v : Bool) (hv : (decide (0 < cnt) && (was && inB x.lo x.hi (tm - now))) = v) (w : World) (h : WnIn w q fb fn fc cnt now cb cn cc i x ⟨lo, hi, ts, was⟩ a ac) (hfz : ∀ o, w.frozen? ⟨cb, o, none⟩ = false) (hab : ab < w.heap.size) (hvv : w.cell? ⟨ab, p, none⟩ = some (.bool va)) :
    Calls Tryz.prog 105 #[.pointer (some ⟨q, 0, none⟩), .int .i64 i, .agg #[.int .i64 tm, .slice na nn nc], .slice (some ⟨ab, 0, none⟩) an mc] w fun e w' => e = .returned (.bool v) ∧ CkPut w w' cb i lo hi (.slice a ts.length ac) va := by
  obtain ⟨hq, m0, m1, m2, m3, fl, cl, ⟨c0, c1, c2, c3, c4, c5⟩, k0, k1, k2, k3, hn, hc, fm, cm⟩ := h
  simp only at k0 k1 k2 k3
  have e1 : q < w.heap.size + 1 := by omega
  have e2 : q < w.heap.size + 1 + 1 := by omega
  have e2' : q < w.heap.size + 1 + 1 + 1 := by omega
  have e3 : fb < w.heap.size + 1 := by omega
  have e4 : cb < w.heap.size + 1 := by omega
  have e5 : cb < w.heap.size + 1 + 1 := by omega
  have e5' : cb < w.heap.size + 1 + 1 + 1 := by omega
  have e6 : ab < w.heap.size + 1 := by omega
  have e7 : ab < w.heap.size + 1 + 1 := by omega
  have e8 : ab < w.heap.size + 1 + 1 + 1 := by omega
  obtain ⟨t1, t2⟩ := ht0
  obtain ⟨t3, t4⟩ := ht
  have HC := hid (fun w => specIn_is x.lo x.hi (tm - now) _ rfl w)
  have HV := hid hv
  rw [hk] at c0
  rw [hp] at c1
  have HB3 := hid (fun b => kbelow3 w (.cells #[.int .i64 tm, .slice na nn nc] 41) (.cells #[.int .i64 6, .int .i64 p, .int .i64 x.b, .int .i64 x.lo, .int .i64 x.hi, .string x.nm] 81) (.cells #[.int .i64 lo, .int .i64 hi, .slice a ts.length ac, .bool b] 96))
  have HKk := hid (And.intro cl (And.intro k0 (And.intro k1 (And.intro k2 k3))))
  clear hk hp hv
  generalize hbv : inB x.lo x.hi (tm - now) = bv at *
  clear hbv
  by_cases h0 : 0 < cnt
  · have h0' : decide (0 < cnt) = true := by simp [h0]
    cases was with
    | true =>
      obtain rfl : bv = v := by have := HV.out; simpa [h0] using this
      go_enter Tryz.func105, Tryz.ntmps105
      go_wp2_with fail
      go_quiet ((go_at_call 121; exact Calls.quiet_of_same (HC.out _)))
      go_wp2_with fail
      go_region
      go_wp2_with fail
      refine bodyPost_ret (v := .bool bv) (by simp [results, Tryz.results105, go_sem]) rfl ?_
      exact ⟨rfl, (ckput (Below.setCell (below_drewN (HB3.out true) nq) (p := ⟨w.heap.size + 1 + 1, 3, none⟩) (by show w.heap.size ≤ w.heap.size + 1 + 1; omega) (.bool va)) HKk.out.1 HKk.out.2.1 HKk.out.2.2.1 HKk.out.2.2.2.1 HKk.out.2.2.2.2 lo hi (.slice a ts.length ac) va).drew⟩
    | false =>
      obtain rfl : false = v := by have := HV.out; simpa using this
      go_enter Tryz.func105, Tryz.ntmps105
      go_wp2_with fail
      go_quiet (fail)
      go_wp2_with fail
      go_region
      go_wp2_with fail
      refine bodyPost_ret (v := .bool false) (by simp [results, Tryz.results105, go_sem]) rfl ?_
      exact ⟨rfl, (ckput (Below.setCell (below_drewN (HB3.out false) nq) (p := ⟨w.heap.size + 1 + 1, 3, none⟩) (by show w.heap.size ≤ w.heap.size + 1 + 1; omega) (.bool va)) HKk.out.1 HKk.out.2.1 HKk.out.2.2.1 HKk.out.2.2.2.1 HKk.out.2.2.2.2 lo hi (.slice a ts.length ac) va).drew⟩
  · have h0' : decide (0 < cnt) = false := by simp [h0]
    obtain rfl : false = v := by have := HV.out; simpa [h0] using this
    go_enter Tryz.func105, Tryz.ntmps105
    go_wp2_with fail
    go_quiet (fail)
    go_wp2_with fail
    go_region
    go_wp2_with fail
    refine bodyPost_ret (v := .bool false) (by simp [results, Tryz.results105, go_sem]) rfl ?_
    exact ⟨rfl, (ckput (Below.setCell (below_drewN (HB3.out was) nq) (p := ⟨w.heap.size + 1 + 1, 3, none⟩) (by show w.heap.size ≤ w.heap.size + 1 + 1; omega) (.bool va)) HKk.out.1 HKk.out.2.1 HKk.out.2.2.1 HKk.out.2.2.2.1 HKk.out.2.2.2.2 lo hi (.slice a ts.length ac) va).drew⟩
end Go.Proofs.YtbfkbgmkibkbnaaGreatDoor
