/-
  MonRight: what it asks; the program's wasRight, keptRight, by their contracts.
-/
import Derived.Test.YtljhokoojodjnaaGreatDoorMnA
import Derived.Test.YtljhokoojodjnaaGreatDoorCkM
import Derived.BigQuiet
import Derived.Lib.QuietBelow
namespace Go.Proofs.YtljhokoojodjnaaGreatDoor
open Go.RowKit
set_option linter.unusedVariables false
set_option linter.unusedSimpArgs false
def lastT (Z : List Int) : Int := zAt Z (Z.length - 1)
def wasB (cnt : Int) (x : Nd) (was : Bool) : Bool := !was || ((x.k == 6) && decide (0 < cnt))
def keptB (cnt now : Int) (x : Nd) (c : Cl) : Bool :=
  krB c.lo c.hi c.ts && ((c.lo == bareLo x) && ((c.hi == bareHi x) && (decide (c.ts.length = 0) || (keepsK x.k && (decide (0 < cnt) && decide (lastT c.ts ≤ now))))))
def cellB (cnt now : Int) (x : Nd) (c : Cl) : Bool := wasB cnt x c.was && keptB cnt now x c
def cellsTo (f : List Nd) (cnt now : Int) (C : List Cl) (k : Nat) : Bool := (List.range k).all fun i => cellB cnt now (ndAt f i) (clAt C i)
def monB (f : List Nd) (cnt now : Int) (C : List Cl) : Bool := rightB f && (decide (C.length = f.length) && (timeB cnt && (timeB now && (!((cnt == 0) && (now != 0)) && cellsTo f cnt now C f.length))))
theorem cellsTo_succ (f : List Nd) (cnt now : Int) (C : List Cl) (k : Nat) : cellsTo f cnt now C (k + 1) = (cellsTo f cnt now C k && cellB cnt now (ndAt f k) (clAt C k)) := by
  simp [cellsTo, List.range_succ]
theorem cellsTo_false (f : List Nd) (cnt now : Int) (C : List Cl) (k m : Nat) (hm : k < m) (h : cellB cnt now (ndAt f k) (clAt C k) = false) : cellsTo f cnt now C m = false := by
  simp only [cellsTo, List.all_eq_false, List.mem_range]
  exact ⟨k, hm, by simp [h]⟩
theorem lastT_at {Z : List Int} {m : Nat} (h : Z.length = m + 1) : lastT Z = zAt Z m := by simp [lastT, h]
theorem kr0 {Z : List Int} (h : Z.length = 0) : krB 0 0 Z = true := by
  have : Z = [] := List.eq_nil_of_length_eq_zero h
  subst this
  rfl
set_option maxRecDepth 20000 in
set_option maxHeartbeats 1000000 in
theorem wasI_is (mv : Value) (fa : Option Addr) (fn fc : Nat) (cnt now : Int) (ca : Option Addr) (cn cc : Nat) (x : Nd) (was : Bool) (v : Bool) (hv : wasB cnt x was = v) (w : World) :
    Calls Tryz.prog 133 #[.agg #[.slice fa fn fc, .int .i64 cnt, .int .i64 now, .slice ca cn cc], ndV x, .bool was] w fun e w' => e = .returned (.bool v) ∧ Below w.heap.size w w' := by
  have HU : Hid (ndV x = .agg #[.int .i64 x.k, .int .i64 x.a, .int .i64 x.b, .int .i64 x.lo, .int .i64 x.hi, .string x.nm]) := rfl
  rw [HU.out]
  have HB := hid (bbelow2 w (.cells #[.slice fa fn fc, .int .i64 cnt, .int .i64 now, .slice ca cn cc] 46) (.cells #[.int .i64 x.k, .int .i64 x.a, .int .i64 x.b, .int .i64 x.lo, .int .i64 x.hi, .string x.nm] 132))
  have HV : Hid (v = (!was || ((x.k == 6) && decide (0 < cnt)))) := hv.symm
  clear hv
  cases was with
  | false =>
    go_enter Tryz.func133, Tryz.ntmps133
    go_wp2
    go_ret
    exact ⟨ret_bool (by rw [HV.out]; rfl), HB.out⟩
  | true =>
    rcases Bool.eq_false_or_eq_true (x.k == 6) with h6 | h6
    · by_cases hc : 0 < cnt
      all_goals
        go_enter Tryz.func133, Tryz.ntmps133
        go_wp2
        go_ret
        exact ⟨ret_bool (by rw [HV.out, h6]; simp [hc]), HB.out⟩
    · go_enter Tryz.func133, Tryz.ntmps133
      go_wp2
      go_ret
      exact ⟨ret_bool (by rw [HV.out, h6]; rfl), HB.out⟩
theorem bbelow3 (w : World) (o1 o2 o3 : Obj) : Below w.heap.size w (((w.alloc o1).alloc o2).alloc o3) := (((Below.refl w.heap.size w).alloc (Nat.le_refl _) o1).alloc (by simp) o2).alloc (by simp; omega) o3
/-- The boxes of keptRight. -/
structure KrBox (W : World) (q : Nat) (cnt now : Int) (x : Nd) (lo hi : Int) (a : Option Addr) (n c : Nat) : Prop where
  sz : q + 3 ≤ W.heap.size
  m1 : W.cell? ⟨q, 1, none⟩ = some (.int .i64 cnt)
  m2 : W.cell? ⟨q, 2, none⟩ = some (.int .i64 now)
  x0 : W.cell? ⟨q + 1, 0, none⟩ = some (.int .i64 x.k)
  x1 : W.cell? ⟨q + 1, 1, none⟩ = some (.int .i64 x.a)
  x2 : W.cell? ⟨q + 1, 2, none⟩ = some (.int .i64 x.b)
  x3 : W.cell? ⟨q + 1, 3, none⟩ = some (.int .i64 x.lo)
  x4 : W.cell? ⟨q + 1, 4, none⟩ = some (.int .i64 x.hi)
  x5 : W.cell? ⟨q + 1, 5, none⟩ = some (.string x.nm)
  k0 : W.cell? ⟨q + 1 + 1, 0, none⟩ = some (.int .i64 lo)
  k1 : W.cell? ⟨q + 1 + 1, 1, none⟩ = some (.int .i64 hi)
  k2 : W.cell? ⟨q + 1 + 1, 2, none⟩ = some (.slice a n c)
theorem KrBox.new (w : World) (fa : Option Addr) (fn fc : Nat) (cnt now : Int) (ca : Option Addr) (cn cc : Nat) (x : Nd) (lo hi : Int) (a : Option Addr) (n c : Nat) : KrBox (((w.alloc (.cells #[.slice fa fn fc, .int .i64 cnt, .int .i64 now, .slice ca cn cc] 46)).alloc (.cells #[.int .i64 x.k, .int .i64 x.a, .int .i64 x.b, .int .i64 x.lo, .int .i64 x.hi, .string x.nm] 132)).alloc (.cells #[.int .i64 lo, .int .i64 hi, .slice a n c] 103)) w.heap.size cnt now x lo hi a n c :=
  ⟨by simp, by simp [go_sem], by simp [go_sem], by simp [go_sem], by simp [go_sem], by simp [go_sem], by simp [go_sem], by simp [go_sem], by simp [go_sem], by simp [go_sem], by simp [go_sem], by simp [go_sem]⟩
theorem KrBox.on {W W' : World} {q : Nat} {cnt now : Int} {x : Nd} {lo hi : Int} {a : Option Addr} {n c : Nat} (h : KrBox W q cnt now x lo hi a n c) (hb : Below W.heap.size W W') : KrBox W' q cnt now x lo hi a n c := by
  have hz := h.sz
  have hz' := hb.size
  exact ⟨by omega, (hb.cell (p := ⟨q, _, none⟩) (by show q < _; omega)).trans h.m1, (hb.cell (p := ⟨q, _, none⟩) (by show q < _; omega)).trans h.m2,
    (hb.cell (p := ⟨q + 1, _, none⟩) (by show q + 1 < _; omega)).trans h.x0, (hb.cell (p := ⟨q + 1, _, none⟩) (by show q + 1 < _; omega)).trans h.x1, (hb.cell (p := ⟨q + 1, _, none⟩) (by show q + 1 < _; omega)).trans h.x2, (hb.cell (p := ⟨q + 1, _, none⟩) (by show q + 1 < _; omega)).trans h.x3, (hb.cell (p := ⟨q + 1, _, none⟩) (by show q + 1 < _; omega)).trans h.x4, (hb.cell (p := ⟨q + 1, _, none⟩) (by show q + 1 < _; omega)).trans h.x5,
    (hb.cell (p := ⟨q + 1 + 1, _, none⟩) (by show q + 1 + 1 < _; omega)).trans h.k0, (hb.cell (p := ⟨q + 1 + 1, _, none⟩) (by show q + 1 + 1 < _; omega)).trans h.k1, (hb.cell (p := ⟨q + 1 + 1, _, none⟩) (by show q + 1 + 1 < _; omega)).trans h.k2⟩
set_option maxRecDepth 20000 in
set_option maxHeartbeats 4000000 in
theorem keptI_is (fa : Option Addr) (fn fc : Nat) (cnt now : Int) (h0 : 0 ≤ cnt) (ca : Option Addr) (cn cc : Nat) (x : Nd) (C : Cl) (n : Nat) (hn : C.ts.length = n) (a : Option Addr) (c : Nat) (hl : n ≤ 2000000) (v : Bool) (hv : keptB cnt now x C = v) (w : World) (hA : ArgI w a C.ts) :
    Calls Tryz.prog 134 #[.agg #[.slice fa fn fc, .int .i64 cnt, .int .i64 now, .slice ca cn cc], ndV x, .agg #[.int .i64 C.lo, .int .i64 C.hi, .slice a n c]] w fun e w' => e = .returned (.bool v) ∧ Below w.heap.size w w' := by
  have HU : Hid (ndV x = .agg #[.int .i64 x.k, .int .i64 x.a, .int .i64 x.b, .int .i64 x.lo, .int .i64 x.hi, .string x.nm]) := rfl
  obtain ⟨lo, hi, ts, was⟩ := C
  have HB0 := hid (bbelow3 w (.cells #[.slice fa fn fc, .int .i64 cnt, .int .i64 now, .slice ca cn cc] 46) (.cells #[.int .i64 x.k, .int .i64 x.a, .int .i64 x.b, .int .i64 x.lo, .int .i64 x.hi, .string x.nm] 132) (.cells #[.int .i64 lo, .int .i64 hi, .slice a n c] 103))
  have HX0 := hid (KrBox.new w fa fn fc cnt now ca cn cc x lo hi a n c)
  have HBk := hid (fun w => bare_is x _ _ rfl rfl w)
  rw [HU.out] at HBk
  have HV : Hid (v = (krB lo hi ts && ((lo == bareLo x) && ((hi == bareHi x) && (decide (ts.length = 0) || (keepsK x.k && (decide (0 < cnt) && decide (lastT ts ≤ now)))))))) := hv.symm
  have HN := hid hn
  have HA := hid hA
  rw [HU.out]
  clear hv hA
  simp only at hn
  generalize hbl : bareLo x = blo at *
  generalize hbh : bareHi x = bhi at *
  -- the program's first steps, up to what follows KeepRight
  rcases Bool.eq_false_or_eq_true (krB lo hi ts) with hk | hk
  · have HKr : Hid (∀ w, ArgI w a ts → Calls Tryz.prog 163 #[.agg #[.int .i64 lo, .int .i64 hi, .slice a n c]] w fun e w' => e = .returned (.bool true) ∧ Below w.heap.size w w') := fun w h => implKr_is lo hi ts true hk n hn a c (by omega) w h
    rw [hk] at HV
    clear hk
    rcases Bool.eq_false_or_eq_true (lo == blo) with e1 | e1
    · rcases Bool.eq_false_or_eq_true (hi == bhi) with e2 | e2
      · have e1' : (lo != blo) = false := by simp [bne, e1]
        have e2' : (hi != bhi) = false := by simp [bne, e2]
        rw [e1, e2] at HV
        rcases Bool.eq_false_or_eq_true (keepsK x.k) with hkk | hkk
        · have HKk := hid (fun w => keepsI_is x true hkk w)
          rw [HU.out] at HKk
          rw [hkk] at HV
          clear hn hkk hbl hbh
          by_cases hc0 : cnt = 0
          · subst hc0
            have hcase : n = 0 ∨ ((n : Int) == 0) = false := by
              by_cases h : n = 0
              · exact Or.inl h
              · right; simpa using h
            rcases hcase with rfl | hn0
            all_goals
              go_enter Tryz.func134, Tryz.ntmps134
              go_wp2_with (first | (go_at_call 132; refine (HBk.out _).mono ?_; rintro e w1 ⟨rfl, hb1⟩; have HB1 := hid (HB0.out.trans (hb1.mono HB0.out.size)); have HX1 := hid (HX0.out.on hb1); have hz1 := (by have := hb1.size; have := HX0.out.sz; omega : w.heap.size < w1.heap.size); have hz1a := (by have := hb1.size; have := HX0.out.sz; omega : w.heap.size + 1 < w1.heap.size); have hz1b := (by have := hb1.size; have := HX0.out.sz; omega : w.heap.size + 1 + 1 < w1.heap.size); obtain ⟨_, m1, m2, x0, x1, x2, x3, x4, x5, k0, k1, k2⟩ := HX1.out; have HBb := hid (below_one' w1 (.cells #[.int .i64 blo, .int .i64 bhi, .slice none 0 0] 103)); clear hb1) | (go_at_call 163; refine (HKr.out _ (HA.out.below (HB1.out.trans (HBb.out.mono HB1.out.size)) (Nat.le_refl _))).mono ?_; rintro e w2 ⟨rfl, hb2⟩; clear m1 m2 x0 x1 x2 x3 x4 x5 k0 k1 k2; have HB2 := hid ((HB1.out.trans (HBb.out.mono HB1.out.size)).trans (hb2.mono (HB1.out.trans (HBb.out.mono HB1.out.size)).size)); obtain ⟨_, m1, m2, x0, x1, x2, x3, x4, x5, k0, k1, k2⟩ := (HX1.out.on HBb.out).on hb2; obtain ⟨_, b0, b1, b2⟩ := (KBox.new w1 blo bhi none 0 0 103).on hb2; have hz2 := (by have := hb2.size; have := HBb.out.size; omega : w1.heap.size ≤ w2.heap.size); clear hb2))
              go_ret
              exact ⟨ret_bool (by rw [HV.out, HN.out]; first | rfl | simp [show ¬ n = 0 by simpa using hn0]), HB2.out⟩
          · have hc1 : 0 < cnt := by omega
            have hc2 : (cnt == 0) = false := by simpa using hc0
            by_cases hn0 : n = 0
            · subst hn0
              go_enter Tryz.func134, Tryz.ntmps134
              go_wp2_with (first | (go_at_call 132; refine (HBk.out _).mono ?_; rintro e w1 ⟨rfl, hb1⟩; have HB1 := hid (HB0.out.trans (hb1.mono HB0.out.size)); have HX1 := hid (HX0.out.on hb1); have hz1 := (by have := hb1.size; have := HX0.out.sz; omega : w.heap.size < w1.heap.size); have hz1a := (by have := hb1.size; have := HX0.out.sz; omega : w.heap.size + 1 < w1.heap.size); have hz1b := (by have := hb1.size; have := HX0.out.sz; omega : w.heap.size + 1 + 1 < w1.heap.size); obtain ⟨_, m1, m2, x0, x1, x2, x3, x4, x5, k0, k1, k2⟩ := HX1.out; have HBb := hid (below_one' w1 (.cells #[.int .i64 blo, .int .i64 bhi, .slice none 0 0] 103)); clear hb1) | (go_at_call 163; refine (HKr.out _ (HA.out.below (HB1.out.trans (HBb.out.mono HB1.out.size)) (Nat.le_refl _))).mono ?_; rintro e w2 ⟨rfl, hb2⟩; clear m1 m2 x0 x1 x2 x3 x4 x5 k0 k1 k2; have HB2 := hid ((HB1.out.trans (HBb.out.mono HB1.out.size)).trans (hb2.mono (HB1.out.trans (HBb.out.mono HB1.out.size)).size)); have HX2 := hid ((HX1.out.on HBb.out).on hb2); obtain ⟨_, m1, m2, x0, x1, x2, x3, x4, x5, k0, k1, k2⟩ := HX2.out; obtain ⟨_, b0, b1, b2⟩ := (KBox.new w1 blo bhi none 0 0 103).on hb2; have hz2 := (by have := hb2.size; have := HBb.out.size; omega : w1.heap.size ≤ w2.heap.size); clear hb2) | (go_at_call 162; refine (HKk.out _).mono ?_; rintro e w3 ⟨rfl, hb3⟩; clear m1 m2 x0 x1 x2 x3 x4 x5 k0 k1 k2 b0 b1 b2; have HB3 := hid (HB2.out.trans (hb3.mono HB2.out.size)); obtain ⟨_, m1, m2, x0, x1, x2, x3, x4, x5, k0, k1, k2⟩ := HX2.out.on hb3; clear hb3))
              go_quiet (fail)
              go_wp2_with fail
              go_ret
              exact ⟨ret_bool (by rw [HV.out, HN.out]; simp), below_drewN HB3.out nq⟩
            · obtain ⟨m, rfl⟩ : ∃ m, n = m + 1 := ⟨n - 1, by omega⟩
              have hA2 := HA.out
              rcases hA2 with hA2 | ⟨b, off, rfl, hb, hcells⟩
              · have := HN.out; omega
              have HD := hid (hcells m (by have := HN.out; omega))
              have HLa : Hid (lastT ts = zAt ts m) := lastT_at HN.out
              rw [HLa.out] at HV
              clear hcells hn0 HLa
              have hnn : decide (ts.length = 0) = false := by simp [HN.out]
              rw [hnn] at HV
              clear hnn
              have hmm : m < m + 1 := by omega
              generalize zAt ts m = T at *
              by_cases hT : T ≤ now
              all_goals
                go_enter Tryz.func134, Tryz.ntmps134
                go_wp2_with (first | (go_at_call 132; refine (HBk.out _).mono ?_; rintro e w1 ⟨rfl, hb1⟩; have HB1 := hid (HB0.out.trans (hb1.mono HB0.out.size)); have HX1 := hid (HX0.out.on hb1); have hz1 := (by have := hb1.size; have := HX0.out.sz; omega : w.heap.size < w1.heap.size); have hz1a := (by have := hb1.size; have := HX0.out.sz; omega : w.heap.size + 1 < w1.heap.size); have hz1b := (by have := hb1.size; have := HX0.out.sz; omega : w.heap.size + 1 + 1 < w1.heap.size); obtain ⟨_, m1, m2, x0, x1, x2, x3, x4, x5, k0, k1, k2⟩ := HX1.out; have HBb := hid (below_one' w1 (.cells #[.int .i64 blo, .int .i64 bhi, .slice none 0 0] 103)); clear hb1) | (go_at_call 163; refine (HKr.out _ (HA.out.below (HB1.out.trans (HBb.out.mono HB1.out.size)) (Nat.le_refl _))).mono ?_; rintro e w2 ⟨rfl, hb2⟩; clear m1 m2 x0 x1 x2 x3 x4 x5 k0 k1 k2; have HB2 := hid ((HB1.out.trans (HBb.out.mono HB1.out.size)).trans (hb2.mono (HB1.out.trans (HBb.out.mono HB1.out.size)).size)); have HX2 := hid ((HX1.out.on HBb.out).on hb2); obtain ⟨_, m1, m2, x0, x1, x2, x3, x4, x5, k0, k1, k2⟩ := HX2.out; obtain ⟨_, b0, b1, b2⟩ := (KBox.new w1 blo bhi none 0 0 103).on hb2; have hz2 := (by have := hb2.size; have := HBb.out.size; omega : w1.heap.size ≤ w2.heap.size); clear hb2) | (go_at_call 162; refine (HKk.out _).mono ?_; rintro e w3 ⟨rfl, hb3⟩; clear m1 m2 x0 x1 x2 x3 x4 x5 k0 k1 k2 b0 b1 b2; have HB3 := hid (HB2.out.trans (hb3.mono HB2.out.size)); obtain ⟨_, m1, m2, x0, x1, x2, x3, x4, x5, k0, k1, k2⟩ := HX2.out.on hb3; have d0 := (HB3.out.cell (p := ⟨b, off + m, none⟩) hb).trans HD.out; clear hb3))
                clear hmm
                generalize hN' : m + 1 = N at *
                have hmN : m < N := by omega
                clear hN'
                go_quiet (fail)
                go_wp2_with fail
                go_ret
                exact ⟨ret_bool (by rw [HV.out]; first | (simp [hT, hc1]; done) | (simp [hT, hc1]; intro h; exact absurd h (by omega))), below_drewN HB3.out nq⟩
        · have HKk := hid (fun w => keepsI_is x false hkk w)
          rw [HU.out] at HKk
          rw [hkk] at HV
          clear hn hkk hbl hbh
          have hcase : n = 0 ∨ ((n : Int) == 0) = false := by
            by_cases h : n = 0
            · exact Or.inl h
            · right; simpa using h
          have hcase2 : cnt = 0 ∨ (cnt == 0) = false := by
            by_cases h : cnt = 0
            · exact Or.inl h
            · right; simpa using h
          rcases hcase with rfl | hn0 <;> rcases hcase2 with rfl | hc0
          all_goals
            go_enter Tryz.func134, Tryz.ntmps134
            go_wp2_with (first | (go_at_call 132; refine (HBk.out _).mono ?_; rintro e w1 ⟨rfl, hb1⟩; have HB1 := hid (HB0.out.trans (hb1.mono HB0.out.size)); have HX1 := hid (HX0.out.on hb1); have hz1 := (by have := hb1.size; have := HX0.out.sz; omega : w.heap.size < w1.heap.size); have hz1a := (by have := hb1.size; have := HX0.out.sz; omega : w.heap.size + 1 < w1.heap.size); have hz1b := (by have := hb1.size; have := HX0.out.sz; omega : w.heap.size + 1 + 1 < w1.heap.size); obtain ⟨_, m1, m2, x0, x1, x2, x3, x4, x5, k0, k1, k2⟩ := HX1.out; have HBb := hid (below_one' w1 (.cells #[.int .i64 blo, .int .i64 bhi, .slice none 0 0] 103)); clear hb1) | (go_at_call 163; refine (HKr.out _ (HA.out.below (HB1.out.trans (HBb.out.mono HB1.out.size)) (Nat.le_refl _))).mono ?_; rintro e w2 ⟨rfl, hb2⟩; clear m1 m2 x0 x1 x2 x3 x4 x5 k0 k1 k2; have HB2 := hid ((HB1.out.trans (HBb.out.mono HB1.out.size)).trans (hb2.mono (HB1.out.trans (HBb.out.mono HB1.out.size)).size)); have HX2 := hid ((HX1.out.on HBb.out).on hb2); obtain ⟨_, m1, m2, x0, x1, x2, x3, x4, x5, k0, k1, k2⟩ := HX2.out; obtain ⟨_, b0, b1, b2⟩ := (KBox.new w1 blo bhi none 0 0 103).on hb2; have hz2 := (by have := hb2.size; have := HBb.out.size; omega : w1.heap.size ≤ w2.heap.size); clear hb2) | (go_at_call 162; refine (HKk.out _).mono ?_; rintro e w3 ⟨rfl, hb3⟩; clear m1 m2 x0 x1 x2 x3 x4 x5 k0 k1 k2 b0 b1 b2; have HB2' := HB2; clear HB2; have HB2 := hid (HB2'.out.trans (hb3.mono HB2'.out.size)); obtain ⟨_, m1, m2, x0, x1, x2, x3, x4, x5, k0, k1, k2⟩ := HX2.out.on hb3; clear hb3))
            go_ret
            exact ⟨ret_bool (by rw [HV.out, HN.out]; first | rfl | simp [show ¬ n = 0 by simpa using hn0]), HB2.out⟩
      · have e1' : (lo != blo) = false := by simp [bne, e1]
        have e2' : (hi != bhi) = true := by simp [bne, e2]
        rw [e1, e2] at HV
        clear hn hbl hbh
        go_enter Tryz.func134, Tryz.ntmps134
        go_wp2_with (first | (go_at_call 132; refine (HBk.out _).mono ?_; rintro e w1 ⟨rfl, hb1⟩; have HB1 := hid (HB0.out.trans (hb1.mono HB0.out.size)); have HX1 := hid (HX0.out.on hb1); have hz1 := (by have := hb1.size; have := HX0.out.sz; omega : w.heap.size < w1.heap.size); have hz1a := (by have := hb1.size; have := HX0.out.sz; omega : w.heap.size + 1 < w1.heap.size); have hz1b := (by have := hb1.size; have := HX0.out.sz; omega : w.heap.size + 1 + 1 < w1.heap.size); obtain ⟨_, m1, m2, x0, x1, x2, x3, x4, x5, k0, k1, k2⟩ := HX1.out; have HBb := hid (below_one' w1 (.cells #[.int .i64 blo, .int .i64 bhi, .slice none 0 0] 103)); clear hb1) | (go_at_call 163; refine (HKr.out _ (HA.out.below (HB1.out.trans (HBb.out.mono HB1.out.size)) (Nat.le_refl _))).mono ?_; rintro e w2 ⟨rfl, hb2⟩; clear m1 m2 x0 x1 x2 x3 x4 x5 k0 k1 k2; have HB2 := hid ((HB1.out.trans (HBb.out.mono HB1.out.size)).trans (hb2.mono (HB1.out.trans (HBb.out.mono HB1.out.size)).size)); obtain ⟨_, m1, m2, x0, x1, x2, x3, x4, x5, k0, k1, k2⟩ := (HX1.out.on HBb.out).on hb2; obtain ⟨_, b0, b1, b2⟩ := (KBox.new w1 blo bhi none 0 0 103).on hb2; have hz2 := (by have := hb2.size; have := HBb.out.size; omega : w1.heap.size ≤ w2.heap.size); clear hb2))
        go_ret
        exact ⟨ret_bool (by rw [HV.out]; rfl), HB2.out⟩
    · have e1' : (lo != blo) = true := by simp [bne, e1]
      rw [e1] at HV
      clear hn hbl hbh
      go_enter Tryz.func134, Tryz.ntmps134
      go_wp2_with (first | (go_at_call 132; refine (HBk.out _).mono ?_; rintro e w1 ⟨rfl, hb1⟩; have HB1 := hid (HB0.out.trans (hb1.mono HB0.out.size)); have HX1 := hid (HX0.out.on hb1); have hz1 := (by have := hb1.size; have := HX0.out.sz; omega : w.heap.size < w1.heap.size); have hz1a := (by have := hb1.size; have := HX0.out.sz; omega : w.heap.size + 1 < w1.heap.size); have hz1b := (by have := hb1.size; have := HX0.out.sz; omega : w.heap.size + 1 + 1 < w1.heap.size); obtain ⟨_, m1, m2, x0, x1, x2, x3, x4, x5, k0, k1, k2⟩ := HX1.out; have HBb := hid (below_one' w1 (.cells #[.int .i64 blo, .int .i64 bhi, .slice none 0 0] 103)); clear hb1) | (go_at_call 163; refine (HKr.out _ (HA.out.below (HB1.out.trans (HBb.out.mono HB1.out.size)) (Nat.le_refl _))).mono ?_; rintro e w2 ⟨rfl, hb2⟩; clear m1 m2 x0 x1 x2 x3 x4 x5 k0 k1 k2; have HB2 := hid ((HB1.out.trans (HBb.out.mono HB1.out.size)).trans (hb2.mono (HB1.out.trans (HBb.out.mono HB1.out.size)).size)); obtain ⟨_, m1, m2, x0, x1, x2, x3, x4, x5, k0, k1, k2⟩ := (HX1.out.on HBb.out).on hb2; obtain ⟨_, b0, b1, b2⟩ := (KBox.new w1 blo bhi none 0 0 103).on hb2; have hz2 := (by have := hb2.size; have := HBb.out.size; omega : w1.heap.size ≤ w2.heap.size); clear hb2))
      go_ret
      exact ⟨ret_bool (by rw [HV.out]; rfl), HB2.out⟩
  · have HKr : Hid (∀ w, ArgI w a ts → Calls Tryz.prog 163 #[.agg #[.int .i64 lo, .int .i64 hi, .slice a n c]] w fun e w' => e = .returned (.bool false) ∧ Below w.heap.size w w') := fun w h => implKr_is lo hi ts false hk n hn a c (by omega) w h
    rw [hk] at HV
    clear hn hk hbl hbh
    go_enter Tryz.func134, Tryz.ntmps134
    go_wp2_with (first | (go_at_call 132; refine (HBk.out _).mono ?_; rintro e w1 ⟨rfl, hb1⟩; have HB1 := hid (HB0.out.trans (hb1.mono HB0.out.size)); have HX1 := hid (HX0.out.on hb1); have hz1 := (by have := hb1.size; have := HX0.out.sz; omega : w.heap.size < w1.heap.size); have hz1a := (by have := hb1.size; have := HX0.out.sz; omega : w.heap.size + 1 < w1.heap.size); have hz1b := (by have := hb1.size; have := HX0.out.sz; omega : w.heap.size + 1 + 1 < w1.heap.size); obtain ⟨_, m1, m2, x0, x1, x2, x3, x4, x5, k0, k1, k2⟩ := HX1.out; have HBb := hid (below_one' w1 (.cells #[.int .i64 blo, .int .i64 bhi, .slice none 0 0] 103)); clear hb1) | (go_at_call 163; refine (HKr.out _ (HA.out.below (HB1.out.trans (HBb.out.mono HB1.out.size)) (Nat.le_refl _))).mono ?_; rintro e w2 ⟨rfl, hb2⟩; clear m1 m2 x0 x1 x2 x3 x4 x5 k0 k1 k2; have HB2 := hid ((HB1.out.trans (HBb.out.mono HB1.out.size)).trans (hb2.mono (HB1.out.trans (HBb.out.mono HB1.out.size)).size)); obtain ⟨_, m1, m2, x0, x1, x2, x3, x4, x5, k0, k1, k2⟩ := (HX1.out.on HBb.out).on hb2; obtain ⟨_, b0, b1, b2⟩ := (KBox.new w1 blo bhi none 0 0 103).on hb2; have hz2 := (by have := hb2.size; have := HBb.out.size; omega : w1.heap.size ≤ w2.heap.size); clear hb2))
    go_ret
    exact ⟨ret_bool (by rw [HV.out]; rfl), HB2.out⟩
end Go.Proofs.YtljhokoojodjnaaGreatDoor
