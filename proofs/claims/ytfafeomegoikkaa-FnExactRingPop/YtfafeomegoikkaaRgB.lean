/-
  Rings: plain facts; a place's cup, the model's and the program's; RingRight, the model's.
-/
import Derived.Test.YtfafeomegoikkaaRgA
import Derived.Test.YtfafeomegoikkaaTm
import Derived.Deep.QuietTactic
import Derived.Laws.StructEq
namespace Go.Proofs.Ytfafeomegoikkaa
open Go.RowKit
set_option linter.unusedVariables false
set_option linter.unusedSimpArgs false
theorem below_new {w W : World} (h : Below w.heap.size w W) (o : Obj) : Below w.heap.size w (W.alloc o) := h.alloc h.size o
theorem below_one' (w : World) (o : Obj) : Below w.heap.size w (w.alloc o) := (Below.refl _ _).alloc (Nat.le_refl _) o
theorem below_drew {B : Nat} {a w : World} (h : Below B a w) : Below B a w.drew := ⟨h.os, h.tape, h.output, h.size, h.block⟩
theorem below_undrew {w w' : World} (h : Below w.drew.heap.size w.drew w') : Below w.heap.size w w' := ⟨h.os, h.tape, h.output, h.size, h.block⟩
theorem bcell {W w1 : World} (hb : Below W.heap.size W w1) : (∀ b o, b < W.heap.size → w1.cell? ⟨b, o, none⟩ = W.cell? ⟨b, o, none⟩) ∧ (∀ b o, b < W.heap.size → w1.frozen? ⟨b, o, none⟩ = W.frozen? ⟨b, o, none⟩) :=
  ⟨fun b o h => hb.cell (p := ⟨b, o, none⟩) h, fun b o h => hb.frozen (p := ⟨b, o, none⟩) h⟩
def capB (c : Int) : Bool := c == 1 || c == 2 || c == 4 || c == 8 || c == 16
def itemB (t : Int) : Bool := decide (1 ≤ t ∧ t ≤ 1000000)
/-- A cup is right for its place. -/
def cupB (tl p s t : Int) : Bool := (s == p && t == 0) || (decide (p < tl) && (s == p + 1 && itemB t))
def sqAt (Z : List Int) (C p : Nat) : Int := zAt Z (p % C * 2)
def itAt (Z : List Int) (C p : Nat) : Int := zAt Z (p % C * 2 + 1)
def placesTo (tl : Int) (Z : List Int) (C H k : Nat) : Bool := (List.range k).all fun j => cupB tl ((H + j : Nat) : Int) (sqAt Z C (H + j)) (itAt Z C (H + j))
def ringB (cap hd tl : Int) (n : Nat) (Z : List Int) : Bool :=
  capB cap && (timeB hd && (timeB tl && (decide (hd ≤ tl) && (decide (tl ≤ hd + cap) && (decide ((n : Int) = cap) && placesTo tl Z cap.toNat hd.toNat cap.toNat)))))
theorem placesTo_succ (tl : Int) (Z : List Int) (C H k : Nat) : placesTo tl Z C H (k + 1) = (placesTo tl Z C H k && cupB tl ((H + k : Nat) : Int) (sqAt Z C (H + k)) (itAt Z C (H + k))) := by
  simp [placesTo, List.range_succ]
theorem placesTo_false (tl : Int) (Z : List Int) (C H k m : Nat) (hm : k < m) (h : placesTo tl Z C H (k + 1) = false) : placesTo tl Z C H m = false := by
  simp only [placesTo, List.all_eq_false, List.mem_range] at h ⊢
  obtain ⟨i, hi, h⟩ := h
  exact ⟨i, by omega, h⟩
theorem placesTo_at {tl : Int} {Z : List Int} {C H m : Nat} (h : placesTo tl Z C H m = true) (k : Nat) (hk : k < m) : cupB tl ((H + k : Nat) : Int) (sqAt Z C (H + k)) (itAt Z C (H + k)) = true := by
  simp only [placesTo, List.all_eq_true, List.mem_range] at h
  exact h k hk
theorem capB_cases {c : Int} (h : capB c = true) : c = 1 ∨ c = 2 ∨ c = 4 ∨ c = 8 ∨ c = 16 := by simpa [capB, or_assoc] using h
theorem timeB_iff {t : Int} : timeB t = true ↔ 0 ≤ t ∧ t ≤ 1000000 := by simp [timeB]
theorem ringB_cap {cap hd tl : Int} {n : Nat} {Z : List Int} (h : capB cap = false) : ringB cap hd tl n Z = false := by simp [ringB, h]
theorem ringB_hd {cap hd tl : Int} {n : Nat} {Z : List Int} (h : timeB hd = false) : ringB cap hd tl n Z = false := by simp [ringB, h]
theorem ringB_tl {cap hd tl : Int} {n : Nat} {Z : List Int} (h : timeB tl = false) : ringB cap hd tl n Z = false := by simp [ringB, h]
theorem ringB_lt {cap hd tl : Int} {n : Nat} {Z : List Int} (h : tl < hd) : ringB cap hd tl n Z = false := by simp [ringB]; omega
theorem ringB_gt {cap hd tl : Int} {n : Nat} {Z : List Int} (h : hd + cap < tl) : ringB cap hd tl n Z = false := by simp [ringB]; omega
theorem ringB_len {cap hd tl : Int} {n : Nat} {Z : List Int} (h : ¬ (n : Int) = cap) : ringB cap hd tl n Z = false := by simp [ringB]; omega
theorem ringB_rest {H C n : Nat} {tl : Int} {Z : List Int} (h1 : capB (C : Int) = true) (h2 : timeB (H : Int) = true) (h3 : timeB tl = true) (h4 : (H : Int) ≤ tl) (h5 : tl ≤ (H : Int) + C) (h6 : n = C) : ringB C H tl n Z = placesTo tl Z C H C := by
  simp [ringB, h1, h2, h3, h4, h5, h6]
theorem ringB_parts {cap hd tl : Int} {n : Nat} {Z : List Int} (h : ringB cap hd tl n Z = true) : ∃ C H T : Nat, cap = C ∧ hd = H ∧ tl = T ∧ n = C ∧ capB (C : Int) = true ∧ H ≤ 1000000 ∧ T ≤ 1000000 ∧ H ≤ T ∧ T ≤ H + C ∧ 1 ≤ C ∧ C ≤ 16 ∧ placesTo T Z C H C = true := by
  simp only [ringB, Bool.and_eq_true, decide_eq_true_eq, timeB_iff] at h
  obtain ⟨h1, h2, h3, h4, h5, h6, h7⟩ := h
  have hc := capB_cases h1
  refine ⟨cap.toNat, hd.toNat, tl.toNat, by omega, by omega, by omega, by omega, ?_, by omega, by omega, by omega, by omega, by omega, by omega, ?_⟩
  · rw [show ((cap.toNat : Nat) : Int) = cap by omega]; exact h1
  · rw [show ((tl.toNat : Nat) : Int) = tl by omega]; exact h7
/-- What a ring is handed round as. -/
def rgV (cap hd tl : Int) (a : Option Addr) (n c : Nat) : Value := .agg #[.int .i64 cap, .int .i64 hd, .int .i64 tl, .slice a n c]
def cuV (s t : Int) : Value := .agg #[.int .i64 s, .int .i64 t]
/-- A ring's box. -/
structure RBox (W : World) (q : Nat) (cap hd tl : Int) (a : Option Addr) (n c : Nat) : Prop where
  lt : q < W.heap.size
  k0 : W.cell? ⟨q, 0, none⟩ = some (.int .i64 cap)
  k1 : W.cell? ⟨q, 1, none⟩ = some (.int .i64 hd)
  k2 : W.cell? ⟨q, 2, none⟩ = some (.int .i64 tl)
  k3 : W.cell? ⟨q, 3, none⟩ = some (.slice a n c)
theorem RBox.new (w : World) (cap hd tl : Int) (a : Option Addr) (n c : Nat) (t : TypeId) : RBox (w.alloc (.cells #[.int .i64 cap, .int .i64 hd, .int .i64 tl, .slice a n c] t)) w.heap.size cap hd tl a n c :=
  ⟨by simp, by simp [go_sem], by simp [go_sem], by simp [go_sem], by simp [go_sem]⟩
theorem RBox.below {W W' : World} {q : Nat} {cap hd tl : Int} {a : Option Addr} {n c : Nat} {B : Nat} (h : RBox W q cap hd tl a n c) (hb : Below B W W') (hq : q < B) : RBox W' q cap hd tl a n c :=
  ⟨Nat.lt_of_lt_of_le h.lt hb.size, (hb.cell (p := ⟨q, _, none⟩) hq).trans h.k0, (hb.cell (p := ⟨q, _, none⟩) hq).trans h.k1, (hb.cell (p := ⟨q, _, none⟩) hq).trans h.k2, (hb.cell (p := ⟨q, _, none⟩) hq).trans h.k3⟩
theorem RBox.on {W W' : World} {q : Nat} {cap hd tl : Int} {a : Option Addr} {n c : Nat} (h : RBox W q cap hd tl a n c) (hb : Below W.heap.size W W') : RBox W' q cap hd tl a n c := h.below hb h.lt
theorem RBox.save {W W' : World} {q : Nat} {cap hd tl : Int} {a : Option Addr} {n c : Nat} {S : Nat → Prop} (h : RBox W q cap hd tl a n c) (hs : Save W W' S) (h1 : ¬ S q) : RBox W' q cap hd tl a n c :=
  ⟨Nat.lt_of_lt_of_le h.lt hs.size, (hs.cell (p := ⟨q, _, none⟩) h.lt h1).trans h.k0, (hs.cell (p := ⟨q, _, none⟩) h.lt h1).trans h.k1, (hs.cell (p := ⟨q, _, none⟩) h.lt h1).trans h.k2, (hs.cell (p := ⟨q, _, none⟩) h.lt h1).trans h.k3⟩
theorem specCap_any (c : Int) (w : World) : Calls Try.prog 58 #[.int .i64 c] w fun e w' => e = .returned (.bool (capB c)) ∧ w' = w := by
  by_cases h1 : c = 1
  · subst h1; go_enter Try.func58, Try.ntmps58; go_wp2; go_ret; exact ⟨rfl, rfl⟩
  by_cases h2 : c = 2
  · subst h2; go_enter Try.func58, Try.ntmps58; go_wp2; go_ret; exact ⟨rfl, rfl⟩
  by_cases h4 : c = 4
  · subst h4; go_enter Try.func58, Try.ntmps58; go_wp2; go_ret; exact ⟨rfl, rfl⟩
  by_cases h8 : c = 8
  · subst h8; go_enter Try.func58, Try.ntmps58; go_wp2; go_ret; exact ⟨rfl, rfl⟩
  by_cases h16 : c = 16
  · subst h16; go_enter Try.func58, Try.ntmps58; go_wp2; go_ret; exact ⟨rfl, rfl⟩
  have g1 : (c == 1) = false := by simpa using h1
  have g2 : (c == 2) = false := by simpa using h2
  have g4 : (c == 4) = false := by simpa using h4
  have g8 : (c == 8) = false := by simpa using h8
  have g16 : (c == 16) = false := by simpa using h16
  have HQ : Hid (capB c = false) := by show capB c = false; simp [capB, h1, h2, h4, h8, h16]
  go_enter Try.func58, Try.ntmps58
  go_wp2
  go_ret
  exact ⟨ret_bool HQ.out.symm, rfl⟩
theorem implCap_any (c : Int) (w : World) : Calls Try.prog 57 #[.int .i64 c] w fun e w' => e = .returned (.bool (capB c)) ∧ w' = w := by
  by_cases h1 : c = 1
  · subst h1; go_enter Try.func57, Try.ntmps57; go_wp2; go_ret; exact ⟨rfl, rfl⟩
  by_cases h2 : c = 2
  · subst h2; go_enter Try.func57, Try.ntmps57; go_wp2; go_ret; exact ⟨rfl, rfl⟩
  by_cases h4 : c = 4
  · subst h4; go_enter Try.func57, Try.ntmps57; go_wp2; go_ret; exact ⟨rfl, rfl⟩
  by_cases h8 : c = 8
  · subst h8; go_enter Try.func57, Try.ntmps57; go_wp2; go_ret; exact ⟨rfl, rfl⟩
  by_cases h16 : c = 16
  · subst h16; go_enter Try.func57, Try.ntmps57; go_wp2; go_ret; exact ⟨rfl, rfl⟩
  have g1 : (c == 1) = false := by simpa using h1
  have g2 : (c == 2) = false := by simpa using h2
  have g4 : (c == 4) = false := by simpa using h4
  have g8 : (c == 8) = false := by simpa using h8
  have g16 : (c == 16) = false := by simpa using h16
  have HQ : Hid (capB c = false) := by show capB c = false; simp [capB, h1, h2, h4, h8, h16]
  go_enter Try.func57, Try.ntmps57
  go_wp2
  go_ret
  exact ⟨ret_bool HQ.out.symm, rfl⟩
set_option maxRecDepth 20000 in
set_option maxHeartbeats 1000000 in
theorem specCup_any (C P : Nat) (hd tl : Int) (Z : List Int) (hZ : Z.length = C * 2) (hC : 1 ≤ C) (hC2 : C ≤ 16) (hP : P ≤ 3000000) (a : Option Addr) (c : Nat) (w : World) (hA : ArgI w a Z) :
    Calls Try.prog 54 #[rgV C hd tl a C c, .int .i64 P] w fun e w' => e = .returned (cuV (sqAt Z C P) (itAt Z C P)) ∧ Below w.heap.size w w' := by
  unfold rgV cuV sqAt itAt
  have HB0 := hid (((Below.refl w.heap.size w).alloc (Nat.le_refl _) (.cells #[.int .i64 C, .int .i64 hd, .int .i64 tl, .slice a C c] 25)).alloc (by simp) (.cells #[.int .i64 0, .int .i64 0] 59))
  have hm : (P : Int).tmod (C : Int) = ((P % C : Nat) : Int) := by rw [Int.tmod_eq_emod_of_nonneg (by omega)]; rfl
  have hlt : P % C < C := Nat.mod_lt _ hC
  rcases hA with h0 | ⟨b, off, rfl, hb, hc⟩
  · omega
  have c0 := hc (P % C * 2) (by omega)
  have c1 : w.cell? ⟨b, off + P % C * 2 + 1, none⟩ = some (.int .i64 (zAt Z (P % C * 2 + 1))) := hc (P % C * 2 + 1) (by omega)
  have hb1 : b < w.heap.size + 1 := by omega
  have hC0 : ¬ C = 0 := by omega
  clear hc
  generalize P % C = i at *
  have HZ := hid hZ
  clear hZ
  go_enter Try.func54, Try.ntmps54
  go_wp2_with fail
  go_region
  all_goals
    go_wp2_with fail
    refine bodyPost_ret (v := .agg #[.int .i64 (zAt Z (i * 2)), .int .i64 (zAt Z (i * 2 + 1))]) (by simp [results, Try.results54, go_sem]) rfl ⟨rfl, ?_⟩
    exact below_drew (((Below.refl w.heap.size w).alloc (Nat.le_refl _) _).alloc (by simp) _)
set_option maxRecDepth 20000 in
set_option maxHeartbeats 1000000 in
theorem implCup_any (C P : Nat) (hd tl : Int) (Z : List Int) (hZ : Z.length = C * 2) (hC : 1 ≤ C) (hC2 : C ≤ 16) (hP : P ≤ 3000000) (a : Option Addr) (c : Nat) (w : World) (hA : ArgI w a Z) :
    Calls Try.prog 59 #[rgV C hd tl a C c, .int .i64 P] w fun e w' => e = .returned (cuV (sqAt Z C P) (itAt Z C P)) ∧ Below w.heap.size w w' := by
  unfold rgV cuV sqAt itAt
  have HB0 := hid (((Below.refl w.heap.size w).alloc (Nat.le_refl _) (.cells #[.int .i64 C, .int .i64 hd, .int .i64 tl, .slice a C c] 25)).alloc (by simp) (.cells #[.int .i64 0, .int .i64 0] 59))
  have hm : (P : Int).tmod (C : Int) = ((P % C : Nat) : Int) := by rw [Int.tmod_eq_emod_of_nonneg (by omega)]; rfl
  have hlt : P % C < C := Nat.mod_lt _ hC
  rcases hA with h0 | ⟨b, off, rfl, hb, hc⟩
  · omega
  have c0 := hc (P % C * 2) (by omega)
  have c1 : w.cell? ⟨b, off + P % C * 2 + 1, none⟩ = some (.int .i64 (zAt Z (P % C * 2 + 1))) := hc (P % C * 2 + 1) (by omega)
  have hb1 : b < w.heap.size + 1 := by omega
  have hC0 : ¬ C = 0 := by omega
  clear hc
  generalize P % C = i at *
  have HZ := hid hZ
  clear hZ
  go_enter Try.func59, Try.ntmps59
  go_wp2_with fail
  go_region
  all_goals
    go_wp2_with fail
    refine bodyPost_ret (v := .agg #[.int .i64 (zAt Z (i * 2)), .int .i64 (zAt Z (i * 2 + 1))]) (by simp [results, Try.results59, go_sem]) rfl ⟨rfl, ?_⟩
    exact below_drew (((Below.refl w.heap.size w).alloc (Nat.le_refl _) _).alloc (by simp) _)
theorem specIs_any (t : Int) (w : World) : Calls Try.prog 53 #[.int .i64 t, .int .i64 1, .int .i64 1000000] w fun e w' => e = .returned (.bool (itemB t)) ∧ w' = w := by
  by_cases h1 : 1 ≤ t <;> by_cases h2 : t ≤ 1000000
  all_goals
    go_enter Try.func53, Try.ntmps53
    go_wp2
    go_ret
    exact ⟨ret_bool (by simp [itemB]; omega), rfl⟩
theorem implItem_any (t : Int) (w : World) : Calls Try.prog 75 #[.int .i64 t] w fun e w' => e = .returned (.bool (itemB t)) ∧ w' = w := by
  have HT : Hid (itemB t = (decide (0 < t) && timeB t)) := by show itemB t = _; simp [itemB, timeB]; by_cases h : 1 ≤ t <;> by_cases h2 : t ≤ 1000000 <;> by_cases h3 : 0 < t <;> by_cases h4 : 0 ≤ t <;> simp [h, h2, h3, h4] <;> omega
  by_cases h1 : 0 < t
  · go_enter Try.func75, Try.ntmps75
    go_wp2_with (go_at_call 61; refine (implTime_any _ _).mono ?_; rintro e w' ⟨rfl, rfl⟩)
    go_ret
    exact ⟨ret_bool (by rw [HT.out]; simp [h1]), rfl⟩
  · go_enter Try.func75, Try.ntmps75
    go_wp2_with fail
    go_ret
    exact ⟨ret_bool (by rw [HT.out, show decide (0 < t) = false by simp; omega]; rfl), rfl⟩
set_option maxRecDepth 20000 in
set_option maxHeartbeats 4000000 in
theorem specRr_any (cap hd tl : Int) (Z : List Int) (n : Nat) (hn : Z.length = n * 2) (a : Option Addr) (c : Nat) (hl : n ≤ 2000000) (w : World) (hA : ArgI w a Z) :
    Calls Try.prog 30 #[rgV cap hd tl a n c] w fun e w' => e = .returned (.bool (ringB cap hd tl n Z)) ∧ Below w.heap.size w w' := by
  have HV : Hid (∀ cap hd tl a n c, rgV cap hd tl a n c = .agg #[.int .i64 cap, .int .i64 hd, .int .i64 tl, .slice a n c]) := fun _ _ _ _ _ _ => rfl
  rw [HV.out]
  have HB0 := hid ((Below.refl w.heap.size w).alloc (Nat.le_refl _) (.cells #[.int .i64 cap, .int .i64 hd, .int .i64 tl, .slice a n c] 25))
  have HA := hid (hA.on HB0.out)
  have HBX := hid (RBox.new w cap hd tl a n c 25)
  have HN := hid hn
  have HX := hid (fun t w => specTime_any t w)
  have HY := hid (fun t w => specCap_any t w)
  clear hA hn
  rcases Bool.eq_false_or_eq_true (capB cap) with h1 | h1
  rotate_left
  · have HR := hid (ringB_cap (hd := hd) (tl := tl) (n := n) (Z := Z) h1)
    go_enter Try.func30, Try.ntmps30
    go_wp2_with (first | (go_at_call 58; refine (HY.out _ _).mono ?_; rintro e w' ⟨rfl, rfl⟩) | (go_at_call 63; refine (HX.out _ _).mono ?_; rintro e w' ⟨rfl, rfl⟩))
    go_ret
    exact ⟨ret_bool HR.out.symm, HB0.out⟩
  rcases Bool.eq_false_or_eq_true (timeB hd) with h2 | h2
  rotate_left
  · have HR := hid (ringB_hd (cap := cap) (tl := tl) (n := n) (Z := Z) h2)
    go_enter Try.func30, Try.ntmps30
    go_wp2_with (first | (go_at_call 58; refine (HY.out _ _).mono ?_; rintro e w' ⟨rfl, rfl⟩) | (go_at_call 63; refine (HX.out _ _).mono ?_; rintro e w' ⟨rfl, rfl⟩))
    go_ret
    exact ⟨ret_bool HR.out.symm, HB0.out⟩
  rcases Bool.eq_false_or_eq_true (timeB tl) with h3 | h3
  rotate_left
  · have HR := hid (ringB_tl (cap := cap) (hd := hd) (n := n) (Z := Z) h3)
    go_enter Try.func30, Try.ntmps30
    go_wp2_with (first | (go_at_call 58; refine (HY.out _ _).mono ?_; rintro e w' ⟨rfl, rfl⟩) | (go_at_call 63; refine (HX.out _ _).mono ?_; rintro e w' ⟨rfl, rfl⟩))
    go_ret
    exact ⟨ret_bool HR.out.symm, HB0.out⟩
  have hc5 := capB_cases h1
  have hh := timeB_iff.1 h2
  have ht := timeB_iff.1 h3
  have HI1 := hid h1
  have HI2 := hid h2
  have HI3 := hid h3
  by_cases h4 : tl < hd
  · have HR := hid (ringB_lt (cap := cap) (n := n) (Z := Z) h4)
    clear hc5
    go_enter Try.func30, Try.ntmps30
    go_wp2_with (first | (go_at_call 58; refine (HY.out _ _).mono ?_; rintro e w' ⟨rfl, rfl⟩) | (go_at_call 63; refine (HX.out _ _).mono ?_; rintro e w' ⟨rfl, rfl⟩))
    go_ret
    exact ⟨ret_bool HR.out.symm, HB0.out⟩
  have hca : 1 ≤ cap ∧ cap ≤ 16 := by omega
  clear hc5
  by_cases h5 : hd + cap < tl
  · have HR := hid (ringB_gt (n := n) (Z := Z) h5)
    go_enter Try.func30, Try.ntmps30
    go_wp2_with (first | (go_at_call 58; refine (HY.out _ _).mono ?_; rintro e w' ⟨rfl, rfl⟩) | (go_at_call 63; refine (HX.out _ _).mono ?_; rintro e w' ⟨rfl, rfl⟩))
    go_ret
    exact ⟨ret_bool HR.out.symm, HB0.out⟩
  by_cases h6 : (n : Int) = cap
  rotate_left
  · have HR := hid (ringB_len (hd := hd) (tl := tl) (Z := Z) h6)
    have g6 : ((n : Int) != cap) = true := by simpa using h6
    go_enter Try.func30, Try.ntmps30
    go_wp2_with (first | (go_at_call 58; refine (HY.out _ _).mono ?_; rintro e w' ⟨rfl, rfl⟩) | (go_at_call 63; refine (HX.out _ _).mono ?_; rintro e w' ⟨rfl, rfl⟩))
    go_ret
    exact ⟨ret_bool HR.out.symm, HB0.out⟩
  subst h6
  obtain ⟨H, rfl⟩ : ∃ H : Nat, hd = H := ⟨hd.toNat, by omega⟩
  have HQ := hid (ringB_rest (Z := Z) HI1.out HI2.out HI3.out (by omega) (by omega) (rfl : n = n))
  have hn16 : n ≤ 16 := by omega
  have hn1 : 1 ≤ n := by omega
  have hH : H ≤ 1000000 := by omega
  have HCU := hid (fun P hP w hA => specCup_any n P H tl Z HN.out hn1 hn16 hP a c w hA)
  have HIS := hid (fun t w => specIs_any t w)
  go_enter Try.func30, Try.ntmps30
  go_wp2_with (first | (go_at_call 58; refine (HY.out _ _).mono ?_; rintro e w' ⟨rfl, rfl⟩) | (go_at_call 63; refine (HX.out _ _).mono ?_; rintro e w' ⟨rfl, rfl⟩))
  have hlz := HBX.out.lt
  have hw0 := HB0.out.size
  generalize w.alloc (.cells #[.int .i64 n, .int .i64 H, .int .i64 tl, .slice a n c] 25) = W at *
  clear h1 h2 h3 HI1 HI2 HI3 HX HY
  go_loopw [3] (fun t wr => ∃ k : Nat, k ≤ n ∧ t = .int .i64 ((H + k : Nat) : Int) ∧ placesTo tl Z n H k = true ∧ Below W.heap.size W wr) (fun t _ => H + n - (intOf t).toNat)
  case atStart => exact ⟨0, Nat.zero_le _, rfl, rfl, Below.refl _ _⟩
  case round =>
    obtain ⟨k, hk, rfl, hg, hbel⟩ := hrel
    have HG := hid hg
    have HB := hid hbel
    obtain ⟨_, k0, k1, k2, k3⟩ := HBX.out.below hbel hlz
    have hqz := Nat.lt_of_lt_of_le hlz hbel.size
    have HAr := hid (HA.out.on hbel)
    clear hg hbel
    by_cases hlt : k < n
    · have HS1 := hid (placesTo_succ tl Z n H k)
      have HNo := hid (fun h => HQ.out.trans (placesTo_false tl Z n H k n hlt h))
      have HD := hid (HCU.out (H + k) (by omega) wr HAr.out)
      have hqz' := HB.out.size
      unfold cuV at HD
      rw [HV.out] at HD
      generalize sqAt Z n (H + k) = s at *
      generalize itAt Z n (H + k) = t at *
      generalize hp : ((H + k : Nat) : Int) = p at *
      have HP := hid hp
      have hp0 : 0 ≤ p ∧ p ≤ 1000016 := by omega
      have hp1 : p < (H : Int) + n := by omega
      have q1 : ((p + 1) == (p + 1)) = true := by simp
      have q2 : ((p + 1) == p) = false := by simp; omega
      have q3 : ((p + 1) != p) = true := by simp; omega
      have q4 : (p == (p + 1)) = false := by simp; omega
      have q5 : (p != p) = false := by simp
      clear hp
      by_cases x1 : p < tl
      · by_cases x2 : s = p + 1
        · subst x2
          rcases Bool.eq_false_or_eq_true (itemB t) with x3 | x3
          · have HU : Hid (cupB tl p (p + 1) t = true) := by show cupB tl p (p + 1) t = true; simp [cupB, x1, x3]
            go_wp2_with (first | (go_at_call 54; refine HD.out.mono ?_; rintro e w1 ⟨rfl, hb1⟩; have HB1 := hid (HB.out.trans (hb1.mono hqz')); obtain ⟨_, k0, k1, k2, k3⟩ := HBX.out.below HB1.out hlz; have hq1 := Nat.lt_of_lt_of_le hlz HB1.out.size; have hne : ¬ w.heap.size = w1.heap.size := (by omega); clear hb1) | (go_at_call 53; refine (HIS.out _ _).mono ?_; rintro e w' ⟨rfl, rfl⟩))
            go_roundw
            case rel => exact ⟨k + 1, by omega, by rw [show ((H + (k + 1) : Nat) : Int) = ((H + k : Nat) : Int) + 1 by omega, HP.out], by rw [HS1.out, HG.out, HU.out]; rfl, below_new HB1.out _⟩
            case measure => simp [intOf]; omega
          · have HU : Hid (cupB tl p (p + 1) t = false) := by show cupB tl p (p + 1) t = false; simp [cupB, x3, q2]
            go_wp2_with (first | (go_at_call 54; refine HD.out.mono ?_; rintro e w1 ⟨rfl, hb1⟩; have HB1 := hid (HB.out.trans (hb1.mono hqz')); obtain ⟨_, k0, k1, k2, k3⟩ := HBX.out.below HB1.out hlz; have hq1 := Nat.lt_of_lt_of_le hlz HB1.out.size; have hne : ¬ w.heap.size = w1.heap.size := (by omega); clear hb1) | (go_at_call 53; refine (HIS.out _ _).mono ?_; rintro e w' ⟨rfl, rfl⟩))
            go_ret
            exact ⟨ret_bool (HNo.out (by rw [HS1.out, HU.out]; simp)).symm, HB0.out.trans (below_new (HB1.out) _ |>.mono hw0)⟩
        · have x2' : (s == p + 1) = false := by simpa using x2
          by_cases x4 : s = p
          · subst x4
            by_cases x5 : t = 0
            · subst x5
              have HU : Hid (cupB tl s s 0 = true) := by show cupB tl s s 0 = true; simp [cupB]
              go_wp2_with (first | (go_at_call 54; refine HD.out.mono ?_; rintro e w1 ⟨rfl, hb1⟩; have HB1 := hid (HB.out.trans (hb1.mono hqz')); obtain ⟨_, k0, k1, k2, k3⟩ := HBX.out.below HB1.out hlz; have hq1 := Nat.lt_of_lt_of_le hlz HB1.out.size; have hne : ¬ w.heap.size = w1.heap.size := (by omega); clear hb1) | (go_at_call 53; refine (HIS.out _ _).mono ?_; rintro e w' ⟨rfl, rfl⟩))
              go_roundw
              case rel => exact ⟨k + 1, by omega, by rw [show ((H + (k + 1) : Nat) : Int) = ((H + k : Nat) : Int) + 1 by omega, HP.out], by rw [HS1.out, HG.out, HU.out]; rfl, below_new HB1.out _⟩
              case measure => simp [intOf]; omega
            · have x5' : (t != 0) = true := by simpa using x5
              have HU : Hid (cupB tl s s t = false) := by show cupB tl s s t = false; simp [cupB, x5, x2']
              go_wp2_with (first | (go_at_call 54; refine HD.out.mono ?_; rintro e w1 ⟨rfl, hb1⟩; have HB1 := hid (HB.out.trans (hb1.mono hqz')); obtain ⟨_, k0, k1, k2, k3⟩ := HBX.out.below HB1.out hlz; have hq1 := Nat.lt_of_lt_of_le hlz HB1.out.size; have hne : ¬ w.heap.size = w1.heap.size := (by omega); clear hb1) | (go_at_call 53; refine (HIS.out _ _).mono ?_; rintro e w' ⟨rfl, rfl⟩))
              go_ret
              exact ⟨ret_bool (HNo.out (by rw [HS1.out, HU.out]; simp)).symm, HB0.out.trans (below_new (HB1.out) _ |>.mono hw0)⟩
          · have x4' : (s != p) = true := by simpa using x4
            have HU : Hid (cupB tl p s t = false) := by show cupB tl p s t = false; simp [cupB, x4, x2']
            go_wp2_with (first | (go_at_call 54; refine HD.out.mono ?_; rintro e w1 ⟨rfl, hb1⟩; have HB1 := hid (HB.out.trans (hb1.mono hqz')); obtain ⟨_, k0, k1, k2, k3⟩ := HBX.out.below HB1.out hlz; have hq1 := Nat.lt_of_lt_of_le hlz HB1.out.size; have hne : ¬ w.heap.size = w1.heap.size := (by omega); clear hb1) | (go_at_call 53; refine (HIS.out _ _).mono ?_; rintro e w' ⟨rfl, rfl⟩))
            go_ret
            exact ⟨ret_bool (HNo.out (by rw [HS1.out, HU.out]; simp)).symm, HB0.out.trans (below_new (HB1.out) _ |>.mono hw0)⟩
      · by_cases x4 : s = p
        · subst x4
          by_cases x5 : t = 0
          · subst x5
            have HU : Hid (cupB tl s s 0 = true) := by show cupB tl s s 0 = true; simp [cupB]
            go_wp2_with (first | (go_at_call 54; refine HD.out.mono ?_; rintro e w1 ⟨rfl, hb1⟩; have HB1 := hid (HB.out.trans (hb1.mono hqz')); obtain ⟨_, k0, k1, k2, k3⟩ := HBX.out.below HB1.out hlz; have hq1 := Nat.lt_of_lt_of_le hlz HB1.out.size; have hne : ¬ w.heap.size = w1.heap.size := (by omega); clear hb1) | (go_at_call 53; refine (HIS.out _ _).mono ?_; rintro e w' ⟨rfl, rfl⟩))
            go_roundw
            case rel => exact ⟨k + 1, by omega, by rw [show ((H + (k + 1) : Nat) : Int) = ((H + k : Nat) : Int) + 1 by omega, HP.out], by rw [HS1.out, HG.out, HU.out]; rfl, below_new HB1.out _⟩
            case measure => simp [intOf]; omega
          · have x5' : (t != 0) = true := by simpa using x5
            have HU : Hid (cupB tl s s t = false) := by show cupB tl s s t = false; simp [cupB, x5, x1]
            go_wp2_with (first | (go_at_call 54; refine HD.out.mono ?_; rintro e w1 ⟨rfl, hb1⟩; have HB1 := hid (HB.out.trans (hb1.mono hqz')); obtain ⟨_, k0, k1, k2, k3⟩ := HBX.out.below HB1.out hlz; have hq1 := Nat.lt_of_lt_of_le hlz HB1.out.size; have hne : ¬ w.heap.size = w1.heap.size := (by omega); clear hb1) | (go_at_call 53; refine (HIS.out _ _).mono ?_; rintro e w' ⟨rfl, rfl⟩))
            go_ret
            exact ⟨ret_bool (HNo.out (by rw [HS1.out, HU.out]; simp)).symm, HB0.out.trans (below_new (HB1.out) _ |>.mono hw0)⟩
        · have x4' : (s != p) = true := by simpa using x4
          have HU : Hid (cupB tl p s t = false) := by show cupB tl p s t = false; simp [cupB, x4, x1]
          go_wp2_with (first | (go_at_call 54; refine HD.out.mono ?_; rintro e w1 ⟨rfl, hb1⟩; have HB1 := hid (HB.out.trans (hb1.mono hqz')); obtain ⟨_, k0, k1, k2, k3⟩ := HBX.out.below HB1.out hlz; have hq1 := Nat.lt_of_lt_of_le hlz HB1.out.size; have hne : ¬ w.heap.size = w1.heap.size := (by omega); clear hb1) | (go_at_call 53; refine (HIS.out _ _).mono ?_; rintro e w' ⟨rfl, rfl⟩))
          go_ret
          exact ⟨ret_bool (HNo.out (by rw [HS1.out, HU.out]; simp)).symm, HB0.out.trans (below_new (HB1.out) _ |>.mono hw0)⟩
    · have hk' : k = n := by omega
      subst hk'
      go_wp2_with fail
      go_ret
      exact ⟨ret_bool (HQ.out.trans HG.out).symm, HB0.out.trans (HB.out.mono hw0)⟩
end Go.Proofs.Ytfafeomegoikkaa
