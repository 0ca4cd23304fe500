/-
  Keeps: the laws' helpers (szKeep, toKeep, eqKeep, markKeep, heldKeep), KeepRight and KeepMost, the model's and the program's, by their contracts.
-/
import Derived.Test.YtljhokoojodjnaaGreatDoorKpA
import Derived.Test.YtljhokoojodjnaaGreatDoorSmR
import Derived.Test.YtljhokoojodjnaaGreatDoorTm
import Derived.Deep.QuietTactic
namespace Go.Proofs.YtljhokoojodjnaaGreatDoor
open Go.RowKit
set_option linter.unusedVariables false
set_option linter.unusedSimpArgs false
theorem bcell {W w1 : World} (hb : Below W.heap.size W w1) : (∀ b o, b < W.heap.size → w1.cell? ⟨b, o, none⟩ = W.cell? ⟨b, o, none⟩) ∧ (∀ b o, b < W.heap.size → w1.frozen? ⟨b, o, none⟩ = W.frozen? ⟨b, o, none⟩) :=
  ⟨fun b o h => hb.cell (p := ⟨b, o, none⟩) h, fun b o h => hb.frozen (p := ⟨b, o, none⟩) h⟩
def mostI (hi : Int) : Int := if hi < 0 then 1 else hi + 1
/-- The first times are times, and rise. -/
def riseTo (Z : List Int) (k : Nat) : Bool := (List.range k).all fun i => timeB (zAt Z i) && (i == 0 || decide (zAt Z (i - 1) < zAt Z i))
def krB (lo hi : Int) (Z : List Int) : Bool := spanB lo hi && (decide ((Z.length : Int) ≤ mostI hi) && riseTo Z Z.length)
theorem riseTo_succ (Z : List Int) (k : Nat) : riseTo Z (k + 1) = (riseTo Z k && (timeB (zAt Z k) && (k == 0 || decide (zAt Z (k - 1) < zAt Z k)))) := by
  simp [riseTo, List.range_succ]
theorem riseTo_false (Z : List Int) (k m : Nat) (hm : k < m) (h : riseTo Z (k + 1) = false) : riseTo Z m = false := by
  simp only [riseTo, List.all_eq_false, List.mem_range] at h ⊢
  obtain ⟨i, hi, h⟩ := h
  exact ⟨i, by omega, h⟩
theorem krB_span (lo hi : Int) (Z : List Int) (h : spanB lo hi = false) : krB lo hi Z = false := by simp [krB, h]
theorem krB_most (lo hi : Int) (Z : List Int) (h : mostI hi < (Z.length : Int)) : krB lo hi Z = false := by simp [krB]; omega
theorem krB_no (lo hi : Int) (Z : List Int) (k : Nat) (hk : k < Z.length) (h : riseTo Z (k + 1) = false) : krB lo hi Z = false := by simp [krB, riseTo_false Z k _ hk h]
theorem krB_yes (lo hi : Int) (Z : List Int) (h1 : spanB lo hi = true) (h2 : (Z.length : Int) ≤ mostI hi) (h3 : riseTo Z Z.length = true) : krB lo hi Z = true := by simp [krB, h1, h2, h3]
theorem krB_parts {lo hi : Int} {Z : List Int} (h : krB lo hi Z = true) : spanB lo hi = true ∧ (Z.length : Int) ≤ mostI hi ∧ riseTo Z Z.length = true := by
  simp only [krB, Bool.and_eq_true, decide_eq_true_eq] at h
  exact ⟨h.1, h.2.1, h.2.2⟩
theorem spanB_parts {lo hi : Int} (h : spanB lo hi = true) : 0 ≤ lo ∧ lo ≤ 1000 ∧ (hi = -1 ∨ lo ≤ hi ∧ hi ≤ 1000) := by
  simp only [spanB, isB, Bool.and_eq_true, Bool.or_eq_true, decide_eq_true_eq, beq_iff_eq] at h
  omega
theorem riseTo_at {Z : List Int} {m : Nat} (h : riseTo Z m = true) (i : Nat) (hi : i < m) : 0 ≤ zAt Z i ∧ zAt Z i ≤ 1000000 ∧ (0 < i → zAt Z (i - 1) < zAt Z i) := by
  simp only [riseTo, List.all_eq_true, List.mem_range, Bool.and_eq_true, Bool.or_eq_true, beq_iff_eq, timeB, decide_eq_true_eq] at h
  have := h i hi
  omega
/-- What a Keep is handed round as. -/
def kpV (lo hi : Int) (a : Option Addr) (n c : Nat) : Value := .agg #[.int .i64 lo, .int .i64 hi, .slice a n c]
set_option maxRecDepth 20000 in
set_option maxHeartbeats 1000000 in
theorem szKeep_any (lo hi : Int) (n : Nat) (a : Option Addr) (cap : Nat) (hl : n ≤ maxLen) (left : Int) (h1 : 0 ≤ left) (h2 : left ≤ 1048576) (w : World) :
    Calls Tryz.prog 219 #[kpV lo hi a n cap, .int .i64 left] w fun e w' => ∃ r : Int, e = .returned (.int .i64 r) ∧ -1 ≤ r ∧ r ≤ 1048576 ∧ (0 ≤ r → r + n ≤ left) ∧ Below w.heap.size w w' := by
  unfold kpV
  have HL := hid hl
  have HB := hid ((Below.refl w.heap.size w).alloc (Nat.le_refl _) (.cells #[.int .i64 lo, .int .i64 hi, .slice a n cap] 264))
  clear hl
  go_enter Tryz.func219, Tryz.ntmps219
  go_wp2_with (go_at_call 226; refine (szInt64S_any n a cap HL.out left h1 h2 _).mono ?_; rintro e w1 ⟨r, rfl, q1, q2, q3, rfl⟩; have HQ := hid q3; clear q3)
  · go_ret
    exact ⟨-1, rfl, by omega, by omega, by omega, HB.out⟩
  · go_ret
    exact ⟨r, rfl, by omega, by omega, HQ.out, HB.out⟩
set_option maxRecDepth 20000 in
set_option maxHeartbeats 1000000 in
theorem toKeep_any (lo hi : Int) (Z : List Int) (a : Option Addr) (cap : Nat) (hl : Z.length ≤ 1048576) (w : World) (hA : ArgI w a Z) :
    Calls Tryz.prog 220 #[kpV lo hi a Z.length cap] w fun e w' => ∃ b, e = .returned (kpV lo hi (some ⟨b, 0, none⟩) Z.length Z.length) ∧ w.heap.size ≤ b ∧ RowI w' b Z ∧ Below w.heap.size w w' := by
  unfold kpV
  have HA := hid hA
  clear hA
  go_enter Tryz.func220, Tryz.ntmps220
  go_wp2_with (go_at_call 227; refine (toInt64S_any Z a cap hl _ (HA.out.below ((((Below.refl w.heap.size w).alloc (Nat.le_refl _) _).alloc (by simp) _).alloc (by simp; omega) _) (Nat.le_refl _))).mono ?_; rintro e w1 ⟨rfl, hR, hb⟩; have HR := hid hR; have HB := hid hb; obtain ⟨hc, hf⟩ := bcell hb; have hz : w.heap.size + 3 ≤ w1.heap.size := (by have := hb.size; simp at this; omega); clear hb hR)
  refine bodyPost_ret (v := .agg #[.int .i64 lo, .int .i64 hi, .slice (some ⟨w.heap.size + 3, 0, none⟩) Z.length Z.length]) (by simp [results, Tryz.results220, go_sem, hc, hf, hz]) rfl ⟨w.heap.size + 3, rfl, by omega, ?_, ?_⟩
  · have HR' : RowI w1 (w.heap.size + 3) Z := by simpa using HR.out
    exact World.rowIs.setOther (World.rowIs.setOther (World.rowIs.setOther (World.rowIs.setOther HR' (by show _ ≠ _; simp) _) (by show _ ≠ _; simp) _) (by show _ ≠ _; simp) _) (by show _ ≠ _; simp) _
  · exact ((((((Below.refl w.heap.size w).alloc (Nat.le_refl _) _).alloc (by simp) _).alloc (by simp; omega) _).trans (HB.out.mono (by simp; omega))).setCell (by show _ ≤ _; simp; omega) _).setCell (by show _ ≤ _; simp) _ |>.setCell (by show _ ≤ _; simp) _ |>.setCell (by show _ ≤ _; simp) _
set_option maxRecDepth 20000 in
set_option maxHeartbeats 1000000 in
theorem eqKeep_any (lo hi : Int) (Z : List Int) (n : Nat) (hn : Z.length = n) (a1 a2 : Option Addr) (c1 c2 : Nat) (hl : n ≤ 2000000) (w : World) (h1 : ArgI w a1 Z) (h2 : ArgI w a2 Z) :
    Calls Tryz.prog 221 #[kpV lo hi a1 n c1, kpV lo hi a2 n c2] w fun e w' => e = .returned (.bool true) ∧ Below w.heap.size w w' := by
  unfold kpV
  have HB0 := hid (((Below.refl w.heap.size w).alloc (Nat.le_refl _) (.cells #[.int .i64 lo, .int .i64 hi, .slice a1 n c1] 103)).alloc (by simp) (.cells #[.int .i64 lo, .int .i64 hi, .slice a2 n c2] 103))
  have H1 := hid (h1.on HB0.out)
  have H2 := hid (h2.on HB0.out)
  have HN := hid hn
  clear h1 h2 hn
  have e1 : (lo != lo) = false := by simp
  have e2 : (hi != hi) = false := by simp
  go_enter Tryz.func221, Tryz.ntmps221
  go_wp2_with (go_at_call 228; refine (eqInt64S_any Z n HN.out a1 a2 c1 c2 hl _ H1.out H2.out).mono ?_; rintro e w1 ⟨rfl, hb⟩; have HB1 := hid (HB0.out.trans (hb.mono (by simp; omega))); clear hb)
  go_ret
  exact ⟨rfl, HB1.out⟩
theorem specMostI_any (hi : Int) (h1 : -1 ≤ hi) (h2 : hi ≤ 1000) (w : World) : Calls Tryz.prog 178 #[.int .i64 hi] w fun e w' => e = .returned (.int .i64 (mostI hi)) ∧ w' = w := by
  by_cases h : hi < 0
  · have HM : Hid (mostI hi = 1) := by show mostI hi = _; simp [mostI, h]
    go_enter Tryz.func178, Tryz.ntmps178
    go_wp2
    go_ret
    exact ⟨ret_int HM.out.symm, rfl⟩
  · have HM : Hid (mostI hi = hi + 1) := by show mostI hi = _; simp [mostI, h]
    go_enter Tryz.func178, Tryz.ntmps178
    go_wp2
    go_ret
    exact ⟨ret_int HM.out.symm, rfl⟩
theorem implMostI_any (hi : Int) (h1 : -1 ≤ hi) (h2 : hi ≤ 1000) (w : World) : Calls Tryz.prog 188 #[.int .i64 hi] w fun e w' => e = .returned (.int .i64 (mostI hi)) ∧ w' = w := by
  by_cases h : hi = -1
  · subst h
    go_enter Tryz.func188, Tryz.ntmps188
    go_wp2
    go_ret
    exact ⟨rfl, rfl⟩
  · have HM : Hid (mostI hi = hi + 1) := by show mostI hi = _; simp [mostI]; omega
    have h' : (hi == -1) = false := by simpa using h
    go_enter Tryz.func188, Tryz.ntmps188
    go_wp2
    go_ret
    exact ⟨ret_int HM.out.symm, rfl⟩
set_option maxHeartbeats 400000 in
theorem specBounds_any (lo hi : Int) (w : World) : Calls Tryz.prog 177 #[.int .i64 lo, .int .i64 hi] w fun e w' => e = .returned (.bool (spanB lo hi)) ∧ w' = w := by
  by_cases h1 : 0 ≤ lo <;> by_cases h2 : lo ≤ 1000
  · by_cases h3 : hi = -1
    · subst h3
      have HS : Hid (spanB lo (-1) = true) := spanB_end lo h1 h2
      go_enter Tryz.func177, Tryz.ntmps177
      go_wp2
      go_ret
      exact ⟨ret_bool HS.out.symm, rfl⟩
    · have HS : Hid (spanB lo hi = decide (lo ≤ hi ∧ hi ≤ 1000)) := spanB_hi lo hi h1 h2 h3
      have h3' : (hi == -1) = false := by simpa using h3
      by_cases h4 : lo ≤ hi <;> by_cases h5 : hi ≤ 1000
      all_goals
        have HD : Hid (decide (lo ≤ hi ∧ hi ≤ 1000) = (decide (lo ≤ hi) && decide (hi ≤ 1000))) := Bool.decide_and _ _
        go_enter Tryz.func177, Tryz.ntmps177
        go_wp2
        go_ret
        exact ⟨ret_bool (by rw [HS.out, HD.out]; simp [h4, h5]), rfl⟩
  all_goals
    have HS : Hid (spanB lo hi = false) := spanB_lo lo hi (by omega)
    go_enter Tryz.func177, Tryz.ntmps177
    go_wp2
    go_ret
    exact ⟨ret_bool HS.out.symm, rfl⟩
end Go.Proofs.YtljhokoojodjnaaGreatDoor
