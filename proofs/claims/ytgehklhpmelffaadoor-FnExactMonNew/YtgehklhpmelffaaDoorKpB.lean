/-
  Keeps: the laws' helpers (szKeep, toKeep, eqKeep, markKeep, heldKeep), KeepRight and KeepMost, the model's and the program's, by their contracts.
-/
import Derived.Test.YtgehklhpmelffaaDoorKpA
import Derived.Test.YtgehklhpmelffaaDoorSmR
import Derived.Test.YtgehklhpmelffaaDoorTm
import Derived.Deep.QuietTactic
namespace Go.Proofs.YtgehklhpmelffaaDoor
open Go.RowKit
set_option linter.unusedVariables false
set_option linter.unusedSimpArgs false
theorem bcell {W w1 : World} (hb : Below W.heap.size W w1) : (∀ b o, b < W.heap.size → w1.cell? ⟨b, o, none⟩ = W.cell? ⟨b, o, none⟩) ∧ (∀ b o, b < W.heap.size → w1.frozen? ⟨b, o, none⟩ = W.frozen? ⟨b, o, none⟩) :=
  ⟨fun b o h => hb.cell (p := ⟨b, o, none⟩) h, fun b o h => hb.frozen (p := ⟨b, o, none⟩) h⟩
def mostI (hi : Int) : Int := if hi < 0 then 1 else hi + 1
/-- The first times are times, and rise. -/
def riseTo (Z : List Int) (k : Nat) : Bool := (List.range k).all fun i => timeB (zAt Z i) && (i == 0 || decide (zAt Z (i - 1) < zAt Z i))
def krB (lo hi : Int) (Z : List Int) : Bool := spanB lo hi && (decide ((Z.length : Int) ≤ mostI hi) && riseTo Z Z.length)
theorem riseTo_succ (Z : List Int) (k : Nat) : riseTo Z (k + 1) = (riseTo Z k && (timeB (zAt Z k) && (k == 0 || decide (zAt Z (k - 1) < zAt Z k)))) := by
  simp [riseTo, List.range_succ]
theorem riseTo_false (Z : List Int) (k m : Nat) (hm : k < m) (h : riseTo Z (k + 1) = false) : riseTo Z m = false := by
  simp only [riseTo, List.all_eq_false, List.mem_range] at h ⊢
  obtain ⟨i, hi, h⟩ := h
  exact ⟨i, by omega, h⟩
theorem krB_span (lo hi : Int) (Z : List Int) (h : spanB lo hi = false) : krB lo hi Z = false := by simp [krB, h]
theorem krB_most (lo hi : Int) (Z : List Int) (h : mostI hi < (Z.length : Int)) : krB lo hi Z = false := by simp [krB]; omega
theorem krB_no (lo hi : Int) (Z : List Int) (k : Nat) (hk : k < Z.length) (h : riseTo Z (k + 1) = false) : krB lo hi Z = false := by simp [krB, riseTo_false Z k _ hk h]
theorem krB_yes (lo hi : Int) (Z : List Int) (h1 : spanB lo hi = true) (h2 : (Z.length : Int) ≤ mostI hi) (h3 : riseTo Z Z.length = true) : krB lo hi Z = true := by simp [krB, h1, h2, h3]
theorem krB_parts {lo hi : Int} {Z : List Int} (h : krB lo hi Z = true) : spanB lo hi = true ∧ (Z.length : Int) ≤ mostI hi ∧ riseTo Z Z.length = true := by
  simp only [krB, Bool.and_eq_true, decide_eq_true_eq] at h
  exact ⟨h.1, h.2.1, h.2.2⟩
theorem spanB_parts {lo hi : Int} (h : spanB lo hi = true) : 0 ≤ lo ∧ lo ≤ 1000 ∧ (hi = -1 ∨ lo ≤ hi ∧ hi ≤ 1000) := by
  simp only [spanB, isB, Bool.and_eq_true, Bool.or_eq_true, decide_eq_true_eq, beq_iff_eq] at h
  omega
theorem riseTo_at {Z : List Int} {m : Nat} (h : riseTo Z m = true) (i : Nat) (hi : i < m) : 0 ≤ zAt Z i ∧ zAt Z i ≤ 1000000 ∧ (0 < i → zAt Z (i - 1) < zAt Z i) := by
  simp only [riseTo, List.all_eq_true, List.mem_range, Bool.and_eq_true, Bool.or_eq_true, beq_iff_eq, timeB, decide_eq_true_eq] at h
  have := h i hi
  omega
/-- What a Keep is handed round as. -/
def kpV (lo hi : Int) (a : Option Addr) (n c : Nat) : Value := .agg #[.int .i64 lo, .int .i64 hi, .slice a n c]
set_option maxRecDepth 20000 in
set_option maxHeartbeats 1000000 in
theorem eqKeep_any (lo hi : Int) (Z : List Int) (n : Nat) (hn : Z.length = n) (a1 a2 : Option Addr) (c1 c2 : Nat) (hl : n ≤ 2000000) (w : World) (h1 : ArgI w a1 Z) (h2 : ArgI w a2 Z) :
    Calls Tryd.prog 60 #[kpV lo hi a1 n c1, kpV lo hi a2 n c2] w fun e w' => e = .returned (.bool true) ∧ Below w.heap.size w w' := by
  unfold kpV
  have HB0 := hid (((Below.refl w.heap.size w).alloc (Nat.le_refl _) (.cells #[.int .i64 lo, .int .i64 hi, .slice a1 n c1] 59)).alloc (by simp) (.cells #[.int .i64 lo, .int .i64 hi, .slice a2 n c2] 59))
  have H1 := hid (h1.on HB0.out)
  have H2 := hid (h2.on HB0.out)
  have HN := hid hn
  clear h1 h2 hn
  have e1 : (lo != lo) = false := by simp
  have e2 : (hi != hi) = false := by simp
  go_enter Tryd.func60, Tryd.ntmps60
  go_wp2_with (go_at_call 64; refine (eqInt64S_any Z n HN.out a1 a2 c1 c2 hl _ H1.out H2.out).mono ?_; rintro e w1 ⟨rfl, hb⟩; have HB1 := hid (HB0.out.trans (hb.mono (by simp; omega))); clear hb)
  go_ret
  exact ⟨rfl, HB1.out⟩
end Go.Proofs.YtgehklhpmelffaaDoor
