/-
  MonStep: what the model and the program answer, in one form for every Monitor and event.
-/
import Derived.Test.YtbfkbgmkibkbnaaGreatDoorPa49
import Derived.Test.YtbfkbgmkibkbnaaGreatDoorPa47
namespace Go.Proofs.YtbfkbgmkibkbnaaGreatDoor
open Go.RowKit
set_option linter.unusedVariables false
set_option linter.unusedSimpArgs false
theorem kC_sum (C : List Cl) (k0 : Nat) : ∀ k, kC k0 (fun i => (clAt C i).ts.length) k = k0 + 3 * k + sumT C k
  | 0 => by simp [kC, sumT]
  | k + 1 => by
    have := kC_sum C k0 k
    simp only [kC, sumT, this]
    omega
theorem kC_le (k0 : Nat) (N : Nat → Nat) (M : Nat) : ∀ n, (∀ i, i < n → N i ≤ M) → kC k0 N n ≤ k0 + n * (3 + M)
  | 0, _ => by simp [kC]
  | n + 1, h => by
    have h1 := kC_le k0 N M n (fun i hi => h i (by omega))
    have h2 := h n (by omega)
    have e : (n + 1) * (3 + M) = n * (3 + M) + (3 + M) := Nat.succ_mul n (3 + M)
    simp only [kC]
    omega
def adV : Value → Option Addr
  | .slice a _ _ => a
  | _ => none
def cpV : Value → Nat
  | .slice _ _ c => c
  | _ => 0
theorem OwnI.is {w : World} {base : Nat} {v : Value} {Z : List Int} (h : OwnI w base v Z) : v = .slice (adV v) Z.length (cpV v) ∧ RowIs w (adV v) Z.length ∧ (∀ q, adV v = some q → base ≤ q.block ∧ q.block < w.heap.size ∧ v.ownBlock = some q.block) := by
  obtain ⟨a, c, e, _, h2, h3⟩ := h.form
  subst e
  exact ⟨rfl, h2, fun q e => ⟨(h3 q e).1, (h3 q e).2, by have e' : a = some q := e; subst e'; rfl⟩⟩
/-- The program's cells, to be marked. -/
theorem CkO.mu {w : World} {cb m n : Nat} {D : List Cl} {V z : Nat → Value} (hm : n * 4 ≤ m) (h : CkO w cb m D V z n) : CkMu w cb n (fun i => adV (V i)) (fun i => (clAt D i).ts.length) (fun i => cpV (V i)) := by
  refine ⟨⟨_, m, hm, h.row, fun i hi => ?_⟩, fun i hi => (h.own i hi).is.2.1, fun i hi q e => ?_, fun i j hi hj hne q r e1 e2 => ?_⟩
  · unfold rowC
    rw [if_pos (by omega), if_neg (by omega), if_neg (by omega), if_pos (by omega), show (i * 4 + 2) / 4 = i by omega]
    exact (h.own i hi).is.1
  · have := ((h.own i hi).is.2.2 q e).1
    omega
  · have p1 := ((h.own i hi).is.2.2 q e1).2.2
    have p2 := ((h.own j hj).is.2.2 r e2).2.2
    rcases Nat.lt_or_gt_of_ne hne with hl | hl
    · have := h.rise i j hl hj _ _ p1 p2; omega
    · have := h.rise j i hl hi _ _ p2 p1; omega
/-- A Monitor that a law has made, to be marked. -/
theorem CkRow.mu {w : World} {b : Nat} {C : List Cl} {A : Nat → Nat} {z : Nat → Value} (h : CkRow w b C A z C.length) : CkMu w b C.length (fun i => some ⟨A i, 0, none⟩) (fun i => (clAt C i).ts.length) (fun i => (clAt C i).ts.length) := by
  refine ⟨⟨_, C.length * 4, Nat.le_refl _, h.row, fun i hi => ?_⟩, fun i hi => (h.times i hi).mu, fun i hi q e => ?_, fun i j hi hj hne q r e1 e2 => ?_⟩
  · unfold rowC
    rw [if_pos (by omega), if_neg (by omega), if_neg (by omega), if_pos (by omega), show (i * 4 + 2) / 4 = i by omega]
    rfl
  · injection e with e; subst e
    have := h.above i hi
    show A i ≠ b
    omega
  · injection e1 with e1; injection e2 with e2; subst e1 e2
    show A i ≠ A j
    rcases Nat.lt_or_gt_of_ne hne with hl | hl
    · have := h.rising i j hl hj; omega
    · have := h.rising j i hl hi; omega
/-- What MonStep answers, in one form. -/
structure MsPk (f : List Nd) (cnt now : Int) (C : List Cl) (tm : Int) (S : List ByteArray) (F : List Nd) (D : List Cl) (V : List Bool) (n m : Nat) (cnt' now' : Int) (yes : Bool) (code : Int) (N : Nat → Nat) : Prop where
  hn : F.length = n
  hd : D.length = n
  hv : V.length = m
  ln : n ≤ 1000
  lm : m ≤ 1000
  lt : ∀ i, i < D.length → (clAt D i).ts.length ≤ 2000000
  lN : ∀ i, i < n → N i ≤ 2000000
  lk : kC (1 + n * 6) N n ≤ 900000000
  spec : ∀ (fb fc : Nat) (ca : Option Addr) (cc : Nat) (na : Option Addr) (nc : Nat) (w : World), MonIn w fb f ca C → TsAt w na S →
    Calls Tryz.prog 19 #[.agg #[.slice (some ⟨fb, 0, none⟩) f.length fc, .int .i64 cnt, .int .i64 now, .slice ca C.length cc], .agg #[.int .i64 tm, .slice na S.length nc]] w fun e w' => ∃ fa gc da dc aa ac, e = .returned (.agg #[.slice fa n gc, .int .i64 cnt', .int .i64 now', .slice da n dc, .bool yes, .slice aa m ac, .int .i64 code]) ∧ (∀ w'', Save w' w'' (fun j => j < w.heap.size) → OutR w'' fa da aa F D V) ∧ Below w.heap.size w w'
  impl : ∀ (fb fc : Nat) (ca : Option Addr) (cc : Nat) (na : Option Addr) (nc : Nat) (w : World), MonIn w fb f ca C → TsAt w na S → Kw w → 1 < w.heap.size →
    Calls Tryz.prog 13 #[.agg #[.slice (some ⟨fb, 0, none⟩) f.length fc, .int .i64 cnt, .int .i64 now, .slice ca C.length cc], .agg #[.int .i64 tm, .slice na S.length nc]] w fun e w' => ∃ fa gc da dc aa ac A Cc, e = .returned (.agg #[.slice fa n gc, .int .i64 cnt', .int .i64 now', .slice da n dc, .bool yes, .slice aa m ac, .int .i64 code]) ∧ OutM w' w.heap.size fa da aa n n m A N Cc ∧ (∀ w'', Save w' w'' (fun j => j < w.heap.size) → OutR w'' fa da aa F D V) ∧ Below w.heap.size w w'
theorem bs_of (w : World) (ab n : Nat) (G : Nat → Bool) (hl : ab < w.heap.size) (h : ∀ j, j < n → w.cell? ⟨ab, j, none⟩ = some (.bool (G j))) : BsAt w (some ⟨ab, 0, none⟩) ((List.range n).map G) :=
  Or.inr ⟨ab, rfl, hl, fun i hi => by have hi' : i < n := by simpa using hi
                                      rw [h i hi']; simp [hi']⟩
set_option maxRecDepth 20000 in
set_option maxHeartbeats 4000000 in
theorem msPk (f : List Nd) (cnt now : Int) (C : List Cl) (tm : Int) (S : List ByteArray) (hS : TxOk S) (hnl : S.length ≤ maxLen) : ∃ F D V n m cnt' now' yes code N, MsPk f cnt now C tm S F D V n m cnt' now' yes code N := by
  by_cases hc : stepCode f cnt now C tm S = 0
  · unfold stepCode at hc
    have hme : monB f cnt now C = true ∧ evB tm S = true := by
      rcases Bool.eq_false_or_eq_true (monB f cnt now C) with h1 | h1 <;> rcases Bool.eq_false_or_eq_true (evB tm S) with h2 | h2
      · exact ⟨h1, h2⟩
      all_goals (rw [h1, h2] at hc; simp at hc)
    obtain ⟨hm, he⟩ := hme
    rw [hm, he] at hc
    have hle : now ≤ tm := by
      by_cases h : tm < now
      · simp [h] at hc
      · omega
    have hcn : cnt ≠ 1000000 := by
      intro h
      simp [h] at hc
      omega
    have htm : timeB tm = true := by
      simp only [evB, Bool.and_eq_true, decide_eq_true_eq] at he
      simp [timeB, he.1]
    have hr := next_right (S := S) hm hle htm hcn
    have hm0 := hm
    simp only [monB, Bool.and_eq_true, decide_eq_true_eq, cellsTo, List.all_eq_true, List.mem_range] at hm0
    have hfl : 1 ≤ f.length ∧ f.length ≤ 24 := by have := hm0.1; simp only [rightB, Bool.and_eq_true, decide_eq_true_eq] at this; exact this.1
    simp only [monB, Bool.and_eq_true, decide_eq_true_eq, cellsTo, List.all_eq_true, List.mem_range] at hr
    have hkl : ∀ i, i < f.length → (clAt (nextC cnt now tm S f C) i).ts.length ≤ 2000000 := fun i hi => by have := krB_len (cell_keeps (hr.2.2.2.2.2 i hi)).1; omega
    refine ⟨f, nextC cnt now tm S f C, (List.range f.length).map (gV cnt now tm S f C), f.length, f.length, cnt + 1, tm, gV cnt now tm S f C (f.length - 1), 0, fun i => (clAt (nextC cnt now tm S f C) i).ts.length, rfl, nextC_len _ _ _ _ _ _, by simp, by omega, by omega, fun i hi => hkl i (by rwa [nextC_len] at hi), hkl, ?_, fun fb fc ca cc na nc w hM hT => ?_, fun fb fc ca cc na nc w hM hT hk hg => ?_⟩
    · have := kC_le (1 + f.length * 6) (fun i => (clAt (nextC cnt now tm S f C) i).ts.length) 2000000 f.length hkl
      have h2 : f.length * (3 + 2000000) ≤ 24 * (3 + 2000000) := Nat.mul_le_mul_right _ hfl.2
      omega
    · refine (specMStep_ok f fb fc cnt now C ca cc tm S na S.length nc rfl hnl hS hm he hle hcn _ rfl _ rfl w hM hT).mono ?_
      rintro e w' ⟨g, gc, cb, cap, ab, bc, rfl, h1, h2, h3, h4, h5, h6, h7, h8, hb⟩
      exact ⟨some ⟨g, 0, none⟩, gc, some ⟨cb, 0, none⟩, cap, some ⟨ab, 0, none⟩, bc, rfl, fun w'' hs => ⟨Or.inr ⟨g, rfl, hs.nodes h2 (by omega)⟩, ckx_at (Nat.lt_of_lt_of_le h4 hs.size) (nextC_len _ _ _ _ _ _) (fun i hi => (h5 i hi).step (T' := fun j => j = cb ∨ j < w.heap.size) hs h4 (by omega) (fun j _ e => Or.inr e) (fun j e => Or.inl e)), bs_of w'' ab _ _ (Nat.lt_of_lt_of_le h7 hs.size) (fun j hj => (hs.cell (p := ⟨ab, j, none⟩) h7 (by show ¬ ab < w.heap.size; omega)).trans (h8 j hj))⟩, hb⟩
    · refine (implStep_ok f fb fc cnt now C ca cc tm S na S.length nc rfl hnl hS hm he hle hcn _ rfl _ rfl w hM hT hk hg).mono ?_
      rintro e w' ⟨g, gc, cb, ab, Vf, rfl, h1, h2, h3, hn, hra, hO, hlow, hrb, hb⟩
      have hgl := hn.1
      refine ⟨some ⟨g, 0, none⟩, gc, some ⟨cb, 0, none⟩, f.length, some ⟨ab, 0, none⟩, f.length, fun i => adV (Vf i), fun i => cpV (Vf i), rfl, ⟨hra, Or.inr ⟨cb, rfl, hO.mu (Nat.le_refl _)⟩, Or.inr ⟨ab, _, _, rfl, Nat.le_refl _, hrb⟩, fun q e => ?_, fun q e => ?_, fun q e => ?_, fun i hi q e => ?_, fun p q e1 e2 => ?_, fun p q e1 e2 => ?_, fun p q e1 e2 => ?_, fun i hi p q e1 e2 => ?_, fun i hi p q e1 e2 => ?_⟩, fun w'' hs => ⟨Or.inr ⟨g, rfl, hs.nodes hn (by omega)⟩, ?_, ?_⟩, hb⟩
      · injection e with e; subst e; exact ⟨rfl, by show _ ≤ g; omega, hgl⟩
      · injection e with e; subst e; exact ⟨rfl, by show _ ≤ cb; omega, by show cb < _; omega⟩
      · injection e with e; subst e; exact ⟨rfl, by show _ ≤ ab; omega, by show ab < _; omega⟩
      · have := (hO.own i hi).is.2.2 q e; omega
      · injection e1 with e1; injection e2 with e2; subst e1 e2; show g ≠ cb; omega
      · injection e1 with e1; injection e2 with e2; subst e1 e2; show g ≠ ab; omega
      · injection e1 with e1; injection e2 with e2; subst e1 e2; show cb ≠ ab; omega
      · injection e2 with e2; subst e2
        have h9 := hlow i _ hi ((hO.own i hi).is.2.2 p e1).2.2
        show p.block ≠ g; omega
      · injection e2 with e2; subst e2
        have h9 := ((hO.own i hi).is.2.2 p e1).1
        show p.block ≠ ab; omega
      · have hO2 := hO.save hs (by omega) (fun j hj => by omega)
        have hl := nextC_len cnt now tm S f C
        exact ckO_at (D := nextC cnt now tm S f C) (m := f.length * 4) (by omega) (by rw [hl]; exact hO2)
      · refine bs_of w'' ab _ _ (Nat.lt_of_lt_of_le hrb.lt hs.size) (fun j hj => ?_)
        rw [(hrb.of_block (hs.block ab hrb.lt (by omega))).cell hj]
        unfold boolsTo
        rw [if_pos hj]
  · refine ⟨[], [], [], 0, 0, 0, 0, false, stepCode f cnt now C tm S, fun _ => 0, rfl, rfl, rfl, by omega, by omega, fun i hi => by simp at hi, fun i hi => by omega, by simp [kC], fun fb fc ca cc na nc w hM hT => ?_, fun fb fc ca cc na nc w hM hT hk hg => ?_⟩
    · refine (specMStep_no f fb fc cnt now C ca cc tm S na S.length nc rfl hnl hS _ rfl hc w hM hT).mono ?_
      rintro e w' ⟨rfl, hb⟩
      exact ⟨none, 0, none, 0, none, 0, rfl, fun w'' hs => ⟨Or.inl rfl, Or.inl rfl, Or.inl rfl⟩, hb⟩
    · refine (implStep_no f fb fc cnt now C ca cc tm S na S.length nc rfl hnl hS _ rfl hc w hM hT hk hg).mono ?_
      rintro e w' ⟨rfl, hb⟩
      exact ⟨none, 0, none, 0, none, 0, fun _ => none, fun _ => 0, rfl, ⟨Or.inl rfl, Or.inl rfl, Or.inl rfl, fun q e => by (cases e), fun q e => by (cases e), fun q e => by (cases e), fun i hi => by omega, fun p q e => by (cases e), fun p q e => by (cases e), fun p q e => by (cases e), fun i hi => by omega, fun i hi => by omega⟩, fun w'' hs => ⟨Or.inl rfl, Or.inl rfl, Or.inl rfl⟩, hb⟩
end Go.Proofs.YtbfkbgmkibkbnaaGreatDoor
