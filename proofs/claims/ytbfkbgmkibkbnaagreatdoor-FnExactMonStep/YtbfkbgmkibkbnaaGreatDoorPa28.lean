/-
  What a monitor tells of an event, node by node: plain facts.
-/
import Derived.Test.YtbfkbgmkibkbnaaGreatDoorPa27
import Derived.Test.YtbfkbgmkibkbnaaGreatDoorPa22
import Derived.Test.YtbfkbgmkibkbnaaGreatDoorPa00
namespace Go.Proofs.YtbfkbgmkibkbnaaGreatDoor
open Go.RowKit
set_option linter.unusedVariables false
set_option linter.unusedSimpArgs false
/-- What a node tells of an event, and what is kept of it. -/
def stB (cnt now tm : Int) (S : List ByteArray) (x : Nd) (c : Cl) (g : Nat → Bool) : Bool × Cl :=
  if x.k = 1 then (true, cl0) else
  if x.k = 2 then (nhTo S x.nm S.length, cl0) else
  if x.k = 3 then (!g x.a.toNat, cl0) else
  if x.k = 4 then (g x.a.toNat && g x.b.toNat, cl0) else
  if x.k = 5 then (g x.a.toNat || g x.b.toNat, cl0) else
  if x.k = 6 then (decide (0 < cnt) && (c.was && inB x.lo x.hi (tm - now)), ⟨0, 0, [], g x.a.toNat⟩) else
  if x.k = 7 then (askTo c.lo c.hi tm (nextI (g x.a.toNat) c.hi tm c.ts) (nextI (g x.a.toNat) c.hi tm c.ts).length, ⟨c.lo, c.hi, nextI (g x.a.toNat) c.hi tm c.ts, false⟩) else
  if x.k = 8 then (!askTo c.lo c.hi tm (nextI (!g x.a.toNat) c.hi tm c.ts) (nextI (!g x.a.toNat) c.hi tm c.ts).length, ⟨c.lo, c.hi, nextI (!g x.a.toNat) c.hi tm c.ts, false⟩) else
  (askTo c.lo c.hi tm (nextI (g x.b.toNat) c.hi tm (if g x.a.toNat then c.ts else [])) (nextI (g x.b.toNat) c.hi tm (if g x.a.toNat then c.ts else [])).length, ⟨c.lo, c.hi, nextI (g x.b.toNat) c.hi tm (if g x.a.toNat then c.ts else []), false⟩)
theorem armsN_a {k : Int} (h : k = 3 ∨ k = 4 ∨ k = 5 ∨ k = 6 ∨ k = 7 ∨ k = 8 ∨ k = 9) : 0 < armsN k := by
  unfold armsN
  split
  · decide
  · split
    · decide
    · omega
theorem armsN_b {k : Int} (h : k = 4 ∨ k = 5 ∨ k = 9) : 1 < armsN k := by
  unfold armsN
  rw [if_neg (by omega), if_pos (by omega)]
  decide
/-- The kinds that there are. -/
def kindOk (k : Int) : Prop := 1 ≤ k ∧ k ≤ 9
theorem stB_congr (cnt now tm : Int) (S : List ByteArray) (x : Nd) (c : Cl) (g g' : Nat → Bool) (hk : kindOk x.k) (ha : 0 < armsN x.k → g x.a.toNat = g' x.a.toNat) (hb : 1 < armsN x.k → g x.b.toNat = g' x.b.toNat) : stB cnt now tm S x c g = stB cnt now tm S x c g' := by
  unfold stB
  obtain ⟨k1, k2⟩ := hk
  by_cases h1 : x.k = 1
  · rw [if_pos h1, if_pos h1]
  rw [if_neg h1, if_neg h1]
  by_cases h2 : x.k = 2
  · rw [if_pos h2, if_pos h2]
  rw [if_neg h2, if_neg h2]
  rw [ha (armsN_a (by omega))]
  by_cases h3 : x.k = 3
  · rw [if_pos h3, if_pos h3]
  rw [if_neg h3, if_neg h3]
  by_cases h4 : x.k = 4
  · rw [if_pos h4, if_pos h4, hb (armsN_b (by omega))]
  rw [if_neg h4, if_neg h4]
  by_cases h5 : x.k = 5
  · rw [if_pos h5, if_pos h5, hb (armsN_b (by omega))]
  rw [if_neg h5, if_neg h5]
  by_cases h6 : x.k = 6
  · rw [if_pos h6, if_pos h6]
  rw [if_neg h6, if_neg h6]
  by_cases h7 : x.k = 7
  · rw [if_pos h7, if_pos h7]
  rw [if_neg h7, if_neg h7]
  by_cases h8 : x.k = 8
  · rw [if_pos h8, if_pos h8]
  rw [if_neg h8, if_neg h8, hb (armsN_b (by omega))]
/-- What the first nodes tell. -/
def gTo (cnt now tm : Int) (S : List ByteArray) (f : List Nd) (C : List Cl) : Nat → Nat → Bool
  | 0, _ => false
  | n + 1, i => if i = n then (stB cnt now tm S (ndAt f n) (clAt C n) (gTo cnt now tm S f C n)).1 else gTo cnt now tm S f C n i
/-- What node i tells. -/
def gV (cnt now tm : Int) (S : List ByteArray) (f : List Nd) (C : List Cl) (i : Nat) : Bool := gTo cnt now tm S f C (i + 1) i
/-- What is kept of node i. -/
def gC (cnt now tm : Int) (S : List ByteArray) (f : List Nd) (C : List Cl) (i : Nat) : Cl := (stB cnt now tm S (ndAt f i) (clAt C i) (gV cnt now tm S f C)).2
theorem gTo_at (cnt now tm : Int) (S : List ByteArray) (f : List Nd) (C : List Cl) : ∀ n i, i < n → gTo cnt now tm S f C n i = gV cnt now tm S f C i := by
  intro n
  induction n with
  | zero => intro i h; omega
  | succ n ih =>
    intro i h
    by_cases e : i = n
    · subst e; rfl
    · show (if i = n then _ else gTo cnt now tm S f C n i) = _
      rw [if_neg e]
      exact ih i (by omega)
theorem gV_eq (cnt now tm : Int) (S : List ByteArray) (f : List Nd) (C : List Cl) (i : Nat) (hk : kindOk (ndAt f i).k) (hd : armsOk (ndAt f i) i) : gV cnt now tm S f C i = (stB cnt now tm S (ndAt f i) (clAt C i) (gV cnt now tm S f C)).1 := by
  have e : gV cnt now tm S f C i = (stB cnt now tm S (ndAt f i) (clAt C i) (gTo cnt now tm S f C i)).1 := by
    show (if i = i then _ else gTo cnt now tm S f C i i) = _
    rw [if_pos rfl]
  rw [e, stB_congr cnt now tm S (ndAt f i) (clAt C i) (gTo cnt now tm S f C i) (gV cnt now tm S f C) hk]
  · intro h
    have := hd.1 h
    exact gTo_at cnt now tm S f C i _ (by omega)
  · intro h
    have := hd.2 h
    exact gTo_at cnt now tm S f C i _ (by omega)
def nextC (cnt now tm : Int) (S : List ByteArray) (f : List Nd) (C : List Cl) : List Cl := (List.range f.length).map (gC cnt now tm S f C)
theorem nextC_len (cnt now tm : Int) (S : List ByteArray) (f : List Nd) (C : List Cl) : (nextC cnt now tm S f C).length = f.length := by simp [nextC]
theorem nextC_at (cnt now tm : Int) (S : List ByteArray) (f : List Nd) (C : List Cl) (i : Nat) (h : i < f.length) : clAt (nextC cnt now tm S f C) i = gC cnt now tm S f C i := by
  simp [nextC, clAt, List.getD, h]
def allB (cnt now tm : Int) (S : List ByteArray) (f : List Nd) (C : List Cl) : List Bool := (List.range f.length).map (gV cnt now tm S f C)
theorem nodeB_kind {x : Nd} {i : Nat} (h : nodeB x i = true) : kindOk x.k := by
  simp only [nodeB, isB, Bool.and_eq_true, decide_eq_true_eq] at h
  exact ⟨by omega, by omega⟩
theorem right_node {f : List Nd} (h : rightB f = true) (i : Nat) (hi : i < f.length) : kindOk (ndAt f i).k ∧ armsOk (ndAt f i) i := by
  have h2 : goodTo f f.length = true := by
    simp only [rightB, Bool.and_eq_true] at h
    exact h.2.1
  have := (goodTo_at f i f.length hi h2).1
  exact ⟨nodeB_kind this, nodeB_arms _ _ this⟩
/-- What a right cell has. -/
theorem cell_keeps {cnt now : Int} {x : Nd} {c : Cl} (h : cellB cnt now x c = true) : krB c.lo c.hi c.ts = true ∧ c.lo = bareLo x ∧ c.hi = bareHi x ∧ (c.ts.length = 0 ∨ (keepsK x.k = true ∧ 0 < cnt ∧ lastT c.ts ≤ now)) ∧ wasB cnt x c.was = true := by
  simp only [cellB, keptB, Bool.and_eq_true, Bool.or_eq_true, decide_eq_true_eq, beq_iff_eq] at h
  exact ⟨h.2.1, h.2.2.1, h.2.2.2.1, h.2.2.2.2, h.1⟩
end Go.Proofs.YtbfkbgmkibkbnaaGreatDoor
