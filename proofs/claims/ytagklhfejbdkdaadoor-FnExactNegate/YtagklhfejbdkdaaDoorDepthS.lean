/-
  DepthOf: plain facts; the model's by its contract.
-/
import Derived.Test.YtagklhfejbdkdaaDoorBoundLaw
namespace Go.Proofs.YtagklhfejbdkdaaDoor
open Go.RowKit
set_option linter.unusedVariables false
set_option linter.unusedSimpArgs false
/-- The greatest depth of what a node speaks of. -/
def underD (f : List Nd) (d : Nat → Int) (k : Nat) : Int :=
  if armsN (ndAt f k).k = 0 then 0 else if armsN (ndAt f k).k = 1 then d (ndAt f k).a.toNat else if d (ndAt f k).a.toNat < d (ndAt f k).b.toNat then d (ndAt f k).b.toNat else d (ndAt f k).a.toNat
/-- The depths of the first k nodes. -/
def dTo (f : List Nd) : Nat → Nat → Int
  | 0, _ => 0
  | k + 1, j => if j = k then underD f (dTo f k) k + 1 else dTo f k j
def depthB (f : List Nd) : Int := if rightB f = true then dTo f f.length (f.length - 1) else 0
theorem dTo_bd (f : List Nd) : ∀ k j, 0 ≤ dTo f k j ∧ dTo f k j ≤ k := by
  intro k
  induction k with
  | zero => intro j; exact ⟨Int.le_refl _, Int.le_refl _⟩
  | succ k ih =>
    intro j
    unfold dTo
    split
    · unfold underD
      have h1 := ih (ndAt f k).a.toNat
      have h2 := ih (ndAt f k).b.toNat
      repeat' split
      all_goals omega
    · have := ih j; omega
theorem dTo_above (f : List Nd) : ∀ k j, k ≤ j → dTo f k j = 0 := by
  intro k
  induction k with
  | zero => intro j _; rfl
  | succ k ih =>
    intro j hj
    unfold dTo
    rw [if_neg (by omega)]
    exact ih j (by omega)
theorem dTo_step (f : List Nd) (k : Nat) (m : Int) (hm : underD f (dTo f k) k = m) : ∀ j, dTo f (k + 1) j = if j = k then m + 1 else dTo f k j := by
  intro j
  show (if j = k then underD f (dTo f k) k + 1 else dTo f k j) = _
  rw [hm]
theorem underD_0 (f : List Nd) (d : Nat → Int) (k : Nat) (h : armsN (ndAt f k).k = 0) : underD f d k = 0 := by simp [underD, h]
theorem underD_1 (f : List Nd) (d : Nat → Int) (k na : Nat) (h : armsN (ndAt f k).k = 1) (ha : (ndAt f k).a = na) : underD f d k = d na := by simp [underD, h, ha]
theorem underD_2 (f : List Nd) (d : Nat → Int) (k na nb : Nat) (h : armsN (ndAt f k).k = 2) (ha : (ndAt f k).a = na) (hb : (ndAt f k).b = nb) : underD f d k = if d na < d nb then d nb else d na := by simp [underD, h, ha, hb]
def RowD (w : World) (db n : Nat) (d : Nat → Int) : Prop := w.rowIs db 2 n (fun j => .int .i64 (d j))
theorem RowD.set {w : World} {db n : Nat} {d : Nat → Int} (h : RowD w db n d) (k : Nat) (m : Int) : RowD (w.setCell ⟨db, k, none⟩ (.int .i64 m)) db n (fun j => if j = k then m else d j) :=
  (World.rowIs.set h k (.int .i64 m)).congr (fun j hj => by by_cases e : j = k <;> simp [e])
theorem RowD.drewN {w : World} {db n : Nat} {d : Nat → Int} (h : RowD w db n d) (m : Nat) : RowD (w.drewN m) db n d := h
theorem RowD.congr {w : World} {db n : Nat} {d d' : Nat → Int} (h : RowD w db n d) (e : ∀ j, d j = d' j) : RowD w db n d' := World.rowIs.congr h (fun j _ => by simp only [e j])
end Go.Proofs.YtagklhfejbdkdaaDoor
