/-
  What a call tells of a ring, as plain data; small facts for the walks of laws over rings.
-/
import Derived.Test.YtfafeomegoikkaaRgD
import Derived.Test.YtfafeomegoikkaaOwI
namespace Go.Proofs.Ytfafeomegoikkaa
open Go.RowKit
set_option linter.unusedVariables false
set_option linter.unusedSimpArgs false
structure RO where
  cap : Int
  hd : Int
  tl : Int
  n : Nat
  Z : List Int
  pos : Int
  item : Int
  code : Int
def roIll (code : Int) : RO := ⟨0, 0, 0, 0, [], 0, 0, code⟩
def RO.ok (r : RO) : Prop := r.Z.length = r.n * 2 ∧ r.n ≤ 16
theorem roIll_ok (code : Int) : (roIll code).ok := ⟨rfl, by simp [roIll]⟩
/-- A row of cups that a call made. -/
structure RgOut (w w' : World) (a : Option Addr) (n : Nat) (Z : List Int) : Prop where
  arg : ArgI w' a Z
  mu : RowC w' a n
  fresh : ∀ q, a = some q → w.heap.size ≤ q.block ∧ q.block < w'.heap.size
  bel : Below w.heap.size w w'
theorem RgOut.none {w w' : World} (h : Below w.heap.size w w') : RgOut w w' Option.none 0 [] := ⟨Or.inl rfl, Or.inl rfl, fun q e => (by cases e), h⟩
theorem RowC.on {w w' : World} {a : Option Addr} {n : Nat} (h : RowC w a n) (hb : Below w.heap.size w w') : RowC w' a n := h.below hb
theorem RowIs.on {w w' : World} {a : Option Addr} {n : Nat} (h : RowIs w a n) (hb : Below w.heap.size w w') : RowIs w' a n := h.below hb
theorem ofT_some {b j : Nat} (h : OfT (some ⟨b, 0, none⟩) j) : j = b := by
  obtain ⟨q, e, h⟩ := h
  injection e with e
  subst e
  exact h.symm
end Go.Proofs.Ytfafeomegoikkaa
