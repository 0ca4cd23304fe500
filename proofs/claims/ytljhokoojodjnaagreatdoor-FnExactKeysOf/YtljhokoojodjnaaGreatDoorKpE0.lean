/-
  Keeps: plain facts on what is asked; KeepRight and times by what they tell.
-/
import Derived.Test.YtljhokoojodjnaaGreatDoorKpD
import Derived.Test.YtljhokoojodjnaaGreatDoorKpX
namespace Go.Proofs.YtljhokoojodjnaaGreatDoor
open Go.RowKit
set_option linter.unusedVariables false
set_option linter.unusedSimpArgs false
def askTo (lo hi tm : Int) (Z : List Int) (k : Nat) : Bool := (List.range k).any fun i => inB lo hi (tm - zAt Z i)
def kaB (lo hi : Int) (Z : List Int) (tm : Int) : Bool := krB lo hi Z && (timeB tm && askTo lo hi tm Z Z.length)
theorem askTo_succ (lo hi tm : Int) (Z : List Int) (k : Nat) : askTo lo hi tm Z (k + 1) = (askTo lo hi tm Z k || inB lo hi (tm - zAt Z k)) := by simp [askTo, List.range_succ]
theorem askTo_true (lo hi tm : Int) (Z : List Int) (k m : Nat) (hk : k < m) (h : inB lo hi (tm - zAt Z k) = true) : askTo lo hi tm Z m = true := by
  simp only [askTo, List.any_eq_true, List.mem_range]
  exact ⟨k, hk, h⟩
theorem timeB_parts {t : Int} (h : timeB t = true) : 0 ≤ t ∧ t ≤ 1000000 := by simpa [timeB] using h
theorem timeS_is (t : Int) (v : Bool) (hv : timeB t = v) (w : World) : Calls Tryz.prog 101 #[.int .i64 t] w fun e w' => e = .returned (.bool v) ∧ w = w' := by
  subst hv; exact (specTime_any t w).mono (by rintro e w' ⟨rfl, rfl⟩; exact ⟨rfl, rfl⟩)
theorem timeI_is (t : Int) (v : Bool) (hv : timeB t = v) (w : World) : Calls Tryz.prog 92 #[.int .i64 t] w fun e w' => e = .returned (.bool v) ∧ w = w' := by
  subst hv; exact (implTime_any t w).mono (by rintro e w' ⟨rfl, rfl⟩; exact ⟨rfl, rfl⟩)
theorem specKr_is (lo hi : Int) (Z : List Int) (v : Bool) (hv : krB lo hi Z = v) (n : Nat) (hn : Z.length = n) (a : Option Addr) (c : Nat) (hl : n ≤ 2000000) (w : World) (hA : ArgI w a Z) :
    Calls Tryz.prog 148 #[.agg #[.int .i64 lo, .int .i64 hi, .slice a n c]] w fun e w' => e = .returned (.bool v) ∧ Below w.heap.size w w' := by
  subst hv; exact specKr_any lo hi Z n hn a c hl w hA
theorem implKr_is (lo hi : Int) (Z : List Int) (v : Bool) (hv : krB lo hi Z = v) (n : Nat) (hn : Z.length = n) (a : Option Addr) (c : Nat) (hl : n ≤ 2000000) (w : World) (hA : ArgI w a Z) :
    Calls Tryz.prog 163 #[.agg #[.int .i64 lo, .int .i64 hi, .slice a n c]] w fun e w' => e = .returned (.bool v) ∧ Below w.heap.size w w' := by
  subst hv; exact implKr_any lo hi Z n hn a c hl w hA
theorem krB_times {lo hi : Int} {Z : List Int} (h : krB lo hi Z = true) : ∀ i, i < Z.length → 0 ≤ zAt Z i ∧ zAt Z i ≤ 1000000 := fun i hi => by have := riseTo_at (krB_parts h).2.2 i hi; omega
/-- What a slice looks like. -/
def SlV (a : Option Addr) (n c : Nat) : Prop := (a = none ∧ n = 0 ∧ c = 0) ∨ (∃ b off, a = some ⟨b, off, none⟩ ∧ n ≤ c ∧ c ≤ maxLen)
theorem slV_made (b n : Nat) (h : n ≤ 1048576) : SlV (some ⟨b, 0, none⟩) n n := Or.inr ⟨b, 0, rfl, Nat.le_refl _, by unfold maxLen; omega⟩
theorem slV_nil : SlV none 0 0 := Or.inl ⟨rfl, rfl, rfl⟩
end Go.Proofs.YtljhokoojodjnaaGreatDoor
