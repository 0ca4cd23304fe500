/-
  One node: the program's nodeRight by its contract.
-/
import Derived.Test.YtagklhfejbdkdaaDoorNrA
import Derived.Test.YtagklhfejbdkdaaDoorNrB
import Derived.Test.YtagklhfejbdkdaaDoorNrC
import Derived.Test.YtagklhfejbdkdaaDoorNrD
namespace Go.Proofs.YtagklhfejbdkdaaDoor
open Go.RowKit
set_option linter.unusedVariables false
set_option linter.unusedSimpArgs false
theorem emptyB_eq (s : ByteArray) (h : emptyB s = true) : (⟨#[]⟩ : ByteArray) = s := by
  rw [str_eq]
  simp [emptyB] at h
  rw [h, ByteArray.toList_eq]
theorem emptyB_nil : emptyB (⟨#[]⟩ : ByteArray) = true := by
  simp [emptyB, ByteArray.toList_eq]
theorem nodeB_no1 (a b lo hi : Int) (nm : ByteArray) (i : Nat) (hx : ((1, 0, 0, 0, 0, (⟨#[]⟩ : ByteArray)) : Nd) ≠ ((1, a, b, lo, hi, nm) : Nd)) : nodeB ((1, a, b, lo, hi, nm) : Nd) i = false := by
  rw [Bool.eq_false_iff]
  intro h
  apply hx
  simp [nodeB, Nd.k, Nd.a, Nd.b, Nd.lo, Nd.hi, Nd.nm, show armsN 1 = 0 from by decide, show timedB 1 = false from by decide, show isB 1 1 9 = true from by decide] at h
  simp [h, emptyB_eq nm h.1]
theorem nodeB_yes1 (i : Nat) : nodeB ((1, 0, 0, 0, 0, (⟨#[]⟩ : ByteArray)) : Nd) i = true := by
  simp [nodeB, Nd.k, Nd.a, Nd.b, Nd.lo, Nd.hi, Nd.nm, show armsN 1 = 0 from by decide, show timedB 1 = false from by decide, show isB 1 1 9 = true from by decide, emptyB_nil]
theorem nodeB_no2 (a b lo hi : Int) (nm : ByteArray) (i : Nat) (hx : ((2, 0, 0, 0, 0, nm) : Nd) ≠ ((2, a, b, lo, hi, nm) : Nd)) : nodeB ((2, a, b, lo, hi, nm) : Nd) i = false := by
  rw [Bool.eq_false_iff]
  intro h
  apply hx
  simp [nodeB, Nd.k, Nd.a, Nd.b, Nd.lo, Nd.hi, Nd.nm, show armsN 2 = 0 from by decide, show timedB 2 = false from by decide, show isB 2 1 9 = true from by decide] at h
  simp [h]
theorem nodeB_yes2 (nm : ByteArray) (i : Nat) : nodeB ((2, 0, 0, 0, 0, nm) : Nd) i = wordB nm := by
  simp [nodeB, Nd.k, Nd.a, Nd.b, Nd.lo, Nd.hi, Nd.nm, show armsN 2 = 0 from by decide, show timedB 2 = false from by decide, show isB 2 1 9 = true from by decide, emptyB_nil]
theorem nodeB_no3 (a b lo hi : Int) (nm : ByteArray) (i : Nat) (hx : ((3, a, 0, 0, 0, (⟨#[]⟩ : ByteArray)) : Nd) ≠ ((3, a, b, lo, hi, nm) : Nd)) : nodeB ((3, a, b, lo, hi, nm) : Nd) i = false := by
  rw [Bool.eq_false_iff]
  intro h
  apply hx
  simp [nodeB, Nd.k, Nd.a, Nd.b, Nd.lo, Nd.hi, Nd.nm, show armsN 3 = 1 from by decide, show timedB 3 = false from by decide, show isB 3 1 9 = true from by decide] at h
  simp [h, emptyB_eq nm h.1]
theorem nodeB_yes3 (a : Int) (i : Nat) : nodeB ((3, a, 0, 0, 0, (⟨#[]⟩ : ByteArray)) : Nd) i = isB a 0 (i - 1) := by
  simp [nodeB, Nd.k, Nd.a, Nd.b, Nd.lo, Nd.hi, Nd.nm, show armsN 3 = 1 from by decide, show timedB 3 = false from by decide, show isB 3 1 9 = true from by decide, emptyB_nil]
theorem nodeB_no4 (a b lo hi : Int) (nm : ByteArray) (i : Nat) (hx : ((4, a, b, 0, 0, (⟨#[]⟩ : ByteArray)) : Nd) ≠ ((4, a, b, lo, hi, nm) : Nd)) : nodeB ((4, a, b, lo, hi, nm) : Nd) i = false := by
  rw [Bool.eq_false_iff]
  intro h
  apply hx
  simp [nodeB, Nd.k, Nd.a, Nd.b, Nd.lo, Nd.hi, Nd.nm, show armsN 4 = 2 from by decide, show timedB 4 = false from by decide, show isB 4 1 9 = true from by decide] at h
  simp [h, emptyB_eq nm h.1]
theorem nodeB_yes4 (a b : Int) (i : Nat) : nodeB ((4, a, b, 0, 0, (⟨#[]⟩ : ByteArray)) : Nd) i = (isB a 0 (i - 1) && isB b 0 (i - 1)) := by
  simp [nodeB, Nd.k, Nd.a, Nd.b, Nd.lo, Nd.hi, Nd.nm, show armsN 4 = 2 from by decide, show timedB 4 = false from by decide, show isB 4 1 9 = true from by decide, emptyB_nil, Bool.and_assoc]
theorem nodeB_no5 (a b lo hi : Int) (nm : ByteArray) (i : Nat) (hx : ((5, a, b, 0, 0, (⟨#[]⟩ : ByteArray)) : Nd) ≠ ((5, a, b, lo, hi, nm) : Nd)) : nodeB ((5, a, b, lo, hi, nm) : Nd) i = false := by
  rw [Bool.eq_false_iff]
  intro h
  apply hx
  simp [nodeB, Nd.k, Nd.a, Nd.b, Nd.lo, Nd.hi, Nd.nm, show armsN 5 = 2 from by decide, show timedB 5 = false from by decide, show isB 5 1 9 = true from by decide] at h
  simp [h, emptyB_eq nm h.1]
theorem nodeB_yes5 (a b : Int) (i : Nat) : nodeB ((5, a, b, 0, 0, (⟨#[]⟩ : ByteArray)) : Nd) i = (isB a 0 (i - 1) && isB b 0 (i - 1)) := by
  simp [nodeB, Nd.k, Nd.a, Nd.b, Nd.lo, Nd.hi, Nd.nm, show armsN 5 = 2 from by decide, show timedB 5 = false from by decide, show isB 5 1 9 = true from by decide, emptyB_nil, Bool.and_assoc]
theorem nodeB_no6 (a b lo hi : Int) (nm : ByteArray) (i : Nat) (hx : ((6, a, 0, lo, hi, (⟨#[]⟩ : ByteArray)) : Nd) ≠ ((6, a, b, lo, hi, nm) : Nd)) : nodeB ((6, a, b, lo, hi, nm) : Nd) i = false := by
  rw [Bool.eq_false_iff]
  intro h
  apply hx
  simp [nodeB, Nd.k, Nd.a, Nd.b, Nd.lo, Nd.hi, Nd.nm, show armsN 6 = 1 from by decide, show timedB 6 = true from by decide, show isB 6 1 9 = true from by decide] at h
  simp [h, emptyB_eq nm h.1]
theorem nodeB_yes6 (a lo hi : Int) (i : Nat) : nodeB ((6, a, 0, lo, hi, (⟨#[]⟩ : ByteArray)) : Nd) i = (isB a 0 (i - 1) && spanB lo hi) := by
  simp [nodeB, Nd.k, Nd.a, Nd.b, Nd.lo, Nd.hi, Nd.nm, show armsN 6 = 1 from by decide, show timedB 6 = true from by decide, show isB 6 1 9 = true from by decide, emptyB_nil]
theorem nodeB_no7 (a b lo hi : Int) (nm : ByteArray) (i : Nat) (hx : ((7, a, 0, lo, hi, (⟨#[]⟩ : ByteArray)) : Nd) ≠ ((7, a, b, lo, hi, nm) : Nd)) : nodeB ((7, a, b, lo, hi, nm) : Nd) i = false := by
  rw [Bool.eq_false_iff]
  intro h
  apply hx
  simp [nodeB, Nd.k, Nd.a, Nd.b, Nd.lo, Nd.hi, Nd.nm, show armsN 7 = 1 from by decide, show timedB 7 = true from by decide, show isB 7 1 9 = true from by decide] at h
  simp [h, emptyB_eq nm h.1]
theorem nodeB_yes7 (a lo hi : Int) (i : Nat) : nodeB ((7, a, 0, lo, hi, (⟨#[]⟩ : ByteArray)) : Nd) i = (isB a 0 (i - 1) && spanB lo hi) := by
  simp [nodeB, Nd.k, Nd.a, Nd.b, Nd.lo, Nd.hi, Nd.nm, show armsN 7 = 1 from by decide, show timedB 7 = true from by decide, show isB 7 1 9 = true from by decide, emptyB_nil]
theorem nodeB_no8 (a b lo hi : Int) (nm : ByteArray) (i : Nat) (hx : ((8, a, 0, lo, hi, (⟨#[]⟩ : ByteArray)) : Nd) ≠ ((8, a, b, lo, hi, nm) : Nd)) : nodeB ((8, a, b, lo, hi, nm) : Nd) i = false := by
  rw [Bool.eq_false_iff]
  intro h
  apply hx
  simp [nodeB, Nd.k, Nd.a, Nd.b, Nd.lo, Nd.hi, Nd.nm, show armsN 8 = 1 from by decide, show timedB 8 = true from by decide, show isB 8 1 9 = true from by decide] at h
  simp [h, emptyB_eq nm h.1]
theorem nodeB_yes8 (a lo hi : Int) (i : Nat) : nodeB ((8, a, 0, lo, hi, (⟨#[]⟩ : ByteArray)) : Nd) i = (isB a 0 (i - 1) && spanB lo hi) := by
  simp [nodeB, Nd.k, Nd.a, Nd.b, Nd.lo, Nd.hi, Nd.nm, show armsN 8 = 1 from by decide, show timedB 8 = true from by decide, show isB 8 1 9 = true from by decide, emptyB_nil]
theorem nodeB_no9 (a b lo hi : Int) (nm : ByteArray) (i : Nat) (hx : ((9, a, b, lo, hi, (⟨#[]⟩ : ByteArray)) : Nd) ≠ ((9, a, b, lo, hi, nm) : Nd)) : nodeB ((9, a, b, lo, hi, nm) : Nd) i = false := by
  rw [Bool.eq_false_iff]
  intro h
  apply hx
  simp [nodeB, Nd.k, Nd.a, Nd.b, Nd.lo, Nd.hi, Nd.nm, show armsN 9 = 2 from by decide, show timedB 9 = true from by decide, show isB 9 1 9 = true from by decide] at h
  simp [h, emptyB_eq nm h.1]
theorem nodeB_yes9 (a b lo hi : Int) (i : Nat) : nodeB ((9, a, b, lo, hi, (⟨#[]⟩ : ByteArray)) : Nd) i = ((isB a 0 (i - 1) && isB b 0 (i - 1)) && spanB lo hi) := by
  simp [nodeB, Nd.k, Nd.a, Nd.b, Nd.lo, Nd.hi, Nd.nm, show armsN 9 = 2 from by decide, show timedB 9 = true from by decide, show isB 9 1 9 = true from by decide, emptyB_nil, Bool.and_assoc]
set_option maxRecDepth 20000 in
set_option maxHeartbeats 1000000 in
theorem nr_bad (k a b lo hi : Int) (nm : ByteArray) (i : Nat) (w : World) (h : isB k 1 9 = false) :
    Calls Tryd.prog 68 #[.agg #[.int .i64 k, .int .i64 a, .int .i64 b, .int .i64 lo, .int .i64 hi, .string nm], .int .i64 i] w fun e w' => e = .returned (.bool false) ∧ Below w.heap.size w w' := by
  have HI := hide h
  clear h
  have hnil : ∀ w : World, Sem.run Tryd.prog (binOp .eql 94 .nilIface .nilIface) w = .ok (.bool true) w := fun _ => by kernel_rfl
  go_enter Tryd.func68, Tryd.ntmps68
  go_wp2_with (go_at_call 72; refine (form_bad _ _ _ _ _ _ _ HI.out).mono ?_; rintro e w1 ⟨rfl, hb1⟩; have HB1 : Hid (Below w.heap.size w w1) := ((Below.refl _ _).alloc (Nat.le_refl _) _).trans (hb1.mono (by simp)); clear hb1)
  go_quiet (fail)
  go_wp2
  go_ret
  exact ⟨rfl, below_drewN HB1.out _⟩
theorem implNode_any (x : Nd) (hs : x.nm.size ≤ maxLen) (i : Nat) (hi' : i < 1000) (w : World) (hkw : Kw w) (hg : 1 < w.heap.size) :
    Calls Tryd.prog 68 #[ndV x, .int .i64 i] w fun e w' => e = .returned (.bool (nodeB x i)) ∧ Below w.heap.size w w' := by
  obtain ⟨k, a, b, lo, hi, nm⟩ := x
  show Calls Tryd.prog 68 #[.agg #[.int .i64 k, .int .i64 a, .int .i64 b, .int .i64 lo, .int .i64 hi, .string nm], .int .i64 i] w _
  rcases Bool.eq_false_or_eq_true (isB k 1 9) with h | h
  · have hk : k = 1 ∨ k = 2 ∨ k = 3 ∨ k = 4 ∨ k = 5 ∨ k = 6 ∨ k = 7 ∨ k = 8 ∨ k = 9 := by simp [isB] at h; omega
    clear h
    rcases hk with rfl | rfl | rfl | rfl | rfl | rfl | rfl | rfl | rfl
    · by_cases hx : ((1, 0, 0, 0, 0, (⟨#[]⟩ : ByteArray)) : Nd) = ((1, a, b, lo, hi, nm) : Nd)
      · simp only [Prod.mk.injEq, true_and, and_true] at hx
        obtain ⟨rfl, rfl, rfl, rfl, rfl⟩ := hx
        rw [nodeB_yes1]
        exact nrY1  i hi' w
      · rw [nodeB_no1 a b lo hi nm i hx]
        exact nrN1 a b lo hi nm i w hx
    · by_cases hx : ((2, 0, 0, 0, 0, nm) : Nd) = ((2, a, b, lo, hi, nm) : Nd)
      · simp only [Prod.mk.injEq, true_and, and_true] at hx
        obtain ⟨rfl, rfl, rfl, rfl⟩ := hx
        rw [nodeB_yes2]
        exact nrY2 nm hs i hi' w hkw hg
      · rw [nodeB_no2 a b lo hi nm i hx]
        exact nrN2 a b lo hi nm i w hx
    · by_cases hx : ((3, a, 0, 0, 0, (⟨#[]⟩ : ByteArray)) : Nd) = ((3, a, b, lo, hi, nm) : Nd)
      · simp only [Prod.mk.injEq, true_and, and_true] at hx
        obtain ⟨rfl, rfl, rfl, rfl⟩ := hx
        rw [nodeB_yes3]
        exact nrY3 a i hi' w
      · rw [nodeB_no3 a b lo hi nm i hx]
        exact nrN3 a b lo hi nm i w hx
    · by_cases hx : ((4, a, b, 0, 0, (⟨#[]⟩ : ByteArray)) : Nd) = ((4, a, b, lo, hi, nm) : Nd)
      · simp only [Prod.mk.injEq, true_and, and_true] at hx
        obtain ⟨rfl, rfl, rfl⟩ := hx
        rw [nodeB_yes4]
        exact nrY4 a b i hi' w
      · rw [nodeB_no4 a b lo hi nm i hx]
        exact nrN4 a b lo hi nm i w hx
    · by_cases hx : ((5, a, b, 0, 0, (⟨#[]⟩ : ByteArray)) : Nd) = ((5, a, b, lo, hi, nm) : Nd)
      · simp only [Prod.mk.injEq, true_and, and_true] at hx
        obtain ⟨rfl, rfl, rfl⟩ := hx
        rw [nodeB_yes5]
        exact nrY5 a b i hi' w
      · rw [nodeB_no5 a b lo hi nm i hx]
        exact nrN5 a b lo hi nm i w hx
    · by_cases hx : ((6, a, 0, lo, hi, (⟨#[]⟩ : ByteArray)) : Nd) = ((6, a, b, lo, hi, nm) : Nd)
      · simp only [Prod.mk.injEq, true_and, and_true] at hx
        obtain ⟨rfl, rfl⟩ := hx
        rw [nodeB_yes6]
        exact nrY6 a lo hi i hi' w
      · rw [nodeB_no6 a b lo hi nm i hx]
        exact nrN6 a b lo hi nm i w hx
    · by_cases hx : ((7, a, 0, lo, hi, (⟨#[]⟩ : ByteArray)) : Nd) = ((7, a, b, lo, hi, nm) : Nd)
      · simp only [Prod.mk.injEq, true_and, and_true] at hx
        obtain ⟨rfl, rfl⟩ := hx
        rw [nodeB_yes7]
        exact nrY7 a lo hi i hi' w
      · rw [nodeB_no7 a b lo hi nm i hx]
        exact nrN7 a b lo hi nm i w hx
    · by_cases hx : ((8, a, 0, lo, hi, (⟨#[]⟩ : ByteArray)) : Nd) = ((8, a, b, lo, hi, nm) : Nd)
      · simp only [Prod.mk.injEq, true_and, and_true] at hx
        obtain ⟨rfl, rfl⟩ := hx
        rw [nodeB_yes8]
        exact nrY8 a lo hi i hi' w
      · rw [nodeB_no8 a b lo hi nm i hx]
        exact nrN8 a b lo hi nm i w hx
    · by_cases hx : ((9, a, b, lo, hi, (⟨#[]⟩ : ByteArray)) : Nd) = ((9, a, b, lo, hi, nm) : Nd)
      · simp only [Prod.mk.injEq, true_and, and_true] at hx
        obtain rfl := hx
        rw [nodeB_yes9]
        exact nrY9 a b lo hi i hi' w
      · rw [nodeB_no9 a b lo hi nm i hx]
        exact nrN9 a b lo hi nm i w hx
  · rw [node_kind (k, a, b, lo, hi, nm) i h]
    exact nr_bad k a b lo hi nm i w h
end Go.Proofs.YtagklhfejbdkdaaDoor
