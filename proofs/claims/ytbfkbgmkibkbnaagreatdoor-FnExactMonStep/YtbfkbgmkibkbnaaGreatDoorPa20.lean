/-
  One node: the program's nodeRight by its contract.
  The program's FormulaRight by its contract.
  What is asked of a row of nodes that came in.
  Monitors: the laws' own helpers over them: szMonitor, toMonitor, eqMonitor, by their contracts.
-/
import Derived.Test.YtbfkbgmkibkbnaaGreatDoorPa16
import Derived.Test.YtbfkbgmkibkbnaaGreatDoorPa17
import Derived.Test.YtbfkbgmkibkbnaaGreatDoorPa18
import Derived.Test.YtbfkbgmkibkbnaaGreatDoorPa19
import Derived.Test.YtbfkbgmkibkbnaaGreatDoorPa15
import Derived.Test.YtbfkbgmkibkbnaaGreatDoorPa08
import Derived.Test.YtbfkbgmkibkbnaaGreatDoorPa11
namespace Go.Proofs.YtbfkbgmkibkbnaaGreatDoor
open Go.RowKit
set_option linter.unusedVariables false
set_option linter.unusedSimpArgs false
theorem emptyB_eq (s : ByteArray) (h : emptyB s = true) : (⟨#[]⟩ : ByteArray) = s := by
  rw [str_eq]
  simp [emptyB] at h
  rw [h, ByteArray.toList_eq]
theorem emptyB_nil : emptyB (⟨#[]⟩ : ByteArray) = true := by
  simp [emptyB, ByteArray.toList_eq]
theorem nodeB_no1 (a b lo hi : Int) (nm : ByteArray) (i : Nat) (hx : ((1, 0, 0, 0, 0, (⟨#[]⟩ : ByteArray)) : Nd) ≠ ((1, a, b, lo, hi, nm) : Nd)) : nodeB ((1, a, b, lo, hi, nm) : Nd) i = false := by
  rw [Bool.eq_false_iff]
  intro h
  apply hx
  simp [nodeB, Nd.k, Nd.a, Nd.b, Nd.lo, Nd.hi, Nd.nm, show armsN 1 = 0 from by decide, show timedB 1 = false from by decide, show isB 1 1 9 = true from by decide] at h
  simp [h, emptyB_eq nm h.1]
theorem nodeB_yes1 (i : Nat) : nodeB ((1, 0, 0, 0, 0, (⟨#[]⟩ : ByteArray)) : Nd) i = true := by
  simp [nodeB, Nd.k, Nd.a, Nd.b, Nd.lo, Nd.hi, Nd.nm, show armsN 1 = 0 from by decide, show timedB 1 = false from by decide, show isB 1 1 9 = true from by decide, emptyB_nil]
theorem nodeB_no2 (a b lo hi : Int) (nm : ByteArray) (i : Nat) (hx : ((2, 0, 0, 0, 0, nm) : Nd) ≠ ((2, a, b, lo, hi, nm) : Nd)) : nodeB ((2, a, b, lo, hi, nm) : Nd) i = false := by
  rw [Bool.eq_false_iff]
  intro h
  apply hx
  simp [nodeB, Nd.k, Nd.a, Nd.b, Nd.lo, Nd.hi, Nd.nm, show armsN 2 = 0 from by decide, show timedB 2 = false from by decide, show isB 2 1 9 = true from by decide] at h
  simp [h]
theorem nodeB_yes2 (nm : ByteArray) (i : Nat) : nodeB ((2, 0, 0, 0, 0, nm) : Nd) i = wordB nm := by
  simp [nodeB, Nd.k, Nd.a, Nd.b, Nd.lo, Nd.hi, Nd.nm, show armsN 2 = 0 from by decide, show timedB 2 = false from by decide, show isB 2 1 9 = true from by decide, emptyB_nil]
theorem nodeB_no3 (a b lo hi : Int) (nm : ByteArray) (i : Nat) (hx : ((3, a, 0, 0, 0, (⟨#[]⟩ : ByteArray)) : Nd) ≠ ((3, a, b, lo, hi, nm) : Nd)) : nodeB ((3, a, b, lo, hi, nm) : Nd) i = false := by
  rw [Bool.eq_false_iff]
  intro h
  apply hx
  simp [nodeB, Nd.k, Nd.a, Nd.b, Nd.lo, Nd.hi, Nd.nm, show armsN 3 = 1 from by decide, show timedB 3 = false from by decide, show isB 3 1 9 = true from by decide] at h
  simp [h, emptyB_eq nm h.1]
theorem nodeB_yes3 (a : Int) (i : Nat) : nodeB ((3, a, 0, 0, 0, (⟨#[]⟩ : ByteArray)) : Nd) i = isB a 0 (i - 1) := by
  simp [nodeB, Nd.k, Nd.a, Nd.b, Nd.lo, Nd.hi, Nd.nm, show armsN 3 = 1 from by decide, show timedB 3 = false from by decide, show isB 3 1 9 = true from by decide, emptyB_nil]
theorem nodeB_no4 (a b lo hi : Int) (nm : ByteArray) (i : Nat) (hx : ((4, a, b, 0, 0, (⟨#[]⟩ : ByteArray)) : Nd) ≠ ((4, a, b, lo, hi, nm) : Nd)) : nodeB ((4, a, b, lo, hi, nm) : Nd) i = false := by
  rw [Bool.eq_false_iff]
  intro h
  apply hx
  simp [nodeB, Nd.k, Nd.a, Nd.b, Nd.lo, Nd.hi, Nd.nm, show armsN 4 = 2 from by decide, show timedB 4 = false from by decide, show isB 4 1 9 = true from by decide] at h
  simp [h, emptyB_eq nm h.1]
theorem nodeB_yes4 (a b : Int) (i : Nat) : nodeB ((4, a, b, 0, 0, (⟨#[]⟩ : ByteArray)) : Nd) i = (isB a 0 (i - 1) && isB b 0 (i - 1)) := by
  simp [nodeB, Nd.k, Nd.a, Nd.b, Nd.lo, Nd.hi, Nd.nm, show armsN 4 = 2 from by decide, show timedB 4 = false from by decide, show isB 4 1 9 = true from by decide, emptyB_nil, Bool.and_assoc]
theorem nodeB_no5 (a b lo hi : Int) (nm : ByteArray) (i : Nat) (hx : ((5, a, b, 0, 0, (⟨#[]⟩ : ByteArray)) : Nd) ≠ ((5, a, b, lo, hi, nm) : Nd)) : nodeB ((5, a, b, lo, hi, nm) : Nd) i = false := by
  rw [Bool.eq_false_iff]
  intro h
  apply hx
  simp [nodeB, Nd.k, Nd.a, Nd.b, Nd.lo, Nd.hi, Nd.nm, show armsN 5 = 2 from by decide, show timedB 5 = false from by decide, show isB 5 1 9 = true from by decide] at h
  simp [h, emptyB_eq nm h.1]
theorem nodeB_yes5 (a b : Int) (i : Nat) : nodeB ((5, a, b, 0, 0, (⟨#[]⟩ : ByteArray)) : Nd) i = (isB a 0 (i - 1) && isB b 0 (i - 1)) := by
  simp [nodeB, Nd.k, Nd.a, Nd.b, Nd.lo, Nd.hi, Nd.nm, show armsN 5 = 2 from by decide, show timedB 5 = false from by decide, show isB 5 1 9 = true from by decide, emptyB_nil, Bool.and_assoc]
theorem nodeB_no6 (a b lo hi : Int) (nm : ByteArray) (i : Nat) (hx : ((6, a, 0, lo, hi, (⟨#[]⟩ : ByteArray)) : Nd) ≠ ((6, a, b, lo, hi, nm) : Nd)) : nodeB ((6, a, b, lo, hi, nm) : Nd) i = false := by
  rw [Bool.eq_false_iff]
  intro h
  apply hx
  simp [nodeB, Nd.k, Nd.a, Nd.b, Nd.lo, Nd.hi, Nd.nm, show armsN 6 = 1 from by decide, show timedB 6 = true from by decide, show isB 6 1 9 = true from by decide] at h
  simp [h, emptyB_eq nm h.1]
theorem nodeB_yes6 (a lo hi : Int) (i : Nat) : nodeB ((6, a, 0, lo, hi, (⟨#[]⟩ : ByteArray)) : Nd) i = (isB a 0 (i - 1) && spanB lo hi) := by
  simp [nodeB, Nd.k, Nd.a, Nd.b, Nd.lo, Nd.hi, Nd.nm, show armsN 6 = 1 from by decide, show timedB 6 = true from by decide, show isB 6 1 9 = true from by decide, emptyB_nil]
theorem nodeB_no7 (a b lo hi : Int) (nm : ByteArray) (i : Nat) (hx : ((7, a, 0, lo, hi, (⟨#[]⟩ : ByteArray)) : Nd) ≠ ((7, a, b, lo, hi, nm) : Nd)) : nodeB ((7, a, b, lo, hi, nm) : Nd) i = false := by
  rw [Bool.eq_false_iff]
  intro h
  apply hx
  simp [nodeB, Nd.k, Nd.a, Nd.b, Nd.lo, Nd.hi, Nd.nm, show armsN 7 = 1 from by decide, show timedB 7 = true from by decide, show isB 7 1 9 = true from by decide] at h
  simp [h, emptyB_eq nm h.1]
theorem nodeB_yes7 (a lo hi : Int) (i : Nat) : nodeB ((7, a, 0, lo, hi, (⟨#[]⟩ : ByteArray)) : Nd) i = (isB a 0 (i - 1) && spanB lo hi) := by
  simp [nodeB, Nd.k, Nd.a, Nd.b, Nd.lo, Nd.hi, Nd.nm, show armsN 7 = 1 from by decide, show timedB 7 = true from by decide, show isB 7 1 9 = true from by decide, emptyB_nil]
theorem nodeB_no8 (a b lo hi : Int) (nm : ByteArray) (i : Nat) (hx : ((8, a, 0, lo, hi, (⟨#[]⟩ : ByteArray)) : Nd) ≠ ((8, a, b, lo, hi, nm) : Nd)) : nodeB ((8, a, b, lo, hi, nm) : Nd) i = false := by
  rw [Bool.eq_false_iff]
  intro h
  apply hx
  simp [nodeB, Nd.k, Nd.a, Nd.b, Nd.lo, Nd.hi, Nd.nm, show armsN 8 = 1 from by decide, show timedB 8 = true from by decide, show isB 8 1 9 = true from by decide] at h
  simp [h, emptyB_eq nm h.1]
theorem nodeB_yes8 (a lo hi : Int) (i : Nat) : nodeB ((8, a, 0, lo, hi, (⟨#[]⟩ : ByteArray)) : Nd) i = (isB a 0 (i - 1) && spanB lo hi) := by
  simp [nodeB, Nd.k, Nd.a, Nd.b, Nd.lo, Nd.hi, Nd.nm, show armsN 8 = 1 from by decide, show timedB 8 = true from by decide, show isB 8 1 9 = true from by decide, emptyB_nil]
theorem nodeB_no9 (a b lo hi : Int) (nm : ByteArray) (i : Nat) (hx : ((9, a, b, lo, hi, (⟨#[]⟩ : ByteArray)) : Nd) ≠ ((9, a, b, lo, hi, nm) : Nd)) : nodeB ((9, a, b, lo, hi, nm) : Nd) i = false := by
  rw [Bool.eq_false_iff]
  intro h
  apply hx
  simp [nodeB, Nd.k, Nd.a, Nd.b, Nd.lo, Nd.hi, Nd.nm, show armsN 9 = 2 from by decide, show timedB 9 = true from by decide, show isB 9 1 9 = true from by decide] at h
  simp [h, emptyB_eq nm h.1]
theorem nodeB_yes9 (a b lo hi : Int) (i : Nat) : nodeB ((9, a, b, lo, hi, (⟨#[]⟩ : ByteArray)) : Nd) i = ((isB a 0 (i - 1) && isB b 0 (i - 1)) && spanB lo hi) := by
  simp [nodeB, Nd.k, Nd.a, Nd.b, Nd.lo, Nd.hi, Nd.nm, show armsN 9 = 2 from by decide, show timedB 9 = true from by decide, show isB 9 1 9 = true from by decide, emptyB_nil, Bool.and_assoc]
set_option maxRecDepth 20000 in
set_option maxHeartbeats 1000000 in
theorem nr_bad (k a b lo hi : Int) (nm : ByteArray) (i : Nat) (w : World) (h : isB k 1 9 = false) :
    Calls Tryz.prog 84 #[.agg #[.int .i64 k, .int .i64 a, .int .i64 b, .int .i64 lo, .int .i64 hi, .string nm], .int .i64 i] w fun e w' => e = .returned (.bool false) ∧ Below w.heap.size w w' := by
  have HI := hide h
  clear h
  have hnil : ∀ w : World, Sem.run Tryz.prog (binOp .eql 164 .nilIface .nilIface) w = .ok (.bool true) w := fun _ => by kernel_rfl
  go_enter Tryz.func84, Tryz.ntmps84
  go_wp2_with (go_at_call 115; refine (form_bad _ _ _ _ _ _ _ HI.out).mono ?_; rintro e w1 ⟨rfl, hb1⟩; have HB1 : Hid (Below w.heap.size w w1) := ((Below.refl _ _).alloc (Nat.le_refl _) _).trans (hb1.mono (by simp)); clear hb1)
  go_quiet (fail)
  go_wp2
  go_ret
  exact ⟨rfl, below_drewN HB1.out _⟩
theorem implNode_any (x : Nd) (hs : x.nm.size ≤ maxLen) (i : Nat) (hi' : i < 1000) (w : World) (hkw : Kw w) (hg : 1 < w.heap.size) :
    Calls Tryz.prog 84 #[ndV x, .int .i64 i] w fun e w' => e = .returned (.bool (nodeB x i)) ∧ Below w.heap.size w w' := by
  obtain ⟨k, a, b, lo, hi, nm⟩ := x
  show Calls Tryz.prog 84 #[.agg #[.int .i64 k, .int .i64 a, .int .i64 b, .int .i64 lo, .int .i64 hi, .string nm], .int .i64 i] w _
  rcases Bool.eq_false_or_eq_true (isB k 1 9) with h | h
  · have hk : k = 1 ∨ k = 2 ∨ k = 3 ∨ k = 4 ∨ k = 5 ∨ k = 6 ∨ k = 7 ∨ k = 8 ∨ k = 9 := by simp [isB] at h; omega
    clear h
    rcases hk with rfl | rfl | rfl | rfl | rfl | rfl | rfl | rfl | rfl
    · by_cases hx : ((1, 0, 0, 0, 0, (⟨#[]⟩ : ByteArray)) : Nd) = ((1, a, b, lo, hi, nm) : Nd)
      · simp only [Prod.mk.injEq, true_and, and_true] at hx
        obtain ⟨rfl, rfl, rfl, rfl, rfl⟩ := hx
        rw [nodeB_yes1]
        exact nrY1  i hi' w
      · rw [nodeB_no1 a b lo hi nm i hx]
        exact nrN1 a b lo hi nm i w hx
    · by_cases hx : ((2, 0, 0, 0, 0, nm) : Nd) = ((2, a, b, lo, hi, nm) : Nd)
      · simp only [Prod.mk.injEq, true_and, and_true] at hx
        obtain ⟨rfl, rfl, rfl, rfl⟩ := hx
        rw [nodeB_yes2]
        exact nrY2 nm hs i hi' w hkw hg
      · rw [nodeB_no2 a b lo hi nm i hx]
        exact nrN2 a b lo hi nm i w hx
    · by_cases hx : ((3, a, 0, 0, 0, (⟨#[]⟩ : ByteArray)) : Nd) = ((3, a, b, lo, hi, nm) : Nd)
      · simp only [Prod.mk.injEq, true_and, and_true] at hx
        obtain ⟨rfl, rfl, rfl, rfl⟩ := hx
        rw [nodeB_yes3]
        exact nrY3 a i hi' w
      · rw [nodeB_no3 a b lo hi nm i hx]
        exact nrN3 a b lo hi nm i w hx
    · by_cases hx : ((4, a, b, 0, 0, (⟨#[]⟩ : ByteArray)) : Nd) = ((4, a, b, lo, hi, nm) : Nd)
      · simp only [Prod.mk.injEq, true_and, and_true] at hx
        obtain ⟨rfl, rfl, rfl⟩ := hx
        rw [nodeB_yes4]
        exact nrY4 a b i hi' w
      · rw [nodeB_no4 a b lo hi nm i hx]
        exact nrN4 a b lo hi nm i w hx
    · by_cases hx : ((5, a, b, 0, 0, (⟨#[]⟩ : ByteArray)) : Nd) = ((5, a, b, lo, hi, nm) : Nd)
      · simp only [Prod.mk.injEq, true_and, and_true] at hx
        obtain ⟨rfl, rfl, rfl⟩ := hx
        rw [nodeB_yes5]
        exact nrY5 a b i hi' w
      · rw [nodeB_no5 a b lo hi nm i hx]
        exact nrN5 a b lo hi nm i w hx
    · by_cases hx : ((6, a, 0, lo, hi, (⟨#[]⟩ : ByteArray)) : Nd) = ((6, a, b, lo, hi, nm) : Nd)
      · simp only [Prod.mk.injEq, true_and, and_true] at hx
        obtain ⟨rfl, rfl⟩ := hx
        rw [nodeB_yes6]
        exact nrY6 a lo hi i hi' w
      · rw [nodeB_no6 a b lo hi nm i hx]
        exact nrN6 a b lo hi nm i w hx
    · by_cases hx : ((7, a, 0, lo, hi, (⟨#[]⟩ : ByteArray)) : Nd) = ((7, a, b, lo, hi, nm) : Nd)
      · simp only [Prod.mk.injEq, true_and, and_true] at hx
        obtain ⟨rfl, rfl⟩ := hx
        rw [nodeB_yes7]
        exact nrY7 a lo hi i hi' w
      · rw [nodeB_no7 a b lo hi nm i hx]
        exact nrN7 a b lo hi nm i w hx
    · by_cases hx : ((8, a, 0, lo, hi, (⟨#[]⟩ : ByteArray)) : Nd) = ((8, a, b, lo, hi, nm) : Nd)
      · simp only [Prod.mk.injEq, true_and, and_true] at hx
        obtain ⟨rfl, rfl⟩ := hx
        rw [nodeB_yes8]
        exact nrY8 a lo hi i hi' w
      · rw [nodeB_no8 a b lo hi nm i hx]
        exact nrN8 a b lo hi nm i w hx
    · by_cases hx : ((9, a, b, lo, hi, (⟨#[]⟩ : ByteArray)) : Nd) = ((9, a, b, lo, hi, nm) : Nd)
      · simp only [Prod.mk.injEq, true_and, and_true] at hx
        obtain rfl := hx
        rw [nodeB_yes9]
        exact nrY9 a b lo hi i hi' w
      · rw [nodeB_no9 a b lo hi nm i hx]
        exact nrN9 a b lo hi nm i w hx
  · rw [node_kind (k, a, b, lo, hi, nm) i h]
    exact nr_bad k a b lo hi nm i w h
end Go.Proofs.YtbfkbgmkibkbnaaGreatDoor
namespace Go.Proofs.YtbfkbgmkibkbnaaGreatDoor
open Go.RowKit
set_option linter.unusedVariables false
set_option linter.unusedSimpArgs false
theorem ndAt_take (f : List Nd) (k j : Nat) (h : j < k) : ndAt (f.take k) j = ndAt f j := by
  simp [ndAt, List.getD, List.getElem?_take, h]
theorem take_ndAt (f : List Nd) (k : Nat) (h : k < f.length) : f.take (k + 1) = f.take k ++ [ndAt f k] := by
  rw [List.take_succ_eq_append_getElem h]
  simp [ndAt, List.getD, h]
theorem upFrom_pair (l : List Nat) : upFrom l 0 ↔ l.Pairwise (· ≤ ·) := by
  constructor
  · intro h
    rw [List.pairwise_iff_getElem]
    intro i j hi hj hij
    have key : ∀ d, ∀ i, i + d < l.length → l.getD i 0 ≤ l.getD (i + d) 0 := by
      intro d
      induction d with
      | zero => intro i hi; exact Nat.le_refl _
      | succ d ih => intro i hi; exact Nat.le_trans (ih i (by omega)) (h (i + d) (Nat.zero_le _) (by omega))
    have := key (j - i) i (by omega)
    rw [show i + (j - i) = j by omega] at this
    simpa [List.getD, hi, hj] using this
  · intro h j _ hj
    have := (List.pairwise_iff_getElem.1 h) j (j + 1) (by omega) hj (by omega)
    simpa [List.getD, hj, show j < l.length by omega] using this
theorem range_sorted (n : Nat) : (List.range n).Pairwise (· ≤ ·) := List.pairwise_le_range
theorem range_bool (l : List Nat) (n : Nat) (hd : l.Nodup) (hlt : ∀ j ∈ l, j < n) (r : Bool) (hr : r = true ↔ upFrom l 0) : (l == List.range n) = (((l.length : Int) == (n : Int)) && r) := by
  rw [Bool.eq_iff_iff]
  simp only [beq_iff_eq, Bool.and_eq_true]
  constructor
  · intro e
    rw [hr, upFrom_pair]
    exact ⟨by rw [e]; simp, e ▸ range_sorted n⟩
  · rintro ⟨h1, h2⟩
    exact sorted_range n l hd hlt (by omega) ((upFrom_pair l).1 (hr.1 h2))
theorem goodTo_kind (f : List Nd) (n : Nat) (h : goodTo f n = true) : ∀ i, i < n → isB (ndAt f i).k 1 9 = true := fun i hi => by
  have := (goodTo_at f i n hi h).1
  simp only [nodeB, Bool.and_eq_true] at this
  exact this.1
theorem find_dup (f : List Nd) (k : Nat) (hg : goodTo f k = true) : (∃ j, j < k ∧ ndAt f j = ndAt f k ∧ ∀ i, j < i → i < k → ndAt f i ≠ ndAt f k) ∨ ∀ j, j < k → ndAt f j ≠ ndAt f k := by
  by_cases h : ∃ j, j < k ∧ ndAt f j = ndAt f k
  · obtain ⟨j, hj, e⟩ := h
    refine Or.inl ⟨j, hj, e, fun i h1 h2 e2 => ?_⟩
    exact (goodTo_at f i k h2 hg).2 j h1 (e.trans e2.symm)
  · exact Or.inr fun j hj e => h ⟨j, hj, e⟩
set_option maxRecDepth 20000 in
set_option maxHeartbeats 4000000 in
theorem implRight_any (f : List Nd) (b cap : Nat) (w : World) (hN : NodesAt w b f) (hok : ∀ i, i < f.length → ndOk (ndAt f i)) (hlen : f.length ≤ maxLen) (hkw : Kw w) (hg : 1 < w.heap.size) :
    Calls Tryz.prog 44 #[.slice (some ⟨b, 0, none⟩) f.length cap] w fun e w' => e = .returned (.bool (rightB f)) ∧ Below w.heap.size w w' := by
  unfold maxLen at hlen
  have HK := hid hkw
  clear hkw
  by_cases h1 : f.length < 1
  · have HR : Hid (rightB f = false) := rightB_len f (by omega)
    clear hN hok
    go_enter Tryz.func44, Tryz.ntmps44
    go_wp2
    go_ret
    exact ⟨ret_bool HR.out.symm, Below.refl _ _⟩
  by_cases h2 : 24 < f.length
  · have HR : Hid (rightB f = false) := rightB_len f (by omega)
    clear hN hok
    go_enter Tryz.func44, Tryz.ntmps44
    go_wp2
    go_ret
    exact ⟨ret_bool HR.out.symm, Below.refl _ _⟩
  have HN := hid hN
  have HOK := hid hok
  have hb := hN.1
  have hnn : ∀ w : World, Sem.run Tryz.prog (binOp .neq 123 .nilIface .nilIface) w = .ok (.bool false) w := fun _ => by kernel_rfl
  clear hN hok
  go_enter Tryz.func44, Tryz.ntmps44
  go_wp2_with (go_at_call 82; refine (newStore_any _).mono ?_; rintro e w0 ⟨sb, mb, rfl, hs1, hs2, hS0, hb0⟩; have HS0 := hid hS0; have HB0 := hid hb0; clear hS0 hb0)
  go_loopw [21] (fun t wr => ∃ k : Nat, k ≤ f.length ∧ t = .int .i64 k ∧ goodTo f k = true ∧ (∃ v, StoreAt wr sb mb w0.heap.size v (f.take k)) ∧ Below w.heap.size w wr) (fun t _ => f.length - (intOf t).toNat)
  case atStart => exact ⟨0, Nat.zero_le _, rfl, rfl, ⟨_, HS0.out⟩, HB0.out⟩
  case round =>
    clear HS0 HB0
    obtain ⟨k, hk, rfl, hgd, ⟨v, hS⟩, hbel⟩ := hrel
    have HG := hid hgd
    have HB := hid hbel
    have hsz := hbel.size
    clear hgd
    have hNr := HN.out.below hbel hb
    have HNr := hid hNr
    have HKr := hid (HK.out.below hbel hg)
    clear hbel hNr
    by_cases hlt : k < f.length
    · have htl : (f.take k).length = k := by simp; omega
      have HS := hid hS
      have hwz := hS.ltb
      have hsb := hS.lts
      have hmb := hS.ltm
      clear hS
      obtain ⟨c0, c1, c2, c3, c4, c5⟩ := HNr.out.2 k hlt
      have HX := hid (HOK.out k hlt)
      have HSA := hid (HS.out.save (S := fun _ => False) ((Save.refl wr _).alloc (.cells #[.int .i64 (ndAt f k).k, .int .i64 (ndAt f k).a, .int .i64 (ndAt f k).b, .int .i64 (ndAt f k).lo, .int .i64 (ndAt f k).hi, .string (ndAt f k).nm] 81)) (fun _ _ h => h))
      have HBX := hid (box_node wr (ndAt f k) 81)
      rcases find_dup f k HG.out with ⟨j, hj, hje, hju⟩ | hno
      · have HR := hid (rightB_good f k hlt (goodTo_alike f k j hj hje))
        have HC := hid (add_old (ndAt f k) HX.out (f.take k) sb mb w0.heap.size v _ HSA.out j (by omega) (by rw [ndAt_take f k j hj]; exact hje) (fun i h1 h2 => by rw [htl] at h2; rw [ndAt_take f k i h2]; exact hju i h1 h2))
        have hjk : ((j : Int) != (k : Int)) = true := by simp; omega
        clear hje hju
        go_wp2_with fail
        refine HC.out.mono ?_
        rintro e w1 ⟨rfl, hb1⟩
        have HB1 := hid hb1
        clear hb1
        go_wp2_with fail
        go_ret
        exact ⟨ret_bool HR.out.symm, (HB.out.alloc hsz _).trans (HB1.out.mono (by simp; omega))⟩
      · have HC := hid (add_new (ndAt f k) HX.out (f.take k) sb mb w0.heap.size v _ HSA.out (by omega) (fun i h2 => by rw [htl] at h2; rw [ndAt_take f k i h2]; exact hno i h2))
        rw [htl] at HC
        have HNO := hid hno
        have hnb : Hid (¬ StoreS sb mb v wr.heap.size) := by
          rintro (e | e | e)
          · omega
          · omega
          · have := (World.ownsRow.lt HS.out.own _ e).2; omega
        clear hno
        go_wp2_with fail
        refine HC.out.mono ?_
        rintro e w1 ⟨rfl, v1, hS1, hv1, ho1⟩
        have HS1 := hid hS1
        have hz1 := hv1.size
        simp at hz1
        have HN1 := hid (hv1.node HBX.out (by simp) hnb.out)
        have HB1 : Hid (Below w.heap.size w w1) := (HB.out.alloc hsz _).trans (hv1.below (by simp; omega) (fun j h => by
          rcases h with rfl | rfl | h
          · exact hs1
          · exact hs2
          · have := (World.ownsRow.lt HS.out.own _ h).1; have := hs1; omega))
        have HK1 := hid (HK.out.below HB1.out hg)
        obtain ⟨d0, d1, d2, d3, d4, d5⟩ := (show NodeAt w1 wr.heap.size 0 ((ndAt f k).k, (ndAt f k).a, (ndAt f k).b, (ndAt f k).lo, (ndAt f k).hi, (ndAt f k).nm) from HN1.out).zero
        clear hS1 hv1 ho1 c0 c1 c2 c3 c4 c5
        rcases Bool.eq_false_or_eq_true (nodeB (ndAt f k) k) with hn | hn
        · have HGN := hid (goodTo_step f k HG.out hn HNO.out)
          go_wp2_with (go_at_call 84; refine (implNode_any (ndAt f k) HX.out.2.2.2.2.2 k (by omega) _ HK1.out (by omega)).mono ?_; rintro e w2 ⟨rfl, hb2⟩; have HB2 := hid hb2; clear hb2)
          go_roundw
          case rel => exact ⟨k + 1, by omega, by go_num, HGN.out, ⟨v1, by rw [take_ndAt f k hlt]; exact HS1.out.save (S := fun _ => False) (Save.of_below HB2.out _ (fun j h1 h2 => by omega)) (fun _ _ h => h)⟩, HB1.out.trans (HB2.out.mono (by omega))⟩
          case measure => simp [intOf]; omega
        · have HR := hid (rightB_good f k hlt (goodTo_node f k hn))
          go_wp2_with (go_at_call 84; refine (implNode_any (ndAt f k) HX.out.2.2.2.2.2 k (by omega) _ HK1.out (by omega)).mono ?_; rintro e w2 ⟨rfl, hb2⟩; have HB2 := hid hb2; clear hb2)
          go_ret
          exact ⟨ret_bool HR.out.symm, HB1.out.trans (HB2.out.mono (by omega))⟩
    · have hk' : k = f.length := by omega
      subst hk'
      have HR := hid (rightB_eq f (by omega) (by omega) HG.out)
      have HD : Hid (downTo f f.length) := goodTo_down f _ HG.out
      have HP : Hid (PlacesOk f (walkF f f.length (f.length - 1) [])) := PlacesOk.walk ⟨List.nodup_nil, fun j h => by cases h⟩ (fun j hj => HD.out j (by omega)) (by omega) (by omega)
      have hwl := HP.out.len
      have HKD := hid (goodTo_kind f _ HG.out)
      clear HG hS
      have hcast : ((f.length : Nat) : Int) - 1 = ((f.length - 1 : Nat) : Int) := by omega
      go_wp2_with fail
      refine (orderOf_any f b cap (f.length - 1) _ HNr.out (by omega) HKD.out (fun j hj => HD.out j (by omega)) (by omega)).mono ?_
      rintro e w1 ⟨v1, rfl, hO1, hb1⟩
      have hz1 := hb1.size
      generalize walkF f f.length (f.length - 1) [] = l at *
      have HO1 := hid hO1
      obtain ⟨a, c, rfl, hform⟩ := hO1.form
      have HB1 := hid (HB.out.trans (hb1.mono hsz))
      clear hO1 hform hb1 hcast
      by_cases hll : l.length = f.length
      · have hbq : (((l.length : Nat) : Int) == ((f.length : Nat) : Int)) = true := by simp [hll]
        clear hll
        go_wp2_with (go_at_call 86; refine (isSorted_any l _ _ _ HO1.out (by omega)).mono ?_; rintro e w2 ⟨r, rfl, hr, hb2⟩; have HRR := hid hr; have HB2 := hid hb2; clear hr hb2)
        have HE : Hid (rightB f = r) := by
          show rightB f = r
          rw [HR.out, range_bool l f.length HP.out.nd HP.out.lt r HRR.out, hbq, Bool.true_and]
        have HZ : Hid (Below w.heap.size w w2) := HB1.out.trans (HB2.out.mono (by have := HB1.out.size; omega))
        go_ret
        exact ⟨ret_bool HE.out.symm, HZ.out⟩
      · have hbq : (((l.length : Nat) : Int) == ((f.length : Nat) : Int)) = false := by simp; omega
        have HR2 : Hid ((l == List.range f.length) = false) := by
          rw [Hid, beq_eq_false_iff_ne]
          intro e; apply hll; rw [e]; simp
        clear hll
        go_wp2_with fail
        go_ret
        exact ⟨ret_bool (by rw [HR.out, HR2.out]), HB1.out⟩
end Go.Proofs.YtbfkbgmkibkbnaaGreatDoor
namespace Go.Proofs.YtbfkbgmkibkbnaaGreatDoor
open Go.RowKit
set_option linter.unusedVariables false
set_option linter.unusedSimpArgs false
/-- What is asked of a row of nodes that came in. -/
structure InN (w : World) (a : Option Addr) (cap : Nat) (f : List Nd) : Prop where
  arg : ArgN w a f
  ok : ∀ i, i < f.length → ndOk (ndAt f i)
  len : f.length ≤ maxLen
theorem ndOk.nm {x : Nd} (h : ndOk x) : x.nm.size ≤ maxLen := h.2.2.2.2.2
end Go.Proofs.YtbfkbgmkibkbnaaGreatDoor
namespace Go.Proofs.YtbfkbgmkibkbnaaGreatDoor
open Go.RowKit
set_option linter.unusedVariables false
set_option linter.unusedSimpArgs false
/-- What a Monitor is handed round as. -/
def moV (fa : Option Addr) (fn fc : Nat) (cnt now : Int) (ca : Option Addr) (cn cc : Nat) : Value := .agg #[.slice fa fn fc, .int .i64 cnt, .int .i64 now, .slice ca cn cc]
/-- A Monitor lies in a box. -/
structure MBox (W : World) (q : Nat) (fa : Option Addr) (fn fc : Nat) (cnt now : Int) (ca : Option Addr) (cn cc : Nat) : Prop where
  lt : q < W.heap.size
  m0 : W.cell? ⟨q, 0, none⟩ = some (.slice fa fn fc)
  m1 : W.cell? ⟨q, 1, none⟩ = some (.int .i64 cnt)
  m2 : W.cell? ⟨q, 2, none⟩ = some (.int .i64 now)
  m3 : W.cell? ⟨q, 3, none⟩ = some (.slice ca cn cc)
theorem MBox.new (w : World) (fa : Option Addr) (fn fc : Nat) (cnt now : Int) (ca : Option Addr) (cn cc : Nat) (t : TypeId) : MBox (w.alloc (.cells #[.slice fa fn fc, .int .i64 cnt, .int .i64 now, .slice ca cn cc] t)) w.heap.size fa fn fc cnt now ca cn cc :=
  ⟨by simp, by simp [go_sem], by simp [go_sem], by simp [go_sem], by simp [go_sem]⟩
theorem MBox.save {W W' : World} {q : Nat} {fa : Option Addr} {fn fc : Nat} {cnt now : Int} {ca : Option Addr} {cn cc : Nat} {S : Nat → Prop} (h : MBox W q fa fn fc cnt now ca cn cc) (hs : Save W W' S) (h1 : ¬ S q) : MBox W' q fa fn fc cnt now ca cn cc :=
  ⟨Nat.lt_of_lt_of_le h.lt hs.size, (hs.cell (p := ⟨q, _, none⟩) h.lt h1).trans h.m0, (hs.cell (p := ⟨q, _, none⟩) h.lt h1).trans h.m1, (hs.cell (p := ⟨q, _, none⟩) h.lt h1).trans h.m2, (hs.cell (p := ⟨q, _, none⟩) h.lt h1).trans h.m3⟩
theorem MBox.on {W W' : World} {q : Nat} {fa : Option Addr} {fn fc : Nat} {cnt now : Int} {ca : Option Addr} {cn cc : Nat} (h : MBox W q fa fn fc cnt now ca cn cc) (hb : Below W.heap.size W W') : MBox W' q fa fn fc cnt now ca cn cc :=
  h.save (S := fun _ => False) (Save.of_below hb _ (fun j h1 h2 => absurd h1 (by omega))) (fun h => h)
structure MFree (W : World) (q : Nat) : Prop where
  g0 : W.frozen? ⟨q, 0, none⟩ = false
  g1 : W.frozen? ⟨q, 1, none⟩ = false
  g2 : W.frozen? ⟨q, 2, none⟩ = false
  g3 : W.frozen? ⟨q, 3, none⟩ = false
theorem MFree.save {W W' : World} {q : Nat} {S : Nat → Prop} (h : MFree W q) (hs : Save W W' S) (hq : q < W.heap.size) (h1 : ¬ S q) : MFree W' q :=
  ⟨(hs.frozen (p := ⟨q, _, none⟩) hq h1).trans h.g0, (hs.frozen (p := ⟨q, _, none⟩) hq h1).trans h.g1, (hs.frozen (p := ⟨q, _, none⟩) hq h1).trans h.g2, (hs.frozen (p := ⟨q, _, none⟩) hq h1).trans h.g3⟩
theorem MFree.on {W W' : World} {q : Nat} (h : MFree W q) (hb : Below W.heap.size W W') (hq : q < W.heap.size) : MFree W' q :=
  h.save (S := fun _ => False) (Save.of_below hb _ (fun j h1 h2 => absurd h1 (by omega))) hq (fun h => h)
theorem MFree.set {W : World} {q : Nat} (h : MFree W q) (a : Addr) (v : Value) : MFree (W.setCell a v) q :=
  ⟨by simpa using h.g0, by simpa using h.g1, by simpa using h.g2, by simpa using h.g3⟩
theorem MFree.new (w : World) (x y z u : Value) (t : TypeId) : MFree (w.alloc (.cells #[x, y, z, u] t)) w.heap.size :=
  ⟨by simp [go_sem], by simp [go_sem], by simp [go_sem], by simp [go_sem]⟩
theorem MBox.set3 {W : World} {q : Nat} {fa : Option Addr} {fn fc : Nat} {cnt now : Int} {ca : Option Addr} {cn cc : Nat} (h : MBox W q fa fn fc cnt now ca cn cc) (fa' : Option Addr) (fn' fc' : Nat) (cnt' now' : Int) : MBox (((W.setCell ⟨q, 0, none⟩ (.slice fa' fn' fc')).setCell ⟨q, 1, none⟩ (.int .i64 cnt')).setCell ⟨q, 2, none⟩ (.int .i64 now')) q fa' fn' fc' cnt' now' ca cn cc :=
  ⟨by simpa using h.lt, by simp [go_sem, h.m0], by simp [go_sem, h.m1], by simp [go_sem, h.m2], by simp [go_sem, h.m3]⟩
/-- Three boxes of a call that makes a Monitor. -/
theorem mon3 (w : World) (o1 : Obj) : MBox (((w.alloc o1).alloc (.cells #[.slice none 0 0, .int .i64 0, .int .i64 0, .slice none 0 0] 34)).alloc (.cells #[.slice none 0 0, .int .i64 0, .int .i64 0, .slice none 0 0] 34)) (w.heap.size + 1) none 0 0 0 0 none 0 0 ∧ MFree (((w.alloc o1).alloc (.cells #[.slice none 0 0, .int .i64 0, .int .i64 0, .slice none 0 0] 34)).alloc (.cells #[.slice none 0 0, .int .i64 0, .int .i64 0, .slice none 0 0] 34)) (w.heap.size + 1) ∧ MBox (((w.alloc o1).alloc (.cells #[.slice none 0 0, .int .i64 0, .int .i64 0, .slice none 0 0] 34)).alloc (.cells #[.slice none 0 0, .int .i64 0, .int .i64 0, .slice none 0 0] 34)) (w.heap.size + 2) none 0 0 0 0 none 0 0 ∧ MFree (((w.alloc o1).alloc (.cells #[.slice none 0 0, .int .i64 0, .int .i64 0, .slice none 0 0] 34)).alloc (.cells #[.slice none 0 0, .int .i64 0, .int .i64 0, .slice none 0 0] 34)) (w.heap.size + 2) := by
  have e1 : w.heap.size + 1 = (w.alloc o1).heap.size := by simp
  have e2 : w.heap.size + 2 = ((w.alloc o1).alloc (.cells #[.slice none 0 0, .int .i64 0, .int .i64 0, .slice none 0 0] 34)).heap.size := by simp
  refine ⟨?_, ?_, ?_, ?_⟩
  · rw [e1]; exact (MBox.new _ _ _ _ _ _ _ _ _ _).on (below_one' _ _)
  · rw [e1]; exact (MFree.new _ _ _ _ _ _).on (below_one' _ _) (by simp)
  · rw [e2]; exact MBox.new _ _ _ _ _ _ _ _ _ _
  · rw [e2]; exact MFree.new _ _ _ _ _ _
theorem gset3 (w : World) (q : Nat) (x y z : Value) : Save w (((w.setCell ⟨q, 0, none⟩ x).setCell ⟨q, 1, none⟩ y).setCell ⟨q, 2, none⟩ z) (fun j => j = q) :=
  Save.setCell (S := fun j => j = q) (Save.setCell (S := fun j => j = q) (Save.setCell (S := fun j => j = q) (Save.refl w _) (p := ⟨q, 0, none⟩) (fun _ => rfl) _) (p := ⟨q, 1, none⟩) (fun _ => rfl) _) (p := ⟨q, 2, none⟩) (fun _ => rfl) _
theorem gset1 (w : World) (q i : Nat) (x : Value) : Save w (w.setCell ⟨q, i, none⟩ x) (fun j => j = q) := Save.setCell (S := fun j => j = q) (Save.refl w _) (p := ⟨q, i, none⟩) (fun _ => rfl) _
theorem gset4 (w : World) (q : Nat) (x y z u : Value) : Save w ((((w.setCell ⟨q, 0, none⟩ x).setCell ⟨q, 1, none⟩ y).setCell ⟨q, 2, none⟩ z).setCell ⟨q, 3, none⟩ u) (fun j => j = q) :=
  Save.setCell (S := fun j => j = q) (gset3 w q x y z) (p := ⟨q, 3, none⟩) (fun _ => rfl) _
theorem CkRow.save {w w' : World} {b : Nat} {C : List Cl} {A : Nat → Nat} {z : Nat → Value} {k : Nat} {S : Nat → Prop} (h : CkRow w b C A z k) (hs : Save w w' S) (h1 : ¬ S b) (h2 : ∀ i, i < k → ¬ S (A i)) : CkRow w' b C A z k :=
  ⟨h.row.of_block (hs.block b h.row.lt h1), fun i hi => World.rowIs.of_block (h.times i hi) (hs.block _ (World.rowIs.lt (h.times i hi)) (h2 i hi)), h.above, h.rising⟩
set_option maxRecDepth 20000 in
set_option maxHeartbeats 1000000 in
theorem szNodeS_le (f : List Nd) (a : Option Addr) (cap : Nat) (hs : ∀ i, i < f.length → (ndAt f i).nm.size ≤ maxLen) (hl : f.length ≤ maxLen) (w : World) (hA : ArgN w a f) :
    Calls Tryz.prog 29 #[.slice a f.length cap, .int .i64 1048576] w fun e w' => ∃ r : Int, e = .returned (.int .i64 r) ∧ -1 ≤ r ∧ r ≤ 1048576 ∧ (0 ≤ r → f.length ≤ 1048576 ∧ ∀ i, i < f.length → (ndAt f i).nm.size ≤ 1048576) ∧ Below w.heap.size w w' := by
  unfold maxLen at hl
  have HS := hid hs
  have HA := hid hA
  clear hs hA
  by_cases h : 1048576 < f.length
  · have h' : (1048576 : Int) - (f.length : Int) < 0 := by omega
    go_enter Tryz.func29, Tryz.ntmps29
    go_wp2
    go_ret
    exact ⟨-1, rfl, by omega, by omega, by omega, Below.refl _ _⟩
  have h' : ¬ (1048576 : Int) - (f.length : Int) < 0 := by omega
  go_enter Tryz.func29, Tryz.ntmps29
  go_wp2_with fail
  go_loopw [1, 5] (fun l t wr => ∃ (k : Nat) (r : Int), k ≤ f.length ∧ t = .int .i64 k ∧ l = .int .i64 r ∧ 0 ≤ r ∧ r ≤ 1048576 ∧ (∀ i, i < k → (ndAt f i).nm.size ≤ 1048576) ∧ Below w.heap.size w wr) (fun _ t _ => f.length - (intOf t).toNat)
  case atStart => exact ⟨0, _, Nat.zero_le _, rfl, rfl, by omega, by omega, fun i h => by omega, Below.refl _ _⟩
  case round =>
    obtain ⟨k, r, hk, rfl, rfl, hr1, hr2, hsz, hbel⟩ := hrel
    have HZ := hid hsz
    have HB := hid hbel
    clear hsz hbel
    by_cases hlt : k < f.length
    · rcases HA.out with h0 | ⟨b, off, rfl, hb, hc⟩
      · omega
      · obtain ⟨c0, c1, c2, c3, c4, c5⟩ := (hc k hlt).below HB.out hb
        clear hc
        have HX := hid (HS.out k hlt)
        have HC := hid (fun w => szNode_any (ndAt f k) HX.out r hr1 hr2 w)
        clear h'
        go_wp2_with (go_at_call 72; refine (HC.out _).mono ?_; rintro e w1 ⟨r', rfl, q1, q2, q3, hb1⟩; have HB1 : Hid (Below w.heap.size w w1) := HB.out.trans (hb1.mono HB.out.size); have HQ := hid q3; clear q3 hb1)
        · go_ret
          exact ⟨-1, rfl, by omega, by omega, by omega, HB1.out⟩
        · go_roundw
          case rel => exact ⟨k + 1, r', by omega, by go_num, rfl, by omega, q2, fun i hi => by
            by_cases e : i = k
            · subst e; exact HQ.out (by omega)
            · exact HZ.out i (by omega), HB1.out⟩
          case measure => simp [intOf]; omega
    · go_wp2_with fail
      go_ret
      exact ⟨r, rfl, by omega, by omega, fun _ => ⟨by omega, fun i hi => HZ.out i (by omega)⟩, HB.out⟩
set_option maxRecDepth 20000 in
set_option maxHeartbeats 2000000 in
theorem szMon_any (f : List Nd) (fa : Option Addr) (fc : Nat) (cnt now : Int) (C : List Cl) (ca : Option Addr) (cc : Nat) (w : World) (hF : InN w fa fc f) (hC : InCs w ca C) :
    Calls Tryz.prog 17 #[moV fa f.length fc cnt now ca C.length cc, .int .i64 1048576] w fun e w' => ∃ r : Int, e = .returned (.int .i64 r) ∧ -1 ≤ r ∧ r ≤ 1048576 ∧ (0 ≤ r → (f.length ≤ 1048576 ∧ ∀ i, i < f.length → (ndAt f i).nm.size ≤ 1048576) ∧ C.length ≤ 1048576 ∧ sumT C C.length ≤ 1048576) ∧ Below w.heap.size w w' := by
  unfold moV
  have HB0 := hid (below_one' w (.cells #[.slice fa f.length fc, .int .i64 cnt, .int .i64 now, .slice ca C.length cc] 49))
  have HX := hid (MBox.new w fa f.length fc cnt now ca C.length cc 49)
  have HN := hid (fun w h => szNodeS_le f fa fc (fun i hi => (hF.ok i hi).nm) hF.len w h)
  have HCS := hid (fun r h1 h2 w h => szCellS_any C ca cc hC.ok hC.len r h1 h2 w h)
  have HF := hid hF.arg
  have HCa := hid hC.arg
  clear hF hC
  go_enter Tryz.func17, Tryz.ntmps17
  go_wp2_with (first | (go_at_call 29; refine (HN.out _ (HF.out.below HB0.out (Nat.le_refl _))).mono ?_; rintro e w1 ⟨r, rfl, q1, q2, q3, hb⟩; have HQ := hid q3; have HB1 := hid (HB0.out.trans (hb.mono (by simp))); obtain ⟨_, m0, m1, m2, m3⟩ := HX.out.on hb; clear q3 hb) | (go_at_call 61; refine (HCS.out r (by omega) (by omega) _ (HCa.out.below HB1.out (Nat.le_refl _))).mono ?_; rintro e w2 ⟨r2, rfl, p1, p2, p3, hb2⟩; have HP := hid p3; have HB2 := hid (HB1.out.trans (hb2.mono HB1.out.size)); clear p3 hb2))
  · go_ret
    exact ⟨-1, rfl, by omega, by omega, by omega, HB1.out⟩
  · go_ret
    exact ⟨-1, rfl, by omega, by omega, by omega, HB2.out⟩
  · go_ret
    exact ⟨r2, rfl, by omega, by omega, fun h => ⟨HQ.out (by omega), HP.out h⟩, HB2.out⟩
set_option maxRecDepth 20000 in
set_option maxHeartbeats 2000000 in
theorem toMon_any (f : List Nd) (fa : Option Addr) (fc : Nat) (cnt now : Int) (C : List Cl) (ca : Option Addr) (cc : Nat) (hl : f.length ≤ 1048576) (hl1 : C.length ≤ 1048576) (hl2 : ∀ i, i < C.length → (clAt C i).ts.length ≤ 1048576) (w : World) (hF : ArgN w fa f) (hC : ArgCs w ca C) :
    Calls Tryz.prog 20 #[moV fa f.length fc cnt now ca C.length cc] w fun e w' => ∃ b c A z, e = .returned (moV (some ⟨b, 0, none⟩) f.length f.length cnt now (some ⟨c, 0, none⟩) C.length C.length) ∧ w.heap.size ≤ b ∧ b < c ∧ NodesAt w' b f ∧ (∃ zn, w'.rowIs b 81 (f.length * 6) zn) ∧ CkRow w' c C A z C.length ∧ Below w.heap.size w w' := by
  unfold moV
  have HB0 := hid ((((Below.refl w.heap.size w).alloc (Nat.le_refl _) (.cells #[.slice fa f.length fc, .int .i64 cnt, .int .i64 now, .slice ca C.length cc] 49)).alloc (by simp) (.cells #[.slice none 0 0, .int .i64 0, .int .i64 0, .slice none 0 0] 34)).alloc (by simp; omega) (.cells #[.slice none 0 0, .int .i64 0, .int .i64 0, .slice none 0 0] 34))
  obtain ⟨x1', g1', x2', g2'⟩ := mon3 w (.cells #[.slice fa f.length fc, .int .i64 cnt, .int .i64 now, .slice ca C.length cc] 49)
  have HX1 := hid x1'
  have HG1 := hid g1'
  have HX2 := hid x2'
  have HG2 := hid g2'
  have HL := hid ((MBox.new w fa f.length fc cnt now ca C.length cc 49).on (bbelow2' _ (.cells #[.slice none 0 0, .int .i64 0, .int .i64 0, .slice none 0 0] 34) (.cells #[.slice none 0 0, .int .i64 0, .int .i64 0, .slice none 0 0] 34)))
  clear x1' g1' x2' g2'
  have HN := hid (fun w h => toNodeS_row f fa fc hl w h)
  have HCS := hid (fun w h => toCellS_any C ca cc hl1 hl2 w h)
  have HF := hid hF
  have HCa := hid hC
  clear hF hC hl2
  go_enter Tryz.func20, Tryz.ntmps20
  go_wp2_with (first | (go_at_call 32; refine (HN.out _ (HF.out.below HB0.out (Nat.le_refl _))).mono ?_; rintro e w1 ⟨b1, rfl, hb1, hn1, hr1, _, hb⟩; have HN1 := hid hn1; have HR1 := hid hr1; have HB1 := hid (HB0.out.trans (hb.mono (by simp; omega))); have X1 := hid (HX1.out.on hb); have G1 := hid (HG1.out.on hb HX1.out.lt); have X2 := hid (HX2.out.on hb); have G2 := hid (HG2.out.on hb HX2.out.lt); have L1 := hid (HL.out.on hb); obtain ⟨hq1, x0, x1, x2, x3⟩ := X2.out; obtain ⟨g0, g1, g2, g3⟩ := G2.out; obtain ⟨hq2, l0, l1, l2, l3⟩ := L1.out; have hz : w.heap.size + 3 ≤ w1.heap.size := (by have := hb.size; simp at this; omega); have hb1' : w.heap.size + 3 ≤ b1 := (by simp at hb1; omega); have hb1z := hn1.1; clear hb hn1 hr1 hb1) | (go_at_call 65; have HS1 := hid (gset3 w1 (w.heap.size + 2) (.slice (some ⟨b1, 0, none⟩) f.length f.length) (.int .i64 cnt) (.int .i64 now)); refine (HCS.out _ (HCa.out.below (HB1.out.trans (HS1.out.below (B := w.heap.size) (by omega) (fun j h => by omega))) (Nat.le_refl _))).mono ?_; rintro e w2 ⟨b2, A2, z2, rfl, hb2, hr2, hbl2⟩; have HR2 := hid hr2; have HB2 := hid hbl2; clear x0 x1 x2 x3 g0 g1 g2 g3 l0 l1 l2 l3 hq1 hq2; obtain ⟨hq1, x0, x1, x2, x3⟩ := (X2.out.set3 (some ⟨b1, 0, none⟩) f.length f.length cnt now).on hbl2; obtain ⟨g0, g1, g2, g3⟩ := (((G2.out.set _ _).set _ _).set _ _).on hbl2 (X2.out.set3 (some ⟨b1, 0, none⟩) f.length f.length cnt now).lt; obtain ⟨hq2, y0, y1, y2, y3⟩ := (X1.out.save HS1.out (by omega)).on hbl2; obtain ⟨f0, f1, f2, f3⟩ := (G1.out.save HS1.out (by omega) (by omega)).on hbl2 (X1.out.save HS1.out (by omega)).lt; have hz2 : w1.heap.size ≤ w2.heap.size := (by have := hbl2.size; simp at this; omega); have hb2' : w1.heap.size ≤ b2 := (by simp at hb2; omega); clear hbl2 hr2 hb2))
  refine bodyPost_ret (v := .agg #[.slice (some ⟨b1, 0, none⟩) f.length f.length, .int .i64 cnt, .int .i64 now, .slice (some ⟨b2, 0, none⟩) C.length C.length]) (by simp [results, Tryz.results20, go_sem, x0, x1, x2, x3, g0, g1, g2, g3, y0, y1, y2, y3, f0, f1, f2, f3]) rfl ?_
  have s2 : Save _ w2 (fun _ => False) := Save.of_below HB2.out (fun _ => False) (fun j h1 h2 => absurd h1 (by omega))
  have s3 := gset1 w2 (w.heap.size + 2) 3 (.slice (some ⟨b2, 0, none⟩) C.length C.length)
  have s4 := gset4 (w2.setCell ⟨w.heap.size + 2, 3, none⟩ (.slice (some ⟨b2, 0, none⟩) C.length C.length)) (w.heap.size + 1) (.slice (some ⟨b1, 0, none⟩) f.length f.length) (.int .i64 cnt) (.int .i64 now) (.slice (some ⟨b2, 0, none⟩) C.length C.length)
  refine ⟨b1, b2, A2, z2, rfl, by omega, by omega, ?_, ?_, ?_, ?_⟩
  · exact s4.nodes (s3.nodes (s2.nodes (HS1.out.nodes HN1.out (by omega)) (fun h => h)) (by omega)) (by omega)
  · obtain ⟨zn, hr⟩ := HR1.out
    have r1 := hr.of_block (HS1.out.block b1 hr.lt (by omega))
    have r2 := r1.of_block (s2.block b1 r1.lt (fun h => h))
    have r3 := r2.of_block (s3.block b1 r2.lt (by omega))
    exact ⟨zn, r3.of_block (s4.block b1 r3.lt (by omega))⟩
  · exact (HR2.out.save s3 (by omega) (fun i hi => by have := HR2.out.above i hi; omega)).save s4 (by omega) (fun i hi => by have := HR2.out.above i hi; omega)
  · have b1 := HB1.out.trans (HS1.out.below (B := w.heap.size) (by omega) (fun j h => by omega))
    have b2 := b1.trans (HB2.out.mono b1.size)
    have b3 := b2.trans (s3.below (B := w.heap.size) b2.size (fun j h => by omega))
    exact b3.trans (s4.below (B := w.heap.size) b3.size (fun j h => by omega))
set_option maxRecDepth 20000 in
set_option maxHeartbeats 2000000 in
theorem eqMon_any (f : List Nd) (b1 b2 d1 d2 : Nat) (cnt now : Int) (C : List Cl) (a1 a2 : Option Addr) (c1 c2 : Nat) (hl : f.length ≤ 1048576) (hl1 : C.length ≤ 1048576) (hl2 : ∀ i, i < C.length → (clAt C i).ts.length ≤ 2000000) (w : World) (n1 : NodesAt w b1 f) (n2 : NodesAt w b2 f) (h1 : CksAt w a1 C) (h2 : CksAt w a2 C) :
    Calls Tryz.prog 23 #[moV (some ⟨b1, 0, none⟩) f.length d1 cnt now a1 C.length c1, moV (some ⟨b2, 0, none⟩) f.length d2 cnt now a2 C.length c2] w fun e w' => e = .returned (.bool true) ∧ Below w.heap.size w w' := by
  unfold moV
  have HB0 := hid (bbelow2' w (.cells #[.slice (some ⟨b1, 0, none⟩) f.length d1, .int .i64 cnt, .int .i64 now, .slice a1 C.length c1] 34) (.cells #[.slice (some ⟨b2, 0, none⟩) f.length d2, .int .i64 cnt, .int .i64 now, .slice a2 C.length c2] 34))
  have N1 := hid (n1.below HB0.out n1.1)
  have N2 := hid (n2.below HB0.out n2.1)
  have H1 := hid (h1.on HB0.out)
  have H2 := hid (h2.on HB0.out)
  have HCS := hid (fun w h1 h2 => eqCellS_any C _ rfl a1 a2 c1 c2 hl1 hl2 w h1 h2)
  clear n1 n2 h1 h2 hl2
  have e1 : (cnt != cnt) = false := by simp
  have e2 : (now != now) = false := by simp
  go_enter Tryz.func23, Tryz.ntmps23
  go_wp2_with (first | (go_at_call 35; refine (eqNodeS_same f b1 b2 d1 d2 hl _ N1.out N2.out).mono ?_; rintro e w1 ⟨rfl, hb⟩; have HB1 := hid (HB0.out.trans (hb.mono (by simp; omega))); have H11 := hid (H1.out.on hb); have H12 := hid (H2.out.on hb); obtain ⟨hc, hf⟩ := bcell hb; have hz : w.heap.size + 2 ≤ w1.heap.size := (by have := hb.size; simp at this; omega); clear hb) | (go_at_call 67; refine (HCS.out _ H11.out H12.out).mono ?_; rintro e w2 ⟨rfl, hb2⟩; have HB2 := hid (HB1.out.trans (hb2.mono HB1.out.size)); clear hb2))
  go_ret
  exact ⟨rfl, HB2.out⟩
end Go.Proofs.YtbfkbgmkibkbnaaGreatDoor
