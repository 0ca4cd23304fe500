/-
  Plain facts on formulas: nodes, the order in which they are come to, when a row of nodes is right.
-/
import Derived.Test.YtagklhfejbdkdaaDoorWord
import Derived.Test.YtagklhfejbdkdaaDoorSmP
namespace Go.Proofs.YtagklhfejbdkdaaDoor
open Go.RowKit
/-! ### Nodes -/
abbrev Nd := Int × Int × Int × Int × Int × ByteArray
def Nd.k (x : Nd) : Int := x.1
def Nd.a (x : Nd) : Int := x.2.1
def Nd.b (x : Nd) : Int := x.2.2.1
def Nd.lo (x : Nd) : Int := x.2.2.2.1
def Nd.hi (x : Nd) : Int := x.2.2.2.2.1
def Nd.nm (x : Nd) : ByteArray := x.2.2.2.2.2
def nd0 : Nd := (0, 0, 0, 0, 0, ByteArray.empty)
def ndAt (f : List Nd) (i : Nat) : Nd := f.getD i nd0
def armsN (k : Int) : Nat := if k = 3 ∨ k = 6 ∨ k = 7 ∨ k = 8 then 1 else if k = 4 ∨ k = 5 ∨ k = 9 then 2 else 0
def timedB (k : Int) : Bool := decide (6 ≤ k ∧ k ≤ 9)
def walkF (f : List Nd) : Nat → Nat → List Nat → List Nat
  | 0, _, l => l
  | n + 1, i, l =>
    if i ∈ l then l else
    let x := ndAt f i
    let l1 := if 0 < armsN x.k then walkF f n x.a.toNat l else l
    let l2 := if 1 < armsN x.k then walkF f n x.b.toNat l1 else l1
    l2 ++ [i]
/-- What is asked of the places that a node speaks of. -/
def armsOk (x : Nd) (i : Nat) : Prop := (0 < armsN x.k → 0 ≤ x.a ∧ x.a < i) ∧ (1 < armsN x.k → 0 ≤ x.b ∧ x.b < i)
def downTo (f : List Nd) (n : Nat) : Prop := ∀ i, i < n → armsOk (ndAt f i) i

theorem walkF_fuel (f : List Nd) (n : Nat) : ∀ (m i : Nat) (l : List Nat), downTo f (i + 1) → i < n → i < m → walkF f n i l = walkF f m i l := by
  induction n with
  | zero => intro m i l _ h; omega
  | succ n ih =>
    intro m i l hd h1 h2
    obtain ⟨m, rfl⟩ : ∃ q, m = q + 1 := ⟨m - 1, by omega⟩
    simp only [walkF]
    by_cases hi : i ∈ l
    · simp [hi]
    · simp only [hi, if_false]
      have hx := hd i (by omega)
      have ha : 0 < armsN (ndAt f i).k → ∀ l, walkF f n (ndAt f i).a.toNat l = walkF f m (ndAt f i).a.toNat l := fun h l => by
        have := hx.1 h
        exact ih m _ l (fun j hj => hd j (by omega)) (by omega) (by omega)
      have hb : 1 < armsN (ndAt f i).k → ∀ l, walkF f n (ndAt f i).b.toNat l = walkF f m (ndAt f i).b.toNat l := fun h l => by
        have := hx.2 h
        exact ih m _ l (fun j hj => hd j (by omega)) (by omega) (by omega)
      by_cases h0 : 0 < armsN (ndAt f i).k <;> by_cases h1' : 1 < armsN (ndAt f i).k
      · simp only [h0, h1', if_true]; rw [ha h0, hb h1']
      · simp only [h0, h1', if_true, if_false]; rw [ha h0]
      · omega
      · simp only [h0, h1', if_false]

/-- The walk only puts behind: what it puts is at most i, new, and i is there in the end. -/
theorem walkF_grows (f : List Nd) (n : Nat) : ∀ (i : Nat) (l : List Nat), downTo f (i + 1) → i < n →
    (∃ t, walkF f n i l = l ++ t ∧ (∀ j ∈ t, j ≤ i)) ∧ i ∈ walkF f n i l := by
  induction n with
  | zero => intro i l _ h; omega
  | succ n ih =>
    intro i l hd h1
    simp only [walkF]
    by_cases hi : i ∈ l
    · simp only [hi, if_true]; exact ⟨⟨[], by simp, by simp⟩, trivial⟩
    · simp only [hi, if_false]
      have hx := hd i (by omega)
      have step : ∀ l1 : List Nat, (∃ t, l1 = l ++ t ∧ ∀ j ∈ t, j ≤ i) → ∃ t, (if 1 < armsN (ndAt f i).k then walkF f n (ndAt f i).b.toNat l1 else l1) = l ++ t ∧ ∀ j ∈ t, j ≤ i := by
        rintro l1 ⟨t, rfl, ht⟩
        by_cases h : 1 < armsN (ndAt f i).k
        · have := hx.2 h
          obtain ⟨⟨t', e, ht'⟩, _⟩ := ih (ndAt f i).b.toNat (l ++ t) (fun j hj => hd j (by omega)) (by omega)
          refine ⟨t ++ t', by simp only [h, if_true]; rw [e, List.append_assoc], fun j hj => ?_⟩
          rcases List.mem_append.1 hj with h' | h'
          · exact ht j h'
          · have := ht' j h'; omega
        · exact ⟨t, by simp [h], ht⟩
      have first : ∃ t, (if 0 < armsN (ndAt f i).k then walkF f n (ndAt f i).a.toNat l else l) = l ++ t ∧ ∀ j ∈ t, j ≤ i := by
        by_cases h : 0 < armsN (ndAt f i).k
        · have := hx.1 h
          obtain ⟨⟨t', e, ht'⟩, _⟩ := ih (ndAt f i).a.toNat l (fun j hj => hd j (by omega)) (by omega)
          exact ⟨t', by simp only [h, if_true]; exact e, fun j hj => by have := ht' j hj; omega⟩
        · exact ⟨[], by simp [h], by simp⟩
      obtain ⟨t, e, ht⟩ := step _ first
      refine ⟨⟨t ++ [i], ?_, ?_⟩, by simp⟩
      · rw [e, List.append_assoc]
      · intro j hj
        rcases List.mem_append.1 hj with h' | h'
        · exact ht j h'
        · simp at h'; omega
theorem walkF_nodup (f : List Nd) (n : Nat) : ∀ (i : Nat) (l : List Nat), downTo f (i + 1) → i < n → l.Nodup → (walkF f n i l).Nodup := by
  induction n with
  | zero => intro i l _ h; omega
  | succ n ih =>
    intro i l hd h1 hl
    simp only [walkF]
    by_cases hi : i ∈ l
    · simp only [hi, if_true]; exact hl
    · simp only [hi, if_false]
      have hx := hd i (by omega)
      have hA : (if 0 < armsN (ndAt f i).k then walkF f n (ndAt f i).a.toNat l else l).Nodup ∧ i ∉ (if 0 < armsN (ndAt f i).k then walkF f n (ndAt f i).a.toNat l else l) := by
        by_cases h : 0 < armsN (ndAt f i).k
        · have := hx.1 h
          simp only [h, if_true]
          refine ⟨ih _ l (fun j hj => hd j (by omega)) (by omega) hl, ?_⟩
          obtain ⟨⟨t', e, ht'⟩, _⟩ := walkF_grows f n (ndAt f i).a.toNat l (fun j hj => hd j (by omega)) (by omega)
          rw [e]; intro hm
          rcases List.mem_append.1 hm with h' | h'
          · exact hi h'
          · have := ht' i h'; omega
        · simp only [h, if_false]; exact ⟨hl, hi⟩
      generalize (if 0 < armsN (ndAt f i).k then walkF f n (ndAt f i).a.toNat l else l) = l1 at hA ⊢
      have hB : (if 1 < armsN (ndAt f i).k then walkF f n (ndAt f i).b.toNat l1 else l1).Nodup ∧ i ∉ (if 1 < armsN (ndAt f i).k then walkF f n (ndAt f i).b.toNat l1 else l1) := by
        by_cases h : 1 < armsN (ndAt f i).k
        · have := hx.2 h
          simp only [h, if_true]
          refine ⟨ih _ l1 (fun j hj => hd j (by omega)) (by omega) hA.1, ?_⟩
          obtain ⟨⟨t', e, ht'⟩, _⟩ := walkF_grows f n (ndAt f i).b.toNat l1 (fun j hj => hd j (by omega)) (by omega)
          rw [e]; intro hm
          rcases List.mem_append.1 hm with h' | h'
          · exact hA.2 h'
          · have := ht' i h'; omega
        · simp only [h, if_false]; exact hA
      rw [List.nodup_append]
      refine ⟨hB.1, by simp, ?_⟩
      intro a ha b hb
      simp at hb; subst hb
      intro e; subst e; exact hB.2 ha
theorem walkF_lt (f : List Nd) (n i m : Nat) (l : List Nat) (hd : downTo f (i + 1)) (h : i < n) (him : i < m) (hl : ∀ j ∈ l, j < m) : ∀ j ∈ walkF f n i l, j < m := by
  obtain ⟨⟨t, e, ht⟩, _⟩ := walkF_grows f n i l hd h
  rw [e]; intro j hj
  rcases List.mem_append.1 hj with h' | h'
  · exact hl j h'
  · have := ht j h'; omega

/-- A list of different numbers below n has at most n. -/
theorem nodup_len (n : Nat) : ∀ l : List Nat, l.Nodup → (∀ j ∈ l, j < n) → l.length ≤ n := by
  induction n with
  | zero => intro l _ h; cases l with | nil => simp | cons a _ => exact absurd (h a (by simp)) (by omega)
  | succ n ih =>
    intro l hd h
    have h1 := ih (l.filter (· ≠ n)) (hd.sublist List.filter_sublist) (fun j hj => by
      have := List.mem_filter.1 hj
      have h2 := h j this.1
      have h3 : j ≠ n := by simpa using this.2
      omega)
    have h2 : l.length ≤ (l.filter (· ≠ n)).length + 1 := by
      clear ih h h1
      induction l with
      | nil => simp
      | cons a l ih =>
        have hd' := List.nodup_cons.1 hd
        by_cases e : a = n
        · subst e
          have : l.filter (· ≠ a) = l := List.filter_eq_self.2 (fun x hx => by
            have : x ≠ a := fun e => hd'.1 (e ▸ hx)
            simpa using this)
          rw [List.filter_cons_of_neg (by simp), this]; simp
        · have := ih hd'.2
          simp [e] at this ⊢
          omega
    omega
/-- Sorted, all different, all below n, n of them: 0 to n - 1. -/
theorem sorted_range (n : Nat) : ∀ l : List Nat, l.Nodup → (∀ j ∈ l, j < n) → l.length = n → l.Pairwise (· ≤ ·) → l = List.range n := by
  induction n with
  | zero => intro l _ _ h _; simpa using h
  | succ n ih =>
    intro l hd h hl hs
    obtain ⟨l', x, rfl⟩ : ∃ l' x, l = l' ++ [x] := ⟨l.dropLast, l.getLast (by intro e; subst e; simp at hl), (List.dropLast_concat_getLast _).symm⟩
    have hd2 := List.nodup_append.1 hd
    have hs2 := List.pairwise_append.1 hs
    have hx := h x (by simp)
    have hl' : l'.length = n := by simpa using hl
    have hlt : ∀ j ∈ l', j < x := fun j hj => by
      have h1 := hs2.2.2 j hj x (by simp)
      have h2 : j ≠ x := hd2.2.2 j hj x (by simp)
      omega
    have hlen := nodup_len x l' hd2.1 hlt
    have hxn : x = n := by omega
    subst hxn
    rw [ih l' hd2.1 hlt hl' hs2.1, List.range_succ]
/-! ### Right -/
def emptyB (s : ByteArray) : Bool := s.toList == []
def nodeB (x : Nd) (i : Nat) : Bool :=
  isB x.k 1 9 &&
  ((if x.k = 2 then wordB x.nm else emptyB x.nm) &&
  ((if 0 < armsN x.k then isB x.a 0 (i - 1) else x.a == 0) &&
  ((if 1 < armsN x.k then isB x.b 0 (i - 1) else x.b == 0) &&
   (if timedB x.k then spanB x.lo x.hi else (x.lo == 0 && x.hi == 0)))))
/-- The first k nodes are right, each by itself, and no two of them are alike. -/
def goodTo (f : List Nd) (k : Nat) : Bool := (List.range k).all fun i => nodeB (ndAt f i) i && (List.range i).all fun j => decide (ndAt f j ≠ ndAt f i)
def rightB (f : List Nd) : Bool := decide (1 ≤ f.length ∧ f.length ≤ 24) && (goodTo f f.length && walkF f f.length (f.length - 1) [] == List.range f.length)
def ndV (x : Nd) : Value := .agg #[.int .i64 x.k, .int .i64 x.a, .int .i64 x.b, .int .i64 x.lo, .int .i64 x.hi, .string x.nm]
/-- One node lies at a place. -/
structure NodeAt (w : World) (b o : Nat) (x : Nd) : Prop where
  c0 : w.cell? ⟨b, o, none⟩ = some (.int .i64 x.k)
  c1 : w.cell? ⟨b, o + 1, none⟩ = some (.int .i64 x.a)
  c2 : w.cell? ⟨b, o + 2, none⟩ = some (.int .i64 x.b)
  c3 : w.cell? ⟨b, o + 3, none⟩ = some (.int .i64 x.lo)
  c4 : w.cell? ⟨b, o + 4, none⟩ = some (.int .i64 x.hi)
  c5 : w.cell? ⟨b, o + 5, none⟩ = some (.string x.nm)
/-- A row of nodes lies in a block. -/
def NodesAt (w : World) (b : Nat) (f : List Nd) : Prop := b < w.heap.size ∧ ∀ i, i < f.length → NodeAt w b (i * 6) (ndAt f i)
theorem NodeAt.below {w w' : World} {B b o : Nat} {x : Nd} (h : NodeAt w b o x) (hb : Below B w w') (hlt : b < B) : NodeAt w' b o x :=
  ⟨(hb.cell (p := ⟨b, _, none⟩) hlt).trans h.c0, (hb.cell (p := ⟨b, _, none⟩) hlt).trans h.c1, (hb.cell (p := ⟨b, _, none⟩) hlt).trans h.c2,
   (hb.cell (p := ⟨b, _, none⟩) hlt).trans h.c3, (hb.cell (p := ⟨b, _, none⟩) hlt).trans h.c4, (hb.cell (p := ⟨b, _, none⟩) hlt).trans h.c5⟩
theorem NodesAt.below {w w' : World} {B b : Nat} {f : List Nd} (h : NodesAt w b f) (hb : Below B w w') (hlt : b < B) : NodesAt w' b f :=
  ⟨Nat.lt_of_lt_of_le h.1 hb.size, fun i hi => (h.2 i hi).below hb hlt⟩
/-- The bounds of the numbers of a node, and of its name. -/
def ndOk (x : Nd) : Prop := (-9223372036854775808 ≤ x.k ∧ x.k ≤ 9223372036854775807) ∧ (-9223372036854775808 ≤ x.a ∧ x.a ≤ 9223372036854775807) ∧ (-9223372036854775808 ≤ x.b ∧ x.b ≤ 9223372036854775807) ∧
  (-9223372036854775808 ≤ x.lo ∧ x.lo ≤ 9223372036854775807) ∧ (-9223372036854775808 ≤ x.hi ∧ x.hi ≤ 9223372036854775807) ∧ x.nm.size ≤ maxLen

theorem goodTo_succ (f : List Nd) (k : Nat) : goodTo f (k + 1) = (goodTo f k && (nodeB (ndAt f k) k && (List.range k).all fun j => decide (ndAt f j ≠ ndAt f k))) := by
  simp [goodTo, List.range_succ]
theorem goodTo_false (f : List Nd) (k m : Nat) (hm : k < m) (h : goodTo f (k + 1) = false) : goodTo f m = false := by
  simp only [goodTo, List.all_eq_false, List.mem_range] at h ⊢
  obtain ⟨x, hx, h⟩ := h
  exact ⟨x, by omega, h⟩
theorem goodTo_at (f : List Nd) (k m : Nat) (hm : k < m) (h : goodTo f m = true) : nodeB (ndAt f k) k = true ∧ ∀ j, j < k → ndAt f j ≠ ndAt f k := by
  simp only [goodTo, List.all_eq_true, List.mem_range] at h
  have := h k hm
  simp only [Bool.and_eq_true, List.all_eq_true, List.mem_range] at this
  exact ⟨this.1, fun j hj => by have := this.2 j hj; simpa using this⟩
theorem nodeB_arms (x : Nd) (i : Nat) (h : nodeB x i = true) : armsOk x i := by
  simp only [nodeB, Bool.and_eq_true] at h
  obtain ⟨_, _, h1, h2, _⟩ := h
  constructor
  · intro h0; rw [if_pos h0] at h1; simp [isB] at h1; omega
  · intro h0; rw [if_pos h0] at h2; simp [isB] at h2; omega
theorem goodTo_down (f : List Nd) (m : Nat) (h : goodTo f m = true) : downTo f m := fun i hi => nodeB_arms _ _ (goodTo_at f i m hi h).1
end Go.Proofs.YtagklhfejbdkdaaDoor
