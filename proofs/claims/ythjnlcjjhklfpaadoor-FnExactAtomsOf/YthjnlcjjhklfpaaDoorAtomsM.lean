/-
  The names of a right formula's atoms: put in order one by one they are what a sort makes of them.
-/
import Derived.Test.YthjnlcjjhklfpaaDoorAtomsS
import Derived.Test.YthjnlcjjhklfpaaDoorEvRight
import Derived.Sort.Walk0
namespace Go.Proofs.YthjnlcjjhklfpaaDoor
open Go.RowKit
set_option linter.unusedVariables false
set_option linter.unusedSimpArgs false
def ltT (a b : ByteArray) : Prop := Op.bytesLess a.toList b.toList = true
theorem less_trans : ∀ a b c : List UInt8, Op.bytesLess a b = true → Op.bytesLess b c = true → Op.bytesLess a c = true
  | _, [], _, h, _ => by simp [less_nil] at h
  | _, _ :: _, [], _, h => by simp [Op.bytesLess] at h
  | [], _ :: _, _ :: _, _, _ => rfl
  | x :: a, y :: b, z :: c, h1, h2 => by
    simp only [Op.bytesLess, Bool.or_eq_true, Bool.and_eq_true, decide_eq_true_eq, beq_iff_eq] at h1 h2 ⊢
    rcases h1 with h1 | ⟨rfl, h1⟩
    · rcases h2 with h2 | ⟨rfl, h2⟩
      · exact Or.inl (UInt8.lt_trans h1 h2)
      · exact Or.inl h1
    · rcases h2 with h2 | ⟨rfl, h2⟩
      · exact Or.inl h2
      · exact Or.inr ⟨rfl, less_trans a b c h1 h2⟩
theorem bytes_ext {a b : ByteArray} (h : a.toList = b.toList) : a = b := by
  rw [ByteArray.toList_eq, ByteArray.toList_eq] at h
  apply ByteArray.ext
  exact Array.toList_inj.1 h
theorem ltT.trans {a b c : ByteArray} (h1 : ltT a b) (h2 : ltT b c) : ltT a c := less_trans _ _ _ h1 h2
theorem ltT.tri {a b : ByteArray} (h : ¬ ltT a b) (hne : a ≠ b) : ltT b a := by
  refine less_tri _ _ (by simpa [ltT] using h) ?_
  rw [beq_eq_false_iff_ne]
  exact fun e => hne (bytes_ext e).symm
theorem low_split (t : ByteArray) : ∀ S : List ByteArray, S.Pairwise ltT → t ∉ S → (∀ x ∈ S.take (lowN t S), ltT x t) ∧ ∀ y ∈ S.drop (lowN t S), ltT t y
  | [], _, _ => by simp [lowN]
  | x :: S, hp, hm => by
    obtain ⟨h1, h2⟩ := List.pairwise_cons.1 hp
    simp only [List.mem_cons, not_or] at hm
    by_cases h : Op.bytesLess x.toList t.toList = true
    · obtain ⟨i1, i2⟩ := low_split t S h2 hm.2
      simp only [lowN, h, if_true, List.take_succ_cons, List.drop_succ_cons]
      refine ⟨fun y hy => ?_, i2⟩
      rcases List.mem_cons.1 hy with rfl | hy
      · exact h
      · exact i1 y hy
    · have hx : ltT t x := ltT.tri h (fun e => hm.1 e.symm)
      simp only [lowN, h]
      refine ⟨by simp, fun y hy => ?_⟩
      have hy' : y ∈ x :: S := by simpa using hy
      rcases List.mem_cons.1 hy' with rfl | hy'
      · exact hx
      · exact hx.trans (h1 y hy')
theorem putN_new (S : List ByteArray) (t : ByteArray) (hp : S.Pairwise ltT) (hm : t ∉ S) : (putN S t).Perm (t :: S) ∧ (putN S t).Pairwise ltT := by
  obtain ⟨h1, h2⟩ := low_split t S hp hm
  have e : putN S t = S.take (lowN t S) ++ [t] ++ S.drop (lowN t S) := by
    unfold putN
    rw [if_neg]
    rintro ⟨hl, he⟩
    apply hm
    rw [← bytes_ext he]
    simp [txAt, List.getD, hl]
  rw [e]
  refine ⟨?_, ?_⟩
  · rw [List.append_assoc]
    refine (List.perm_middle (l₁ := S.take (lowN t S)) (l₂ := S.drop (lowN t S)) (a := t)).trans ?_
    rw [List.take_append_drop]
  · rw [List.append_assoc, List.pairwise_append]
    refine ⟨hp.sublist (List.take_sublist _ _), ?_, fun x hx y hy => ?_⟩
    · rw [List.singleton_append, List.pairwise_cons]
      exact ⟨h2, hp.sublist (List.drop_sublist _ _)⟩
    · rcases List.mem_cons.1 (by simpa using hy) with rfl | hy
      · exact h1 x hx
      · exact (h1 x hx).trans (h2 y hy)
/-- The names of the first k nodes' atoms, as they stand. -/
def nmTo (f : List Nd) : Nat → List ByteArray
  | 0 => []
  | k + 1 => if (ndAt f k).k = 2 then nmTo f k ++ [(ndAt f k).nm] else nmTo f k
theorem nmTo_mem (f : List Nd) (t : ByteArray) : ∀ k, t ∈ nmTo f k → ∃ i, i < k ∧ (ndAt f i).k = 2 ∧ (ndAt f i).nm = t
  | 0, h => by simp [nmTo] at h
  | k + 1, h => by
    unfold nmTo at h
    split at h
    · next h2 =>
      rcases List.mem_append.1 h with h | h
      · obtain ⟨i, hi, h3, h4⟩ := nmTo_mem f t k h
        exact ⟨i, by omega, h3, h4⟩
      · exact ⟨k, by omega, h2, by simpa using (List.mem_singleton.1 h).symm⟩
    · obtain ⟨i, hi, h3, h4⟩ := nmTo_mem f t k h
      exact ⟨i, by omega, h3, h4⟩
/-- An atom of a right formula is told by its name. -/
theorem atom_only (x : Nd) (i : Nat) (h : nodeB x i = true) (hk : x.k = 2) : x = (2, 0, 0, 0, 0, x.nm) := by
  simp only [nodeB, Bool.and_eq_true] at h
  obtain ⟨_, _, h3, h4, h5⟩ := h
  rw [hk] at h3 h4 h5
  simp [armsN, timedB] at h3 h4 h5
  rw [nd_ext]
  exact ⟨hk, h3, h4, h5.1, h5.2, rfl⟩
theorem nmTo_new (f : List Nd) (m k : Nat) (hg : goodTo f m = true) (hk : k < m) (h2 : (ndAt f k).k = 2) : (ndAt f k).nm ∉ nmTo f k := by
  intro h
  obtain ⟨i, hi, h3, h4⟩ := nmTo_mem f _ k h
  have e1 := atom_only _ i (goodTo_at f i m (by omega) hg).1 h3
  have gk := goodTo_at f k m hk hg
  have e2 := atom_only _ k gk.1 h2
  exact gk.2 i hi (by rw [e1, e2, h4])
theorem atoms_perm (f : List Nd) (m : Nat) (hg : goodTo f m = true) : ∀ k, k ≤ m → (atomsTo f k).Perm (nmTo f k) ∧ (atomsTo f k).Pairwise ltT
  | 0, _ => ⟨List.Perm.refl _, List.Pairwise.nil⟩
  | k + 1, hk => by
    obtain ⟨h1, h2⟩ := atoms_perm f m hg k (by omega)
    unfold atomsTo nmTo
    by_cases h : (ndAt f k).k = 2
    · rw [if_pos h, if_pos h]
      obtain ⟨p1, p2⟩ := putN_new (atomsTo f k) (ndAt f k).nm h2 (fun hm => nmTo_new f m k hg (by omega) h (h1.mem_iff.1 hm))
      refine ⟨p1.trans ?_, p2⟩
      exact (List.Perm.cons _ h1).trans (List.perm_append_singleton _ _).symm
    · rw [if_neg h, if_neg h]
      exact ⟨h1, h2⟩
/-- What the sort makes of them. -/
theorem sort_atoms (f : List Nd) (m : Nat) (hg : goodTo f m = true) : ((nmTo f m).map (·.data.toList)).mergeSort (fun x y => decide (x ≤ y)) = (atomsTo f m).map (·.data.toList) := by
  obtain ⟨h1, h2⟩ := atoms_perm f m hg m (Nat.le_refl _)
  refine List.Perm.eq_of_pairwise (le := fun x y : List UInt8 => decide (x ≤ y) = true) (fun a b _ _ p q => ?_) (List.pairwise_mergeSort ?_ ?_ _) ?_ ((List.mergeSort_perm _ _).trans (h1.map _).symm)
  · exact List.le_antisymm (by simpa using p) (by simpa using q)
  · intro a b c p q
    have p' : a ≤ b := by simpa using p
    have q' : b ≤ c := by simpa using q
    simpa using List.le_trans p' q'
  · intro a b
    rcases List.le_total a b with p | p
    · simp [p]
    · simp [p]
  · rw [List.pairwise_map]
    refine h2.imp (fun {a b} hab => ?_)
    have h3 : Op.bytesLess a.toList b.toList = true := hab
    rw [bytesLess_eq, ByteArray.toList_eq, ByteArray.toList_eq] at h3
    have h4 : a.data.toList < b.data.toList := by simpa using h3
    simpa using List.le_of_lt h4
end Go.Proofs.YthjnlcjjhklfpaaDoor
