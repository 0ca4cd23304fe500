/-
  The program's walk through a formula: what its block holds; what is seen, and what has been come to.
-/
import Derived.Test.YtagklhfejbdkdaaDoorStore
namespace Go.Proofs.YtagklhfejbdkdaaDoor
open Go.RowKit
set_option linter.unusedVariables false
set_option linter.unusedSimpArgs false
structure WalkAt (w : World) (wb sn b cap base : Nat) (f : List Nd) (v : Value) (l : List Nat) (S : Nat → Bool) : Prop where
  ltw : wb < base
  lts : sn < base
  ne : wb ≠ sn
  nbw : b ≠ wb
  nbs : b ≠ sn
  ltb : b < base
  lth : base ≤ w.heap.size
  c0 : w.cell? ⟨wb, 0, none⟩ = some (.slice (some ⟨b, 0, none⟩) f.length cap)
  c1 : w.cell? ⟨wb, 1, none⟩ = some (.slice (some ⟨sn, 0, none⟩) f.length f.length)
  c2 : w.cell? ⟨wb, 2, none⟩ = some v
  free : w.frozen? ⟨wb, 2, none⟩ = false
  seen : ∀ j, j < f.length → w.cell? ⟨sn, j, none⟩ = some (.bool (S j))
  sfree : ∀ j, j < f.length → w.frozen? ⟨sn, j, none⟩ = false
  nodes : NodesAt w b f
  own : OwnsP w base v l
  ok : PlacesOk f l
def WalkS (wb sn : Nat) (v : Value) (c : Nat) : Prop := c = wb ∨ c = sn ∨ v.ownBlock = some c
theorem OwnsP.save {w w' : World} {base : Nat} {v : Value} {l : List Nat} {S : Nat → Prop} (h : OwnsP w base v l) (hs : Save w w' S) (hS : ∀ k, v.ownBlock = some k → ¬ S k) : OwnsP w' base v l := by
  refine ⟨h.1, ?_⟩
  rcases h.2 with hn | ⟨b, cap, cur, rfl, hb, hg, rest⟩
  · exact .inl hn
  · refine .inr ⟨b, cap, cur, rfl, hb, ?_, rest⟩
    rw [hs.block b (Array.getElem?_eq_some_iff.1 hg).1 (hS b rfl)]
    exact hg
theorem WalkAt.save {w w' : World} {wb sn b cap base : Nat} {f : List Nd} {v : Value} {l : List Nat} {S : Nat → Bool} {T : Nat → Prop} (h : WalkAt w wb sn b cap base f v l S) (hs : Save w w' T) (hT : ∀ c, WalkS wb sn v c → ¬ T c) (hb : ¬ T b) : WalkAt w' wb sn b cap base f v l S := by
  have e1 : ¬ T wb := hT wb (Or.inl rfl)
  have e2 : ¬ T sn := hT sn (Or.inr (Or.inl rfl))
  have h1 := h.ltw; have h2 := h.lts; have h3 := h.lth; have h4 := h.ltb
  exact ⟨h.ltw, h.lts, h.ne, h.nbw, h.nbs, h.ltb, Nat.le_trans h.lth hs.size, (hs.cell (p := ⟨wb, _, none⟩) (by simp only; omega) e1).trans h.c0, (hs.cell (p := ⟨wb, _, none⟩) (by simp only; omega) e1).trans h.c1, (hs.cell (p := ⟨wb, _, none⟩) (by simp only; omega) e1).trans h.c2,
    (hs.frozen (p := ⟨wb, _, none⟩) (by simp only; omega) e1).trans h.free, fun j hj => (hs.cell (p := ⟨sn, _, none⟩) (by simp only; omega) e2).trans (h.seen j hj), fun j hj => (hs.frozen (p := ⟨sn, _, none⟩) (by simp only; omega) e2).trans (h.sfree j hj),
    hs.nodes h.nodes hb, h.own.save hs (fun k hk => hT k (Or.inr (Or.inr hk))), h.ok⟩
theorem WalkAt.below {w w' : World} {wb sn b cap base : Nat} {f : List Nd} {v : Value} {l : List Nat} {S : Nat → Bool} (h : WalkAt w wb sn b cap base f v l S) (hs : Below w.heap.size w w') : WalkAt w' wb sn b cap base f v l S :=
  h.save (T := fun _ => False) (Save.of_below hs _ (fun j h1 h2 => by omega)) (fun _ _ h => h) (fun h => h)
/-- A place is marked. -/
theorem WalkAt.mark {w : World} {wb sn b cap base : Nat} {f : List Nd} {v : Value} {l : List Nat} {S : Nat → Bool} (h : WalkAt w wb sn b cap base f v l S) (i : Nat) (hi : i < f.length) :
    WalkAt (w.setCell ⟨sn, i, none⟩ (.bool true)) wb sn b cap base f v l (fun j => if j = i then true else S j) := by
  have h1 := h.ltw; have h2 := h.lts; have h3 := h.lth; have h4 := h.ltb; have h5 := h.ne; have h6 := h.nbs
  have hs : Save w (w.setCell ⟨sn, i, none⟩ (.bool true)) (fun c => c = sn) := Save.setCell (S := fun c => c = sn) (Save.refl w _) (p := ⟨sn, i, none⟩) (fun _ => rfl) _
  have e1 : ¬ wb = sn := h.ne
  exact ⟨h.ltw, h.lts, h.ne, h.nbw, h.nbs, h.ltb, Nat.le_trans h.lth hs.size, (hs.cell (p := ⟨wb, _, none⟩) (by simp only; omega) e1).trans h.c0, (hs.cell (p := ⟨wb, _, none⟩) (by simp only; omega) e1).trans h.c1, (hs.cell (p := ⟨wb, _, none⟩) (by simp only; omega) e1).trans h.c2,
    (hs.frozen (p := ⟨wb, _, none⟩) (by simp only; omega) e1).trans h.free, fun j hj => by
      by_cases e : j = i
      · subst e; simp only [if_true]; exact World.cell?_setCell_same' _ _ _ (by rw [h.seen j hj]; rfl)
      · simp only [e, if_false]; rw [World.cell?_setCell_other _ _ _ _ (by simp [Ne.symm e])]; exact h.seen j hj,
    fun j hj => by rw [World.frozen?_setCell]; exact h.sfree j hj,
    hs.nodes h.nodes h.nbs, h.own.save hs (fun k hk e => by have := (World.ownsRow.lt h.own k hk).1; omega), h.ok⟩
/-- A place is put behind. -/
theorem WalkAt.put {w w' : World} {wb sn b cap base : Nat} {f : List Nd} {v v' : Value} {l : List Nat} {S : Nat → Bool} {i : Nat} (h : WalkAt w wb sn b cap base f v l S) (W : World) (hW : Save w W (fun _ => False)) (hown : w'.ownsRow base 2 1 v' (l.length + 1) ((l.map fun (j : Nat) => Value.int .i64 (j : Int)) ++ [.int .i64 (i : Int)]))
    (hg : W.grownBy w' v.ownBlock) (hok : PlacesOk f (l ++ [i])) : (w'.cell? ⟨wb, 2, none⟩ = some v ∧ w'.frozen? ⟨wb, 2, none⟩ = false) ∧ WalkAt (w'.setCell ⟨wb, 2, none⟩ v') wb sn b cap base f v' (l ++ [i]) S ∧ Save w (w'.setCell ⟨wb, 2, none⟩ v') (WalkS wb sn v) := by
  have h1 := h.ltw; have h2 := h.lts; have h3 := h.lth; have h4 := h.ltb
  have hs1 : Save w w' (fun c => v.ownBlock = some c) := (hW.mono (fun _ _ h => h.elim)).grown hg (fun k hk _ => hk)
  have nb : ∀ c, c < base → ¬ v.ownBlock = some c := fun c hc e => by have := (World.ownsRow.lt h.own c e).1; omega
  have hs : Save w (w'.setCell ⟨wb, 2, none⟩ v') (fun c => c = wb ∨ v.ownBlock = some c) := Save.setCell (S := fun c => c = wb ∨ v.ownBlock = some c) (hs1.mono (fun k _ hk => Or.inr hk)) (p := ⟨wb, 2, none⟩) (fun _ => Or.inl rfl) _
  have k2 : w'.cell? ⟨wb, 2, none⟩ = some v := (hs1.cell (p := ⟨wb, _, none⟩) (by simp only; omega) (nb wb h1)).trans h.c2
  have kf : w'.frozen? ⟨wb, 2, none⟩ = false := (hs1.frozen (p := ⟨wb, _, none⟩) (by simp only; omega) (nb wb h1)).trans h.free
  have k0 : w'.cell? ⟨wb, 0, none⟩ = _ := (hs1.cell (p := ⟨wb, _, none⟩) (by simp only; omega) (nb wb h1)).trans h.c0
  have k1 : w'.cell? ⟨wb, 1, none⟩ = _ := (hs1.cell (p := ⟨wb, _, none⟩) (by simp only; omega) (nb wb h1)).trans h.c1
  have e2 : ¬ (sn = wb ∨ v.ownBlock = some sn) := by rintro (e | e); exact h.ne e.symm; exact nb sn h2 e
  have e3 : ¬ (b = wb ∨ v.ownBlock = some b) := by rintro (e | e); exact h.nbw e; exact nb b h4 e
  refine ⟨⟨k2, kf⟩, ⟨h.ltw, h.lts, h.ne, h.nbw, h.nbs, h.ltb, Nat.le_trans h.lth hs.size, ?_, ?_, World.cell?_setCell_same' _ _ _ (by rw [k2]; rfl), by rw [World.frozen?_setCell]; exact kf,
    fun j hj => (hs.cell (p := ⟨sn, _, none⟩) (by simp only; omega) e2).trans (h.seen j hj), fun j hj => (hs.frozen (p := ⟨sn, _, none⟩) (by simp only; omega) e2).trans (h.sfree j hj), hs.nodes h.nodes e3, ?_, hok⟩, hs.mono (fun k _ hk => by rcases hk with rfl | hk; exact Or.inl rfl; exact Or.inr (Or.inr hk))⟩
  · rw [World.cell?_setCell_other _ _ _ _ (by simp)]; exact k0
  · rw [World.cell?_setCell_other _ _ _ _ (by simp)]; exact k1
  · exact OwnsP.snoc (ownsRow_setCell_below hown (by simp only; omega) _)

/-! ### What is seen -/
def Ag (S : Nat → Bool) (l : List Nat) (i : Nat) : Prop := ∀ j, j ≤ i → S j = decide (j ∈ l)
def Agl (S : Nat → Bool) (l : List Nat) (i : Nat) : Prop := ∀ j, j < i → S j = decide (j ∈ l)
theorem Ag.mark {S : Nat → Bool} {l : List Nat} {i : Nat} (h : Ag S l i) : Agl (fun j => if j = i then true else S j) l i := fun j hj => by
  have : j ≠ i := by omega
  simp only [this, if_false]; exact h j (by omega)
theorem Agl.at {S : Nat → Bool} {l : List Nat} {i p : Nat} (h : Agl S l i) (hp : p < i) : Ag S l p := fun j hj => h j (by omega)
theorem Agl.step {f : List Nd} {S S1 : Nat → Bool} {l : List Nat} {n i p : Nat} (h : Agl S l i) (hp : p < i) (hd : downTo f (p + 1)) (hn : p < n) (h1 : Ag S1 (walkF f n p l) p) (h2 : ∀ j, p < j → S1 j = S j) : Agl S1 (walkF f n p l) i := fun j hj => by
  by_cases e : j ≤ p
  · exact h1 j e
  · rw [h2 j (by omega), h j hj]
    obtain ⟨⟨t, et, ht⟩, _⟩ := walkF_grows f n p l hd hn
    rw [et]
    congr 1
    rw [List.mem_append]
    apply propext
    constructor
    · exact Or.inl
    · rintro (h' | h')
      · exact h'
      · have := ht j h'; omega
theorem Agl.fin {S : Nat → Bool} {l : List Nat} {i : Nat} (h : Agl S l i) (hi : S i = true) : Ag S (l ++ [i]) i := fun j hj => by
  by_cases e : j = i
  · subst e; simp [hi]
  · rw [h j (by omega)]; simp [e]
def VisitC (f : List Nd) (wb sn b cap base n : Nat) : Prop := ∀ (i : Nat) (l : List Nat) (S : Nat → Bool) (v : Value) (w : World), i < n → i < f.length → downTo f (i + 1) → WalkAt w wb sn b cap base f v l S → Ag S l i →
    Calls Tryd.prog 77 #[.pointer (some ⟨wb, 0, none⟩), .int .i64 i] w fun e w' => e = .returned (.tuple #[]) ∧ ∃ v' S', WalkAt w' wb sn b cap base f v' (walkF f n i l) S' ∧ Ag S' (walkF f n i l) i ∧ (∀ j, i < j → S' j = S j) ∧ Save w w' (WalkS wb sn v) ∧ (∀ k, v'.ownBlock = some k → v.ownBlock = some k ∨ w.heap.size ≤ k)
theorem Save.trans2 {a b c : World} {S T : Nat → Prop} (h : Save a b S) (k : Save b c T) (hT : ∀ j, j < a.heap.size → T j → S j) : Save a c S :=
  ⟨k.os.trans h.os, k.tape.trans h.tape, k.output.trans h.output, Nat.le_trans h.size k.size, fun j hj hs => (k.block j (Nat.lt_of_lt_of_le hj h.size) (fun x => hs (hT j hj x))).trans (h.block j hj hs)⟩
/-- In the midst of a visit: what has been come to so far is l'. -/
def MidAt (w wr : World) (wb sn b cap base : Nat) (f : List Nd) (v : Value) (S : Nat → Bool) (i : Nat) (l' : List Nat) (v' : Value) (S' : Nat → Bool) : Prop :=
  WalkAt wr wb sn b cap base f v' l' S' ∧ Agl S' l' i ∧ S' i = true ∧ (∀ j, i < j → S' j = S j) ∧ Save w wr (WalkS wb sn v) ∧ (∀ k, v'.ownBlock = some k → v.ownBlock = some k ∨ w.heap.size ≤ k)
def Mid (w wr : World) (wb sn b cap base : Nat) (f : List Nd) (v : Value) (S : Nat → Bool) (i : Nat) (l' : List Nat) : Prop :=
  ∃ v' S', MidAt w wr wb sn b cap base f v S i l' v' S'
theorem Mid.begin {w w1 w2 : World} {wb sn b cap base : Nat} {f : List Nd} {v : Value} {l : List Nat} {S : Nat → Bool} {i : Nat} (hW : WalkAt w wb sn b cap base f v l S) (hA : Ag S l i) (hi : i < f.length) (h1 : Below (w.setCell ⟨sn, i, none⟩ (.bool true)).heap.size (w.setCell ⟨sn, i, none⟩ (.bool true)) w1) (h2 : Below w1.heap.size w1 w2) : MidAt w w2 wb sn b cap base f v S i l v (fun j => if j = i then true else S j) :=
  ⟨((hW.mark i hi).below h1).below h2, hA.mark, by simp, fun j hj => by
      have : j ≠ i := by omega
      simp [this],
    Save.trans2 (Save.trans2 (Save.setCell (S := WalkS wb sn v) (Save.refl w _) (p := ⟨sn, i, none⟩) (fun _ => Or.inr (Or.inl rfl)) _) (Save.of_below h1 (fun j => (w.setCell ⟨sn, i, none⟩ (.bool true)).heap.size ≤ j) (fun j h _ => h)) (fun j hj h => by simp at h; omega)) (Save.of_below h2 (fun j => w1.heap.size ≤ j) (fun j h _ => h)) (fun j hj h => by have := h1.size; simp at this; omega), fun k hk => Or.inl hk⟩
theorem Mid.step {w wr wr' : World} {wb sn b cap base n p : Nat} {f : List Nd} {v v' v'' : Value} {l' : List Nat} {S S' S'' : Nat → Bool} {i : Nat} (hp : p < i) (hpn : p < n) (hd : downTo f (p + 1)) (hA : Agl S' l' i) (ht : S' i = true) (hS : ∀ j, i < j → S' j = S j) (hs : Save w wr (WalkS wb sn v)) (ho : ∀ k, v'.ownBlock = some k → v.ownBlock = some k ∨ w.heap.size ≤ k)
    (gW : WalkAt wr' wb sn b cap base f v'' (walkF f n p l') S'') (gA : Ag S'' (walkF f n p l') p) (gS : ∀ j, p < j → S'' j = S' j) (gs : Save wr wr' (WalkS wb sn v')) (go : ∀ k, v''.ownBlock = some k → v'.ownBlock = some k ∨ wr.heap.size ≤ k) : Mid w wr' wb sn b cap base f v S i (walkF f n p l') :=
  ⟨v'', S'', gW, hA.step hp hd hpn gA gS, by rw [gS i hp]; exact ht, fun j hj => by rw [gS j (by omega)]; exact hS j hj,
    Save.trans2 hs gs (fun j hj h => by
      rcases h with rfl | rfl | h
      · exact Or.inl rfl
      · exact Or.inr (Or.inl rfl)
      · rcases ho j h with h' | h'
        · exact Or.inr (Or.inr h')
        · omega),
    fun k hk => by
      rcases go k hk with h | h
      · exact ho k h
      · exact Or.inr (Nat.le_trans hs.size h)⟩
theorem Mid.fin {w wr W w' : World} {wb sn b cap base : Nat} {f : List Nd} {v v' v'' : Value} {l' : List Nat} {S S' : Nat → Bool} {i : Nat} (gW : WalkAt wr wb sn b cap base f v' l' S') (hA : Agl S' l' i) (ht : S' i = true) (hS : ∀ j, i < j → S' j = S j) (hs : Save w wr (WalkS wb sn v)) (ho : ∀ k, v'.ownBlock = some k → v.ownBlock = some k ∨ w.heap.size ≤ k)
    (hW : Save wr W (fun _ => False)) (hown : w'.ownsRow base 2 1 v'' (l'.length + 1) ((l'.map fun (j : Nat) => Value.int .i64 (j : Int)) ++ [.int .i64 (i : Int)])) (hg : W.grownBy w' v'.ownBlock) (hl : v''.ownBlock = v'.ownBlock ∨ v''.ownBlock = some W.heap.size) (hok : PlacesOk f (l' ++ [i])) :
    (w'.cell? ⟨wb, 2, none⟩ = some v' ∧ w'.frozen? ⟨wb, 2, none⟩ = false) ∧ ∃ v0 S0, WalkAt (w'.setCell ⟨wb, 2, none⟩ v'') wb sn b cap base f v0 (l' ++ [i]) S0 ∧ Ag S0 (l' ++ [i]) i ∧ (∀ j, i < j → S0 j = S j) ∧ Save w (w'.setCell ⟨wb, 2, none⟩ v'') (WalkS wb sn v) ∧ (∀ k, v0.ownBlock = some k → v.ownBlock = some k ∨ w.heap.size ≤ k) := by
  obtain ⟨p1, p2, p3⟩ := gW.put W hW hown hg hok
  refine ⟨p1, v'', S', p2, hA.fin ht, hS, ?_, fun k hk => ?_⟩
  · exact Save.trans2 hs p3 (fun j hj h => by
      rcases h with rfl | rfl | h
      · exact Or.inl rfl
      · exact Or.inr (Or.inl rfl)
      · rcases ho j h with h' | h'
        · exact Or.inr (Or.inr h')
        · omega)
  · rcases hl with h | h
    · exact ho k (h ▸ hk)
    · rw [hk] at h
      have h' := Option.some.inj h
      have := hW.size
      have := hs.size
      right; omega
end Go.Proofs.YtagklhfejbdkdaaDoor
