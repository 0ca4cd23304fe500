/-
  Keeps: what is kept tells of all times that were put. Plain facts for FnKeep.
  A right monitor stays right: plain facts.
  The model's l06Step: what stands in its loop.
  The model's l06Step, by its contract.
-/
import Derived.Test.YtbfkbgmkibkbnaaGreatDoorPa11
import Derived.Test.YtbfkbgmkibkbnaaGreatDoorPa28
import Derived.Test.YtbfkbgmkibkbnaaGreatDoorPa35
import Derived.Test.YtbfkbgmkibkbnaaGreatDoorPa32
import Derived.Test.YtbfkbgmkibkbnaaGreatDoorPa43
namespace Go.Proofs.YtbfkbgmkibkbnaaGreatDoor
open Go.RowKit
set_option linter.unusedVariables false
set_option linter.unusedSimpArgs false
theorem zAt_mem {Z : List Int} {i : Nat} (h : i < Z.length) : zAt Z i ∈ Z := by
  unfold zAt
  rw [List.getD_eq_getElem?_getD, List.getElem?_eq_getElem h]
  exact List.getElem_mem h
theorem mem_zAt {Z : List Int} {a : Int} (h : a ∈ Z) : ∃ i, i < Z.length ∧ zAt Z i = a := by
  obtain ⟨i, hi, e⟩ := List.mem_iff_getElem.1 h
  exact ⟨i, hi, by unfold zAt; rw [List.getD_eq_getElem?_getD, List.getElem?_eq_getElem hi]; exact e⟩
theorem range_zAt (Z : List Int) : (List.range Z.length).map (zAt Z) = Z := by
  apply List.ext_getElem
  · simp
  · intro i h1 h2
    simp [zAt, List.getD_eq_getElem?_getD, List.getElem?_eq_getElem h2]
theorem dropI_mem (hi tm : Int) (Z : List Int) (a : Int) : a ∈ dropI hi tm Z ↔ a ∈ Z ∧ keepsB hi tm a = true := by
  unfold dropI dropTo
  rw [range_zAt, List.mem_filter]
theorem dropI_all {hi tm : Int} {Z : List Int} (h : hi < 0) : dropI hi tm Z = Z := by
  unfold dropI dropTo
  rw [range_zAt]
  exact List.filter_eq_self.2 (fun a _ => by simp [keepsB, h])
theorem askTo_iff (lo hi tm : Int) (Z : List Int) : askTo lo hi tm Z Z.length = true ↔ ∃ a, a ∈ Z ∧ inB lo hi (tm - a) = true := by
  simp only [askTo, List.any_eq_true, List.mem_range]
  constructor
  · rintro ⟨i, hi, h⟩
    exact ⟨_, zAt_mem hi, h⟩
  · rintro ⟨a, ha, h⟩
    obtain ⟨i, hi, rfl⟩ := mem_zAt ha
    exact ⟨i, hi, h⟩
/-- What is kept at time tm of the times A that were put. -/
structure Kept (lo hi tm : Int) (A Z : List Int) : Prop where
  right : krB lo hi Z = true
  top : ∀ a, a ∈ A → 0 ≤ a ∧ a ≤ tm
  none : hi = -1 → Z = A.take 1 ∧ ∀ a, a ∈ A → ∀ b, A.head? = some b → b ≤ a
  some : 0 ≤ hi → ∀ a, a ∈ Z ↔ a ∈ A ∧ tm - a ≤ hi
theorem Kept.ask {lo hi tm : Int} {A Z : List Int} (h : Kept lo hi tm A Z) : askTo lo hi tm Z Z.length = askTo lo hi tm A A.length := by
  have hs := spanB_parts (krB_parts h.right).1
  rw [Bool.eq_iff_iff, askTo_iff, askTo_iff]
  by_cases h1 : hi = -1
  · obtain ⟨e, hl⟩ := h.none h1
    subst e
    constructor
    · rintro ⟨a, ha, hb⟩
      exact ⟨a, List.mem_of_mem_take ha, hb⟩
    · rintro ⟨a, ha, hb⟩
      cases A with
      | nil => simp at ha
      | cons b A =>
        refine ⟨b, by simp, ?_⟩
        have := hl a ha b rfl
        simp only [inB, h1, Bool.and_eq_true, decide_eq_true_eq, Bool.or_eq_true] at hb ⊢
        exact ⟨by omega, Or.inl trivial⟩
  · have h0 : 0 ≤ hi := by omega
    constructor
    · rintro ⟨a, ha, hb⟩
      exact ⟨a, ((h.some h0 a).1 ha).1, hb⟩
    · rintro ⟨a, ha, hb⟩
      refine ⟨a, (h.some h0 a).2 ⟨ha, ?_⟩, hb⟩
      simp only [inB, Bool.and_eq_true, decide_eq_true_eq, Bool.or_eq_true] at hb
      omega
theorem Kept.drop {lo hi tm : Int} {A Z : List Int} (h : Kept lo hi tm A Z) (tm' : Int) (ht : tm ≤ tm') : Kept lo hi tm' A (dropI hi tm' Z) := by
  refine ⟨kr_drop tm' h.right, fun a ha => ?_, fun h1 => ?_, fun h0 a => ?_⟩
  · have := h.top a ha; omega
  · rw [dropI_all (by omega)]
    exact h.none h1
  · rw [dropI_mem, h.some h0]
    simp only [keepsB, Bool.or_eq_true, decide_eq_true_eq]
    constructor
    · rintro ⟨⟨h2, h3⟩, h4⟩
      exact ⟨h2, by omega⟩
    · rintro ⟨h2, h3⟩
      exact ⟨⟨h2, by omega⟩, by omega⟩
theorem lastI_mem {Z : List Int} (h : 0 < Z.length) : lastI Z ∈ Z := zAt_mem (by omega)
theorem Kept.put {lo hi tm : Int} {A Z : List Int} (h : Kept lo hi tm A Z) (tm' : Int) (ht : tm ≤ tm') (hT : timeB tm' = true) : Kept lo hi tm' (A ++ [tm']) (putI hi tm' Z) := by
  have h9 := timeB_parts hT
  refine ⟨kr_put h.right hT, fun a ha => ?_, fun h1 => ?_, fun h0 a => ?_⟩
  · rcases List.mem_append.1 ha with ha | ha
    · have := h.top a ha; omega
    · simp at ha; omega
  · obtain ⟨e, hl⟩ := h.none h1
    cases A with
    | nil =>
      simp only [List.take_nil] at e
      subst e
      refine ⟨?_, fun a ha b hb => ?_⟩
      · simp [putI, stayB, dropI, dropTo]
      · simp at ha hb; omega
    | cons b A =>
      have e' : Z = [b] := by rw [e]; rfl
      subst e'
      refine ⟨?_, fun a ha c hc => ?_⟩
      · have : stayB hi tm' [b] = true := by simp [stayB]; omega
        unfold putI
        rw [if_pos this]
        rfl
      · have hc' : b = c := by simpa using hc
        subst hc'
        rw [List.cons_append, List.mem_cons] at ha
        rcases ha with rfl | ha
        · exact Int.le_refl _
        · rcases List.mem_append.1 ha with ha | ha
          · exact hl a (List.mem_cons_of_mem _ ha) b rfl
          · have := h.top b (by simp)
            simp at ha; omega
  · unfold putI
    rcases Bool.eq_false_or_eq_true (stayB hi tm' Z) with hs | hs
    · rw [if_pos hs]
      obtain ⟨h2, h3⟩ := stayB_yes hs
      have hm := (h.some h0 _).1 (lastI_mem h2)
      have := h.top _ hm.1
      have e1 : lastI Z = tm' := by omega
      have e2 : tm = tm' := by omega
      subst e2
      rw [h.some h0, List.mem_append]
      constructor
      · rintro ⟨h4, h5⟩; exact ⟨Or.inl h4, h5⟩
      · rintro ⟨h4 | h4, h5⟩
        · exact ⟨h4, h5⟩
        · simp at h4; subst h4; rw [← e1]; exact ⟨hm.1, by rw [e1]; omega⟩
    · rw [if_neg (by simp [hs]), List.mem_append, dropI_mem, h.some h0, List.mem_append]
      simp only [keepsB, Bool.or_eq_true, decide_eq_true_eq, List.mem_singleton]
      constructor
      · rintro (⟨⟨h4, h5⟩, h6⟩ | h4)
        · exact ⟨Or.inl h4, by omega⟩
        · exact ⟨Or.inr h4, by omega⟩
      · rintro ⟨h4 | h4, h5⟩
        · exact Or.inl ⟨⟨h4, by omega⟩, by omega⟩
        · exact Or.inr h4
theorem Kept.most {lo hi tm : Int} {A Z : List Int} (h : Kept lo hi tm A Z) : (Z.length : Int) ≤ mostI hi := (krB_parts h.right).2.1
theorem Kept.start {lo hi : Int} (h : spanB lo hi = true) : Kept lo hi 0 [] [] :=
  ⟨krB_yes _ _ _ h (by unfold mostI; split <;> simp <;> omega) rfl, fun a ha => by simp at ha, fun _ => ⟨rfl, fun a ha => by simp at ha⟩, fun _ a => by simp⟩
end Go.Proofs.YtbfkbgmkibkbnaaGreatDoor
namespace Go.Proofs.YtbfkbgmkibkbnaaGreatDoor
open Go.RowKit
set_option linter.unusedVariables false
set_option linter.unusedSimpArgs false
theorem rise_le {Z : List Int} (hr : riseTo Z Z.length = true) (i : Nat) : ∀ j, i ≤ j → j < Z.length → zAt Z i ≤ zAt Z j := by
  intro j
  induction j with
  | zero => intro h _; obtain rfl : i = 0 := by omega
            exact Int.le_refl _
  | succ j ih =>
    intro h hj
    by_cases e : i = j + 1
    · subst e; exact Int.le_refl _
    · have h1 := ih (by omega) (by omega)
      have h2 := (riseTo_at hr (j + 1) hj).2.2 (by omega)
      simp only [Nat.add_sub_cancel] at h2
      omega
theorem mem_next {put : Bool} {hi tm : Int} {Z : List Int} {a : Int} (h : a ∈ nextI put hi tm Z) : a ∈ Z ∨ a = tm := by
  unfold nextI at h
  cases put with
  | true =>
    rw [if_pos rfl] at h
    unfold putI at h
    split at h
    · exact Or.inl h
    · rcases List.mem_append.1 h with h | h
      · exact Or.inl ((dropI_mem _ _ _ _).1 h).1
      · exact Or.inr (by simpa using h)
  | false =>
    rw [if_neg (by simp)] at h
    exact Or.inl ((dropI_mem _ _ _ _).1 h).1
theorem next_last {put : Bool} {hi now tm : Int} {Z : List Int} (hz : ∀ a, a ∈ Z → a ≤ now) (hle : now ≤ tm) (h : 0 < (nextI put hi tm Z).length) : lastT (nextI put hi tm Z) ≤ tm := by
  have hm : lastT (nextI put hi tm Z) ∈ nextI put hi tm Z := zAt_mem (by omega)
  rcases mem_next hm with h1 | h1
  · have := hz _ h1
    omega
  · omega
theorem cell_times {cnt now : Int} {x : Nd} {c : Cl} (h : cellB cnt now x c = true) : ∀ a, a ∈ c.ts → a ≤ now := by
  obtain ⟨hk, _, _, h3, _⟩ := cell_keeps h
  intro a ha
  obtain ⟨i, hi, rfl⟩ := mem_zAt ha
  rcases h3 with h3 | ⟨_, _, h3⟩
  · omega
  · have := rise_le (krB_parts hk).2.2 i (c.ts.length - 1) (by omega) (by omega)
    unfold lastT at h3
    omega
theorem cell_not_of {cnt now : Int} {x : Nd} {was : Bool} (hk : keepsK x.k = false) (hw : wasB cnt x was = true) : cellB cnt now x ⟨0, 0, [], was⟩ = true := by
  rw [cellB_not _ _ _ _ hk, hw]
  rfl
theorem cell_next {cnt now tm : Int} {S : List ByteArray} {x : Nd} {c : Cl} {g : Nat → Bool} (h : cellB cnt now x c = true) (hk : kindOk x.k) (h0 : 0 ≤ cnt) (hle : now ≤ tm) (ht : timeB tm = true) : cellB (cnt + 1) tm x (stB cnt now tm S x c g).2 = true := by
  have hkk : x.k = 1 ∨ x.k = 2 ∨ x.k = 3 ∨ x.k = 4 ∨ x.k = 5 ∨ x.k = 6 ∨ x.k = 7 ∨ x.k = 8 ∨ x.k = 9 := by obtain ⟨h1, h2⟩ := hk; omega
  have hno : x.k ≤ 6 → keepsK x.k = false := fun h => by simp [keepsK]; omega
  have hyes : 7 ≤ x.k → keepsK x.k = true := fun h => by have := hk.2; simp [keepsK]; omega
  obtain ⟨hkr, hlo, hhi, _, _⟩ := cell_keeps h
  have hts := cell_times h
  have keep : 7 ≤ x.k → ∀ (put : Bool) (Z : List Int), krB c.lo c.hi Z = true → (∀ a, a ∈ Z → a ≤ now) → cellB (cnt + 1) tm x ⟨c.lo, c.hi, nextI put c.hi tm Z, false⟩ = true := fun h7 put Z hz hza => by
    rw [cellB_keeps _ _ _ _ (hyes h7)]
    have e1 : c.lo = x.lo := by rw [hlo]; simp [bareLo, hyes h7]
    have e2 : c.hi = x.hi := by rw [hhi]; simp [bareHi, hyes h7]
    have e3 := kr_next put hz ht
    have e4 : wasB (cnt + 1) x false = true := rfl
    simp only [e4, e3, Bool.true_and, Bool.and_eq_true, beq_iff_eq, Bool.or_eq_true, decide_eq_true_eq]
    refine ⟨e1, e2, ?_⟩
    by_cases hl : (nextI put c.hi tm Z).length = 0
    · exact Or.inl hl
    · exact Or.inr ⟨by omega, next_last hza hle (by omega)⟩
  have zero : x.k ≤ 5 → cellB (cnt + 1) tm x cl0 = true := fun h5 => cell_not_of (hno (by omega)) rfl
  rcases hkk with hx | hx | hx | hx | hx | hx | hx | hx | hx
  · unfold stB; rw [if_pos hx]; exact zero (by omega)
  · unfold stB; rw [if_neg (by omega), if_pos hx]; exact zero (by omega)
  · unfold stB; rw [if_neg (by omega), if_neg (by omega), if_pos hx]; exact zero (by omega)
  · unfold stB; rw [if_neg (by omega), if_neg (by omega), if_neg (by omega), if_pos hx]; exact zero (by omega)
  · unfold stB; rw [if_neg (by omega), if_neg (by omega), if_neg (by omega), if_neg (by omega), if_pos hx]; exact zero (by omega)
  · unfold stB; rw [if_neg (by omega), if_neg (by omega), if_neg (by omega), if_neg (by omega), if_neg (by omega), if_pos hx]
    refine cell_not_of (hno (by omega)) ?_
    simp [wasB, hx]
    omega
  · unfold stB; rw [if_neg (by omega), if_neg (by omega), if_neg (by omega), if_neg (by omega), if_neg (by omega), if_neg (by omega), if_pos hx]
    exact keep (by omega) _ _ hkr hts
  · unfold stB; rw [if_neg (by omega), if_neg (by omega), if_neg (by omega), if_neg (by omega), if_neg (by omega), if_neg (by omega), if_neg (by omega), if_pos hx]
    exact keep (by omega) _ _ hkr hts
  · unfold stB; rw [if_neg (by omega), if_neg (by omega), if_neg (by omega), if_neg (by omega), if_neg (by omega), if_neg (by omega), if_neg (by omega), if_neg (by omega)]
    refine keep (by omega) _ _ ?_ ?_
    · split
      · exact hkr
      · exact krB_yes _ _ _ (krB_parts hkr).1 (by unfold mostI; split <;> simp <;> omega) rfl
    · split
      · exact hts
      · intro a ha; simp at ha
/-- What a step leaves of a right monitor is right. -/
theorem next_right {cnt now tm : Int} {S : List ByteArray} {f : List Nd} {C : List Cl} (h : monB f cnt now C = true) (hle : now ≤ tm) (ht : timeB tm = true) (hcn : cnt ≠ 1000000) : monB f (cnt + 1) tm (nextC cnt now tm S f C) = true := by
  simp only [monB, Bool.and_eq_true, decide_eq_true_eq, cellsTo, List.all_eq_true, List.mem_range] at h ⊢
  obtain ⟨hr, hcl, htc, htn, _, hcells⟩ := h
  have t1 := timeB_parts htc
  refine ⟨hr, nextC_len _ _ _ _ _ _, by simp [timeB]; omega, ht, ?_, fun i hi => ?_⟩
  · have : ((cnt + 1 == 0) = false) := by simp; omega
    rw [this]; rfl
  · rw [nextC_at _ _ _ _ _ _ _ hi]
    exact cell_next (hcells i hi) (right_node hr i hi).1 t1.1 hle ht
end Go.Proofs.YtbfkbgmkibkbnaaGreatDoor
namespace Go.Proofs.YtbfkbgmkibkbnaaGreatDoor
open Go.RowKit
set_option linter.unusedVariables false
set_option linter.unusedSimpArgs false
/-- Another cell than the one that l06Node turned. -/
theorem CkX.node {w w' : World} {T : Nat → Prop} {cb i k : Nat} {d x : Cl} (h : CkX w T cb i x) (hp : NdPost w w' T cb k d) (hi : i ≠ k) (hT : T cb) : CkX w' T cb i x := by
  obtain ⟨a, c, h0, h1, h2, h3, h4, h5, h6⟩ := h
  refine ⟨a, c, (hp.els _ (by omega)).trans h0, (hp.els _ (by omega)).trans h1, (hp.els _ (by omega)).trans h2, (hp.els _ (by omega)).trans h3, h4, ?_, h6⟩
  by_cases hl : x.ts.length = 0
  · exact Or.inl hl
  · rcases h5 with h5 | ⟨b, off, e, hb, hcs⟩
    · exact absurd h5 hl
    · have hn : ¬ b = cb := fun e2 => h6 (by omega) _ e (e2 ▸ hT)
      exact Or.inr ⟨b, off, e, Nat.lt_of_lt_of_le hb hp.sv.size, fun j hj => (hp.sv.cell (p := ⟨b, _, none⟩) hb hn).trans (hcs j hj)⟩
def boolL (G : Nat → Bool) (k : Nat) : List Value := (List.range k).map fun j => .bool (G j)
theorem boolL_succ (G : Nat → Bool) (k : Nat) : boolL G (k + 1) = boolL G k ++ [.bool (G k)] := by simp [boolL, List.range_succ]
theorem boolL_len (G : Nat → Bool) (k : Nat) : (boolL G k).length = k := by simp [boolL]
theorem boolL_at (G : Nat → Bool) (k j : Nat) (h : j < k) : (boolL G k)[j]? = some (.bool (G j)) := by simp [boolL, h]
/-- The blocks that hold no times. -/
def StT (B cb ob : Nat) (v : Value) (j : Nat) : Prop := j < B ∨ j = cb ∨ j = ob ∨ v.ownBlock = some j
/-- What stands in a round of l06Step. -/
structure StAt (B : Nat) (Wd wr : World) (ob g n gc cb cap : Nat) (cnt now : Int) (aa : Option Addr) (bc : Nat) (f : List Nd) (C D : List Cl) (G : Nat → Bool) (k : Nat) : Prop where
  box : OBox wr ob (some ⟨g, 0, none⟩) n gc cnt now (some ⟨cb, 0, none⟩) n cap false aa k bc 0
  fr : OFree wr ob
  own : wr.ownsRow Wd.heap.size 4 1 (.slice aa k bc) k (boolL G k)
  cks : ∀ i, i < n → CkX wr (StT B cb ob (.slice aa k bc)) cb i (if i < k then clAt D i else clAt C i)
  fz : ∀ o, wr.frozen? ⟨cb, o, none⟩ = false
  nodes : NodesAt wr g f
  sv : Save Wd wr (fun j => j = ob ∨ j = cb)
theorem ownBo_save {w w' : World} {base n : Nat} {v : Value} {xs : List Value} {S : Nat → Prop} (h : w.ownsRow base 4 1 v n xs) (hs : Save w w' S) (hS : ∀ k, v.ownBlock = some k → ¬ S k) : w'.ownsRow base 4 1 v n xs := by
  refine ⟨h.1, ?_⟩
  rcases h.2 with hn | ⟨b, cap, cur, rfl, hb, hg, rest⟩
  · exact .inl hn
  · refine .inr ⟨b, cap, cur, rfl, hb, ?_, rest⟩
    rw [hs.block b (Array.getElem?_eq_some_iff.1 hg).1 (hS b rfl)]
    exact hg
/-- A round's end: the call, the append, the store. -/
theorem StAt.put {B : Nat} {Wd wr w2 X w4 : World} {ob g n gc cb cap : Nat} {cnt now : Int} {aa : Option Addr} {bc : Nat} {f : List Nd} {C D : List Cl} {G : Nat → Bool} {k gb cp : Nat} (h : StAt B Wd wr ob g n gc cb cap cnt now aa bc f C D G k) (hk : k < n) (hob : ob < Wd.heap.size) (hcb : cb < ob) (hgn : g < ob) (hgc : g ≠ cb) (hp : NdPost wr w2 (StT B cb ob (.slice aa k bc)) cb k (clAt D k)) (hX : Save w2 X (fun _ => False)) (hg : X.grownBy w4 (Value.slice aa k bc).ownBlock) (hat : (Value.slice (some ⟨gb, 0, none⟩) (k + 1) cp).ownBlock = (Value.slice aa k bc).ownBlock ∨ (Value.slice (some ⟨gb, 0, none⟩) (k + 1) cp).ownBlock = some X.heap.size) (how : w4.ownsRow Wd.heap.size 4 1 (.slice (some ⟨gb, 0, none⟩) (k + 1) cp) (k + 1) (boolL G (k + 1))) :
    StAt B Wd (w4.setCell ⟨ob, 5, none⟩ (.slice (some ⟨gb, 0, none⟩) (k + 1) cp)) ob g n gc cb cap cnt now (some ⟨gb, 0, none⟩) cp f C D G (k + 1) := by
  have hrow := World.ownsRow.lt h.own
  have hz1 := h.sv.size
  have hz2 := hp.sv.size
  have hzX := hX.size
  have h24 : Save w2 w4 (fun j => (Value.slice aa k bc).ownBlock = some j) := (hX.mono (T := fun j => (Value.slice aa k bc).ownBlock = some j) (fun _ _ f => f.elim)).trans ((Save.refl X _).grown hg (fun k e _ => e))
  have hz4 := h24.size
  have hset : Save w4 (w4.setCell ⟨ob, 5, none⟩ (.slice (some ⟨gb, 0, none⟩) (k + 1) cp)) (fun j => j = ob) := Save.setCell (S := fun j => j = ob) (Save.refl w4 _) (p := ⟨ob, 5, none⟩) (fun _ => rfl) _
  have nob : ¬ (Value.slice aa k bc).ownBlock = some ob := fun e => by have := (hrow _ e).1; omega
  have ncb : ¬ (Value.slice aa k bc).ownBlock = some cb := fun e => by have := (hrow _ e).1; omega
  have ng : ¬ (Value.slice aa k bc).ownBlock = some g := fun e => by have := (hrow _ e).1; omega
  have hb2 := h.box.save hp.sv (by omega)
  have hb4 := hb2.save h24 nob
  have hf2 : OFree w2 ob := ⟨(hp.sv.frozen (p := ⟨ob, _, none⟩) h.box.lt (by show ¬ ob = cb; omega)).trans h.fr.g0, (hp.sv.frozen (p := ⟨ob, _, none⟩) h.box.lt (by show ¬ ob = cb; omega)).trans h.fr.g1, (hp.sv.frozen (p := ⟨ob, _, none⟩) h.box.lt (by show ¬ ob = cb; omega)).trans h.fr.g2, (hp.sv.frozen (p := ⟨ob, _, none⟩) h.box.lt (by show ¬ ob = cb; omega)).trans h.fr.g3, (hp.sv.frozen (p := ⟨ob, _, none⟩) h.box.lt (by show ¬ ob = cb; omega)).trans h.fr.g4, (hp.sv.frozen (p := ⟨ob, _, none⟩) h.box.lt (by show ¬ ob = cb; omega)).trans h.fr.g5, (hp.sv.frozen (p := ⟨ob, _, none⟩) h.box.lt (by show ¬ ob = cb; omega)).trans h.fr.g6⟩
  have hf4 : OFree w4 ob := ⟨(h24.frozen (p := ⟨ob, _, none⟩) hb2.lt nob).trans hf2.g0, (h24.frozen (p := ⟨ob, _, none⟩) hb2.lt nob).trans hf2.g1, (h24.frozen (p := ⟨ob, _, none⟩) hb2.lt nob).trans hf2.g2, (h24.frozen (p := ⟨ob, _, none⟩) hb2.lt nob).trans hf2.g3, (h24.frozen (p := ⟨ob, _, none⟩) hb2.lt nob).trans hf2.g4, (h24.frozen (p := ⟨ob, _, none⟩) hb2.lt nob).trans hf2.g5, (h24.frozen (p := ⟨ob, _, none⟩) hb2.lt nob).trans hf2.g6⟩
  have hrow4 := World.ownsRow.lt how
  have hcb2 : cb < w2.heap.size := by omega
  refine ⟨⟨Nat.lt_of_lt_of_le hb4.lt hset.size, ?_, ?_, ?_, ?_, ?_, ?_, ?_⟩, ⟨by simpa using hf4.g0, by simpa using hf4.g1, by simpa using hf4.g2, by simpa using hf4.g3, by simpa using hf4.g4, by simpa using hf4.g5, by simpa using hf4.g6⟩, ownBo_save how hset (fun j e e2 => by have := (hrow4 j e).1; omega), fun i hi => ?_, fun o => ?_, ?_, ?_⟩
  · rw [World.cell?_setCell_other _ _ _ _ (by simp)]; exact hb4.o0
  · rw [World.cell?_setCell_other _ _ _ _ (by simp)]; exact hb4.o1
  · rw [World.cell?_setCell_other _ _ _ _ (by simp)]; exact hb4.o2
  · rw [World.cell?_setCell_other _ _ _ _ (by simp)]; exact hb4.o3
  · rw [World.cell?_setCell_other _ _ _ _ (by simp)]; exact hb4.o4
  · simp [go_sem, hb4.o5]
  · rw [World.cell?_setCell_other _ _ _ _ (by simp)]; exact hb4.o6
  · have hTcb : StT B cb ob (.slice aa k bc) cb := Or.inr (Or.inl rfl)
    have c2 : CkX w2 (StT B cb ob (.slice aa k bc)) cb i (if i < k + 1 then clAt D i else clAt C i) := by
      by_cases e : i = k
      · subst e
        rw [if_pos (by omega)]
        exact hp.ck
      · have := (h.cks i hi).node hp e hTcb
        by_cases e2 : i < k
        · rw [if_pos (by omega)]; rwa [if_pos e2] at this
        · rw [if_neg (by omega)]; rwa [if_neg e2] at this
    have c4 : CkX w4 (StT B cb ob (.slice (some ⟨gb, 0, none⟩) (k + 1) cp)) cb i (if i < k + 1 then clAt D i else clAt C i) := c2.step h24 hcb2 ncb (fun j _ e => Or.inr (Or.inr (Or.inr e))) (fun j e => by
      rcases e with e | e | e | e
      · exact Or.inl (Or.inl e)
      · exact Or.inl (Or.inr (Or.inl e))
      · exact Or.inl (Or.inr (Or.inr (Or.inl e)))
      · rcases hat with h6 | h6
        · rw [h6] at e
          exact Or.inl (Or.inr (Or.inr (Or.inr e)))
        · rw [h6] at e
          injection e with e
          exact Or.inr (by omega))
    exact c4.step hset (by omega) (by show ¬ cb = ob; omega) (fun j _ e => Or.inr (Or.inr (Or.inl e))) (fun j e => Or.inl e)
  · rw [frozen_setCell']
    exact ((h24.frozen (p := ⟨cb, o, none⟩) hcb2 ncb).trans (hp.fz o)).trans (h.fz o)
  · exact hset.nodes (h24.nodes (hp.sv.nodes h.nodes hgc) ng) (by omega)
  · refine Save.setCell (S := fun j => j = ob ∨ j = cb) ?_ (p := ⟨ob, 5, none⟩) (fun _ => Or.inl rfl) _
    refine (h.sv.trans (hp.sv.mono (fun j _ e => Or.inr e))).over h24 (fun j hj e => by have := (hrow j e).1; omega)
end Go.Proofs.YtbfkbgmkibkbnaaGreatDoor
namespace Go.Proofs.YtbfkbgmkibkbnaaGreatDoor
open Go.RowKit
set_option linter.unusedVariables false
set_option linter.unusedSimpArgs false
theorem StAt.start {B : Nat} {w1 : World} {g n gc cb cap : Nat} {cnt now : Int} {f : List Nd} {C D : List Cl} {G : Nat → Bool} (hn : NodesAt w1 g f) (hc : cb < w1.heap.size) (hck : ∀ i, i < n → CkX w1 (fun j => j = cb ∨ j < B) cb i (clAt C i)) (hfz : ∀ o, w1.frozen? ⟨cb, o, none⟩ = false) : StAt B (w1.alloc (.cells #[.slice (some ⟨g, 0, none⟩) n gc, .int .i64 cnt, .int .i64 now, .slice (some ⟨cb, 0, none⟩) n cap, .bool false, .slice none 0 0, .int .i64 0] 36)) (w1.alloc (.cells #[.slice (some ⟨g, 0, none⟩) n gc, .int .i64 cnt, .int .i64 now, .slice (some ⟨cb, 0, none⟩) n cap, .bool false, .slice none 0 0, .int .i64 0] 36)) w1.heap.size g n gc cb cap cnt now none 0 f C D G 0 := by
  have hb := below_one' w1 (.cells #[.slice (some ⟨g, 0, none⟩) n gc, .int .i64 cnt, .int .i64 now, .slice (some ⟨cb, 0, none⟩) n cap, .bool false, .slice none 0 0, .int .i64 0] 36)
  refine ⟨⟨by simp, by simp [go_sem], by simp [go_sem], by simp [go_sem], by simp [go_sem], by simp [go_sem], by simp [go_sem], by simp [go_sem]⟩, ⟨by simp [go_sem], by simp [go_sem], by simp [go_sem], by simp [go_sem], by simp [go_sem], by simp [go_sem], by simp [go_sem]⟩, World.ownsRow_nil _ _ _ _, fun i hi => ?_, fun o => (hb.frozen (p := ⟨cb, o, none⟩) hc).trans (hfz o), hn.below hb hn.1, Save.refl _ _⟩
  rw [if_neg (by omega)]
  refine (hck i hi).step (Save.of_below hb (fun _ => False) (fun j h1 h2 => absurd h1 (by omega))) hc (fun h => h) (fun _ _ h => h.elim) (fun j e => ?_)
  rcases e with e | e | e | e
  · exact Or.inl (Or.inr e)
  · exact Or.inl (Or.inl e)
  · exact Or.inr (by omega)
  · simp [Value.ownBlock] at e
/-- What l06Node reads, out of what stands in the loop. -/
theorem StAt.node {B : Nat} {Wd wr W' : World} {ob g n gc cb cap : Nat} {cnt now : Int} {aa : Option Addr} {bc : Nat} {f : List Nd} {C D : List Cl} {G : Nat → Bool} {k : Nat} (h : StAt B Wd wr ob g n gc cb cap cnt now aa bc f C D G k) (hBw : B ≤ wr.heap.size) (hfn : n = f.length) (hn : n ≤ 24) (hk : k < n) (hcb : cb < ob) (hgb : g < ob) (hod : ob < Wd.heap.size) (hr : rightB f = true) (hcell : cellB cnt now (ndAt f k) (clAt C k) = true) (htn : timeB now = true) (tm : Int) (ht : timeB tm = true) (S : List ByteArray) (na : Option Addr) (nn nc : Nat) (hnn : S.length = nn) (hnl : nn ≤ maxLen) (hst : stB cnt now tm S (ndAt f k) (clAt C k) G = (G k, clAt D k)) (hb : Below wr.heap.size wr W') (hT : TsAt W' na S) :
    Calls Tryz.prog 105 #[.pointer (some ⟨ob, 0, none⟩), .int .i64 k, .agg #[.int .i64 tm, .slice na nn nc], .slice aa k bc] W' fun e w'' => e = .returned (.bool (G k)) ∧ NdPost W' w'' (StT B cb ob (.slice aa k bc)) cb k (clAt D k) := by
  have hck := h.cks k hk
  rw [if_neg (by omega)] at hck
  obtain ⟨a, ac, k0, k1, k2, k3, hsl, hA, hne⟩ := hck
  have hbx := h.box.on hb
  have hz := h.sv.size
  have hzb := hb.size
  have hcr : cb < wr.heap.size := by omega
  obtain ⟨q1, q2⟩ := right_node hr k (by omega)
  have hrow := World.ownsRow.lt h.own
  have hform : 0 < k → ∃ ab, aa = some ⟨ab, 0, none⟩ ∧ ab < wr.heap.size ∧ ∀ p, p < k → wr.cell? ⟨ab, p, none⟩ = some (.bool (G p)) := fun h0 => by
    obtain ⟨gb, cp, e, _, _⟩ := World.ownsRow.form h.own h0
    have hown := h.own
    rw [e] at hown
    injection e with e1 e2 e3
    refine ⟨gb, e1, (World.ownsRow.lt hown gb rfl).2, fun p hp => ?_⟩
    have := World.ownsRow.cells (g := gb) hown rfl p (.bool (G p)) (boolL_at G k p hp)
    rwa [Addr.add_lit, Nat.zero_add] at this
  have hw : WnIn W' ob g n gc cnt now cb n cap k (ndAt f k) (clAt C k) a ac := ⟨hbx.lt, hbx.o0, hbx.o1, hbx.o2, hbx.o3, Nat.lt_of_lt_of_le h.nodes.1 hzb, by omega, (h.nodes.2 k (by omega)).below hb h.nodes.1, (hb.cell (p := ⟨cb, _, none⟩) hcr).trans k0, (hb.cell (p := ⟨cb, _, none⟩) hcr).trans k1, (hb.cell (p := ⟨cb, _, none⟩) hcr).trans k2, (hb.cell (p := ⟨cb, _, none⟩) hcr).trans k3, hk, hk, by omega, by omega⟩
  have hTl : ∀ j, StT B cb ob (.slice aa k bc) j → j < W'.heap.size := fun j e => by
    rcases e with e | e | e | e
    · omega
    · omega
    · have := h.box.lt; omega
    · have := (hrow j e).2; omega
  by_cases h0 : 0 < k
  · obtain ⟨ab, rfl, hab, hg⟩ := hform h0
    exact wNode_any ob g n gc cnt now cb n cap k (ndAt f k) (clAt C k) a ac hsl hcell htn tm ht S na nn nc hnn hnl q1 q2 ab k bc _ (fun _ => rfl) (Nat.le_refl _) (by omega) G (G k) (clAt D k) hst W' hw (fun o => (hb.frozen (p := ⟨cb, o, none⟩) hcr).trans (h.fz o)) (hA.on hb) _ hTl hne (fun _ => by omega) (fun p hp => (hb.cell (p := ⟨ab, p, none⟩) hab).trans (hg p hp)) hT
  · exact wNode_any ob g n gc cnt now cb n cap k (ndAt f k) (clAt C k) a ac hsl hcell htn tm ht S na nn nc hnn hnl q1 q2 0 k bc aa (fun h => absurd h h0) (Nat.le_refl _) (by omega) G (G k) (clAt D k) hst W' hw (fun o => (hb.frozen (p := ⟨cb, o, none⟩) hcr).trans (h.fz o)) (hA.on hb) _ hTl hne (fun h => absurd h h0) (fun p hp => by omega) hT
end Go.Proofs.YtbfkbgmkibkbnaaGreatDoor
