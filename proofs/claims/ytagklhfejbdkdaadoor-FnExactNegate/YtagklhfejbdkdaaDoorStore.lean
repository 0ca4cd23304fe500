/-
  The program's store of nodes: newStore, and add where the node is there already, and where it is new.
-/
import Derived.Test.YtagklhfejbdkdaaDoorSave
import Derived.Test.YtagklhfejbdkdaaDoorNrBase
namespace Go.Proofs.YtagklhfejbdkdaaDoor
open Go.RowKit
set_option linter.unusedVariables false
set_option linter.unusedSimpArgs false
/-- A store lies in a block: its nodes are g. -/
structure StoreAt (w : World) (sb mb base : Nat) (v : Value) (g : List Nd) : Prop where
  lts : sb < base
  ltm : mb < base
  ne : sb ≠ mb
  ltb : base ≤ w.heap.size
  cell0 : w.cell? ⟨sb, 0, none⟩ = some v
  cell1 : w.cell? ⟨sb, 1, none⟩ = some (.map (some mb))
  cell2 : w.cell? ⟨sb, 2, none⟩ = some (.int .i64 24)
  free : w.frozen? ⟨sb, 0, none⟩ = false
  own : OwnsN w base v g
  map : w.ownsMap Tryd.prog 46 (plainElem (H := Unit) Tryd.prog 2) mb g.length (placesD g g.length)
  ok : ∀ i, i < g.length → ndOk (ndAt g i)
  le : g.length ≤ 24
/-- The blocks of a store. -/
def StoreS (sb mb : Nat) (v : Value) (b : Nat) : Prop := b = sb ∨ b = mb ∨ v.ownBlock = some b
theorem StoreAt.save {w w' : World} {sb mb base : Nat} {v : Value} {g : List Nd} {S : Nat → Prop} (h : StoreAt w sb mb base v g) (hs : Save w w' S) (hS : ∀ b, StoreS sb mb v b → ¬ S b) : StoreAt w' sb mb base v g := by
  have hl := h.lts; have hm := h.ltm; have hb := h.ltb
  have e1 : ¬ S sb := hS sb (Or.inl rfl)
  have e2 : ¬ S mb := hS mb (Or.inr (Or.inl rfl))
  refine ⟨h.lts, h.ltm, h.ne, Nat.le_trans h.ltb hs.size, (hs.cell (p := ⟨sb, _, none⟩) (by simp only; omega) e1).trans h.cell0, (hs.cell (p := ⟨sb, _, none⟩) (by simp only; omega) e1).trans h.cell1, (hs.cell (p := ⟨sb, _, none⟩) (by simp only; omega) e1).trans h.cell2,
    (hs.frozen (p := ⟨sb, _, none⟩) (by simp only; omega) e1).trans h.free, h.own.save hs (fun k hk => hS k (Or.inr (Or.inr hk))), ?_, h.ok, h.le⟩
  have hg : w.grownBy w' none ∨ True := Or.inr trivial
  obtain ⟨es, clock, hbk, rest⟩ := h.map
  exact ⟨es, clock, by rw [hs.block mb (by omega) e2]; exact hbk, rest⟩
set_option maxHeartbeats 400000 in
theorem newStore_any (w : World) :
    Calls Tryd.prog 52 #[.int .i64 24] w fun e w' => ∃ sb mb, e = .returned (.pointer (some ⟨sb, 0, none⟩)) ∧ w.heap.size ≤ sb ∧ w.heap.size ≤ mb ∧ StoreAt w' sb mb w'.heap.size (.slice none 0 0) [] ∧ Below w.heap.size w w' := by
  have hmm := @run_makeMap Tryd.prog
  go_enter Tryd.func52, Tryd.ntmps52
  go_wp2
  go_ret
  refine ⟨_, w.heap.size, rfl, by simp, by simp, ⟨by simp, by simp; omega, by simp, Nat.le_refl _, by simp [go_sem], by simp [go_sem], by simp [go_sem], by simp [go_sem], World.ownsRow_nil _ _ _ _, (World.ownsMap_made _ _ _ _).alloc _, fun i h => by simp at h, by simp⟩, ((Below.refl _ _).alloc (Nat.le_refl _) _).alloc (by simp) _⟩
theorem ownsMap_drewN {H : Type} {P : Program} {k : TypeId} {R : Value → Option (DataW H × List MemPlace)} {w : World} {b n : Nat} {D : DataW H} (h : w.ownsMap P k R b n D) (m : Nat) : (w.drewN m).ownsMap P k R b n D := h
theorem Tryd.zeroI (w : World) : (zeroValue 2).run Tryd.prog w = .ok (.int .i64 0) w := by kernel_rfl
/-- The look-up of a node, in whatever world of the class. -/
theorem look_node {w : World} {mb n : Nat} {D : DataW Unit} (h : w.ownsMap Tryd.prog 46 (plainElem (H := Unit) Tryd.prog 2) mb n D) (x : Nd) (hx : ndOk x) :
    ∃ c : Int, D.atKey (keyL x) (.lit (.int .i64 0)) = .lit (.int .i64 c) ∧ Sem.run Tryd.prog (Instr.lookup 78 (.map (some mb)) (ndV x) true) w = .ok (.tuple #[.int .i64 c, .bool (Maps.has D (keyL x))]) w := by
  obtain ⟨v, ps, h1, h2⟩ := h.look_ok Tryd.keyNd Tryd.underlying78 (Tryd.zeroI w) (plainElem_int Tryd.underlying2 (a := 0) (by decide)) (keyOf_nd x hx)
  obtain ⟨c, rfl, e, _⟩ := plainElem_int_inv Tryd.underlying2 h2
  simp only [Prod.mk.injEq] at e
  exact ⟨c, e.1, h1⟩
set_option maxRecDepth 20000 in
set_option maxHeartbeats 1000000 in
theorem add_old (x : Nd) (hx : ndOk x) (g : List Nd) (sb mb base : Nat) (v : Value) (w : World) (hS : StoreAt w sb mb base v g) (j : Nat) (hj : j < g.length) (hjx : ndAt g j = x) (hu : ∀ i, j < i → i < g.length → ndAt g i ≠ x) :
    Calls Tryd.prog 62 #[.pointer (some ⟨sb, 0, none⟩), ndV x] w fun e w' => e = .returned (.tuple #[.int .i64 j, .nilIface]) ∧ Below w.heap.size w w' := by
  have hsb : sb < w.heap.size := Nat.lt_of_lt_of_le hS.lts hS.ltb
  obtain ⟨i1, i2⟩ := placesD_some g x hx j hjx g.length hj hS.ok hu
  have hl : ∀ m, Sem.run Tryd.prog (Instr.lookup 78 (.map (some mb)) (.agg #[.int .i64 x.k, .int .i64 x.a, .int .i64 x.b, .int .i64 x.lo, .int .i64 x.hi, .string x.nm]) true) ((w.alloc (.cells #[.int .i64 x.k, .int .i64 x.a, .int .i64 x.b, .int .i64 x.lo, .int .i64 x.hi, .string x.nm] 46)).drewN m) = .ok (.tuple #[.int .i64 j, .bool true]) ((w.alloc (.cells #[.int .i64 x.k, .int .i64 x.a, .int .i64 x.b, .int .i64 x.lo, .int .i64 x.hi, .string x.nm] 46)).drewN m) := by
    intro m
    obtain ⟨c, hc, hr⟩ := look_node (ownsMap_drewN (hS.map.alloc (.cells #[.int .i64 x.k, .int .i64 x.a, .int .i64 x.b, .int .i64 x.lo, .int .i64 x.hi, .string x.nm] 46)) m) x hx
    rw [i2, i1] at *
    simp at hc
    subst hc
    exact hr
  have c1 := hS.cell1
  clear hS i1 i2 hu
  unfold ndV
  go_enter Tryd.func62, Tryd.ntmps62
  go_wp2
  go_quiet (fail)
  go_wp2
  go_ret2
  exact ⟨rfl, below_drewN ((Below.refl _ _).alloc (Nat.le_refl _) _) _⟩
theorem placesD_congr (f g : List Nd) : ∀ k, (∀ i, i < k → ndAt f i = ndAt g i) → placesD f k = placesD g k := by
  intro k
  induction k with
  | zero => intro _; rfl
  | succ k ih => intro h; unfold placesD; rw [ih (fun i hi => h i (by omega)), h k (by omega)]
theorem ndAt_left (g : List Nd) (x : Nd) (i : Nat) (h : i < g.length) : ndAt (g ++ [x]) i = ndAt g i := by
  simp [ndAt, List.getD, List.getElem?_append_left h]
theorem ndAt_last (g : List Nd) (x : Nd) : ndAt (g ++ [x]) g.length = x := by simp [ndAt]
theorem placesD_snoc (g : List Nd) (x : Nd) : placesD (g ++ [x]) (g ++ [x]).length = (placesD g g.length).put (keyL x) (.lit (.int .i64 g.length)) := by
  rw [List.length_append]
  show (placesD (g ++ [x]) g.length).put (keyL (ndAt (g ++ [x]) g.length)) (.lit (.int .i64 g.length)) = _
  rw [ndAt_last, placesD_congr (g ++ [x]) g g.length (fun i hi => ndAt_left g x i hi)]
/-- Behind the append, ahead of the store. -/
structure StoreMid (w2 w3 : World) (sb mb base : Nat) (v v' : Value) (g : List Nd) (x : Nd) : Prop where
  cell0 : w3.cell? ⟨sb, 0, none⟩ = some v
  cell1 : w3.cell? ⟨sb, 1, none⟩ = some (.map (some mb))
  cell2 : w3.cell? ⟨sb, 2, none⟩ = some (.int .i64 24)
  free : w3.frozen? ⟨sb, 0, none⟩ = false
  own : OwnsN w3 base v' (g ++ [x])
  map : w3.ownsMap Tryd.prog 46 (plainElem (H := Unit) Tryd.prog 2) mb g.length (placesD g g.length)
  save : Save w2 w3 (StoreS sb mb v)
theorem StoreAt.mid {w2 W w3 : World} {sb mb base : Nat} {v v' : Value} {g : List Nd} {x : Nd} (h : StoreAt w2 sb mb base v g) (hW : Save w2 W (fun _ => False)) (hown : w3.ownsRow base 46 6 v' (g.length + 1) (flatN g ++ ndCells x)) (hg : W.grownBy w3 v.ownBlock) : StoreMid w2 w3 sb mb base v v' g x := by
  have hl := h.lts; have hm := h.ltm; have hb := h.ltb
  have hs1 : Save w2 w3 (fun b => v.ownBlock = some b) := (hW.mono (fun _ _ h => h.elim)).grown hg (fun k hk _ => hk)
  have e1 : ¬ v.ownBlock = some sb := fun e => by have := (World.ownsRow.lt h.own sb e).1; omega
  have e2 : ¬ v.ownBlock = some mb := fun e => by have := (World.ownsRow.lt h.own mb e).1; omega
  refine ⟨(hs1.cell (p := ⟨sb, _, none⟩) (by simp only; omega) e1).trans h.cell0, (hs1.cell (p := ⟨sb, _, none⟩) (by simp only; omega) e1).trans h.cell1, (hs1.cell (p := ⟨sb, _, none⟩) (by simp only; omega) e1).trans h.cell2,
    (hs1.frozen (p := ⟨sb, _, none⟩) (by simp only; omega) e1).trans h.free, by unfold OwnsN; rw [flatN_snoc, List.length_append]; exact hown, ?_, hs1.mono (fun k _ hk => Or.inr (Or.inr hk))⟩
  obtain ⟨es, clock, hbk, rest⟩ := h.map
  exact ⟨es, clock, by rw [hs1.block mb (by omega) e2]; exact hbk, rest⟩
theorem StoreMid.fin {w2 w3 w5 : World} {sb mb base : Nat} {v v' : Value} {g : List Nd} {x : Nd} (h : StoreAt w2 sb mb base v g) (m : StoreMid w2 w3 sb mb base v v' g x) (hx : ndOk x) (hlen : g.length < 24)
    (hmap : w5.ownsMap Tryd.prog 46 (plainElem (H := Unit) Tryd.prog 2) mb (g.length + 1) ((placesD g g.length).put (keyL x) (.lit (.int .i64 g.length)))) (hg : (w3.setCell ⟨sb, 0, none⟩ v').drew.grownBy w5 (some mb)) :
    StoreAt w5 sb mb base v' (g ++ [x]) ∧ Save w2 w5 (StoreS sb mb v) := by
  have hl := h.lts; have hm := h.ltm; have hb := h.ltb; have hne := h.ne; have hz := m.save.size
  have hs0 : Save (w3.setCell ⟨sb, 0, none⟩ v') w5 (fun b => b = mb) := ((Save.refl _ _).drew).grown hg (fun k hk _ => by cases hk; rfl)
  have hz4 : (w3.setCell ⟨sb, 0, none⟩ v').heap.size = w3.heap.size := by simp
  have d1 : (w3.setCell ⟨sb, 0, none⟩ v').cell? ⟨sb, 0, none⟩ = some v' := World.cell?_setCell_same' _ _ _ (by rw [m.cell0]; rfl)
  have d2 : (w3.setCell ⟨sb, 0, none⟩ v').cell? ⟨sb, 1, none⟩ = some (.map (some mb)) := by rw [World.cell?_setCell_other _ _ _ _ (by simp)]; exact m.cell1
  have d3 : (w3.setCell ⟨sb, 0, none⟩ v').cell? ⟨sb, 2, none⟩ = some (.int .i64 24) := by rw [World.cell?_setCell_other _ _ _ _ (by simp)]; exact m.cell2
  have hown4 : OwnsN (w3.setCell ⟨sb, 0, none⟩ v') base v' (g ++ [x]) := ownsRow_setCell_below m.own (by simp only; omega) _
  refine ⟨⟨hl, hm, hne, by have := hs0.size; omega, (hs0.cell (p := ⟨sb, _, none⟩) (by simp only; omega) hne).trans d1, (hs0.cell (p := ⟨sb, _, none⟩) (by simp only; omega) hne).trans d2, (hs0.cell (p := ⟨sb, _, none⟩) (by simp only; omega) hne).trans d3,
    (hs0.frozen (p := ⟨sb, _, none⟩) (by simp only; omega) hne).trans (by simp [m.free]), hown4.save hs0 (fun k hk e => by have := (World.ownsRow.lt m.own k hk).1; omega), ?_, ?_, by simp; omega⟩, ?_⟩
  · rw [placesD_snoc, List.length_append]; exact hmap
  · intro i hi
    by_cases e : i = g.length
    · subst e; rw [ndAt_last]; exact hx
    · have : i < g.length := by simp at hi; omega
      rw [ndAt_left g x i this]; exact h.ok i this
  · exact ((m.save.setCell (p := ⟨sb, 0, none⟩) (fun _ => Or.inl rfl) v').drew).grown hg (fun k hk _ => by cases hk; exact Or.inr (Or.inl rfl))
theorem cells_six (w : World) (x : Nd) : ∀ j u, (ndCells x)[j]? = some u → (w.alloc (.cells #[.int .i64 x.k, .int .i64 x.a, .int .i64 x.b, .int .i64 x.lo, .int .i64 x.hi, .string x.nm] 46)).drew.cell? ((⟨w.heap.size, 0, none⟩ : Addr).add j) = some u := by
  intro j u hu
  have hj : j < 6 := (List.getElem?_eq_some_iff.1 hu).1
  rw [Addr.add_lit]
  have h := box_node w x 46
  have hc : j = 0 ∨ j = 1 ∨ j = 2 ∨ j = 3 ∨ j = 4 ∨ j = 5 := by omega
  rcases hc with rfl | rfl | rfl | rfl | rfl | rfl
  · simp [ndCells] at hu; subst hu; exact h.c0
  · simp [ndCells] at hu; subst hu; exact h.c1
  · simp [ndCells] at hu; subst hu; exact h.c2
  · simp [ndCells] at hu; subst hu; exact h.c3
  · simp [ndCells] at hu; subst hu; exact h.c4
  · simp [ndCells] at hu; subst hu; exact h.c5
set_option maxRecDepth 20000 in
set_option maxHeartbeats 2000000 in
theorem add_new (x : Nd) (hx : ndOk x) (g : List Nd) (sb mb base : Nat) (v : Value) (w : World) (hS : StoreAt w sb mb base v g) (hlen : g.length < 24) (hu : ∀ i, i < g.length → ndAt g i ≠ x) :
    Calls Tryd.prog 62 #[.pointer (some ⟨sb, 0, none⟩), ndV x] w fun e w' => e = .returned (.tuple #[.int .i64 g.length, .nilIface]) ∧ ∃ v', StoreAt w' sb mb base v' (g ++ [x]) ∧ Save w w' (StoreS sb mb v) ∧ (∀ k, v'.ownBlock = some k → v.ownBlock = some k ∨ w.heap.size ≤ k) := by
  have hsb : sb < w.heap.size := Nat.lt_of_lt_of_le hS.lts hS.ltb
  have i1 := placesD_none g x hx g.length hS.ok hu
  have hl : ∀ m, Sem.run Tryd.prog (Instr.lookup 78 (.map (some mb)) (.agg #[.int .i64 x.k, .int .i64 x.a, .int .i64 x.b, .int .i64 x.lo, .int .i64 x.hi, .string x.nm]) true) ((w.alloc (.cells #[.int .i64 x.k, .int .i64 x.a, .int .i64 x.b, .int .i64 x.lo, .int .i64 x.hi, .string x.nm] 46)).drewN m) = .ok (.tuple #[.int .i64 0, .bool false]) ((w.alloc (.cells #[.int .i64 x.k, .int .i64 x.a, .int .i64 x.b, .int .i64 x.lo, .int .i64 x.hi, .string x.nm] 46)).drewN m) := by
    intro m
    obtain ⟨c, hc, hr⟩ := look_node (ownsMap_drewN (hS.map.alloc (.cells #[.int .i64 x.k, .int .i64 x.a, .int .i64 x.b, .int .i64 x.lo, .int .i64 x.hi, .string x.nm] 46)) m) x hx
    rw [i1] at hr
    rw [Maps.atKey_of_not_has i1] at hc
    simp at hc
    subst hc
    exact hr
  have HS0 := hid hS
  have c1 := hS.cell1
  have HBX := hid (box_node w x 46)
  clear hS i1
  unfold ndV
  go_enter Tryd.func62, Tryd.ntmps62
  go_wp2
  go_quiet (fail)
  have HS1 : Hid (StoreAt ((w.alloc (.cells #[.int .i64 x.k, .int .i64 x.a, .int .i64 x.b, .int .i64 x.lo, .int .i64 x.hi, .string x.nm] 46)).drewN nq) sb mb base v g) := HS0.out.save (S := fun _ => False) (((Save.refl w _).alloc _).drewN _) (fun _ _ h => h)
  have HV1 : Hid (Save w ((w.alloc (.cells #[.int .i64 x.k, .int .i64 x.a, .int .i64 x.b, .int .i64 x.lo, .int .i64 x.hi, .string x.nm] 46)).drewN nq) (StoreS sb mb v)) := (((Save.refl w _).alloc _).drewN _)
  have HN1 : Hid (NodeAt ((w.alloc (.cells #[.int .i64 x.k, .int .i64 x.a, .int .i64 x.b, .int .i64 x.lo, .int .i64 x.hi, .string x.nm] 46)).drewN nq) w.heap.size 0 x) := ⟨HBX.out.c0, HBX.out.c1, HBX.out.c2, HBX.out.c3, HBX.out.c4, HBX.out.c5⟩
  have hz1 : w.heap.size < ((w.alloc (.cells #[.int .i64 x.k, .int .i64 x.a, .int .i64 x.b, .int .i64 x.lo, .int .i64 x.hi, .string x.nm] 46)).drewN nq).heap.size := by simp
  generalize ((w.alloc (.cells #[.int .i64 x.k, .int .i64 x.a, .int .i64 x.b, .int .i64 x.lo, .int .i64 x.hi, .string x.nm] 46)).drewN nq) = w1 at *
  clear hl c1
  have c0 := HS1.out.cell0
  have c1 := HS1.out.cell1
  have c2 := HS1.out.cell2
  obtain ⟨va, vc, hv, hvf⟩ := HS1.out.own.form
  rw [hv] at c0
  go_wp2
  go_quiet (fail)
  have HS2 : Hid (StoreAt (w1.drewN nq) sb mb base v g) := HS1.out.save (S := fun _ => False) ((Save.refl w1 _).drewN _) (fun _ _ h => h)
  have HV2 : Hid (Save w (w1.drewN nq) (StoreS sb mb v)) := HV1.out.drewN _
  have HN2 : Hid (NodeAt (w1.drewN nq) w.heap.size 0 x) := ⟨HN1.out.c0, HN1.out.c1, HN1.out.c2, HN1.out.c3, HN1.out.c4, HN1.out.c5⟩
  have hz2 : w.heap.size < (w1.drewN nq).heap.size := hz1
  generalize (w1.drewN nq) = w2 at *
  clear c0 c1 c2 HS1 HV1 HN1 hz1
  have c0 := HS2.out.cell0
  rw [hv] at c0
  have hd : decide ((24 : Int) ≤ (g.length : Int)) = false := by simp; omega
  go_wp2
  have hfr := HS2.out.free
  obtain ⟨d0, d1, d2, d3, d4, d5⟩ := (show NodeAt w2 w.heap.size 0 (x.k, x.a, x.b, x.lo, x.hi, x.nm) from HN2.out).zero
  obtain ⟨i0, hi, hz0, hz1, hz3⟩ := info_parts Tryd.infoN
  have hsb2 : sb < w2.heap.size := by omega
  have HO := hid HS2.out.own
  rw [hv] at HO
  have hbs := HS2.out.ltb
  have HM : Hid (∀ (W w3 : World) (v' : Value), Save w2 W (fun _ => False) → w3.ownsRow base 46 6 v' (g.length + 1) (flatN g ++ ndCells x) → W.grownBy w3 (Value.slice va g.length vc).ownBlock → StoreMid w2 w3 sb mb base (Value.slice va g.length vc) v' g x) := by
    intro W w3 v' h1 h2 h3
    have := HS2.out
    rw [hv] at this
    exact this.mid h1 h2 h3
  have HV2' := HV2
  have HSV := HS2
  rw [hv] at HV2' HSV
  go_region_law (refine step_append_own rfl (.tmp 40) (.tmp 42) 24 rfl base 46 i0 _ 6 56 Tryd.uNs hi hz0 hz1 hz3 rfl (by decide) (.slice va g.length vc) g.length (flatN g) (by simp [Act.eval, Act.put]) (HO.out.alloc _).drew ⟨w2.heap.size, 0, none⟩ 1 1 (ndCells x) (by simp [Act.eval, Act.put]) rfl (cells_six w2 x) (by simp [ndCells, Value.oneCell']) (by unfold maxLen; omega) (by omega) (by simp; omega) ?_; intro v' w3 hown3 hgrow3 hloc3; obtain ⟨gb, cp, rfl, _, _⟩ := World.ownsRow.form hown3 (by omega); have HMid := hid (HM.out _ _ _ (((Save.refl w2 _).alloc _).drew) hown3 hgrow3); have hc3 := HMid.out.cell0; have hf3 := HMid.out.free; have HL := hid hloc3; clear hown3 hgrow3 hloc3)
  all_goals
    clear hc3 hf3 d0 d1 d2 d3 d4 d5 c0 hfr
    have hzm := HMid.out.save.size
    have e1 : (w3.setCell ⟨sb, 0, none⟩ (Value.slice (some ⟨gb, 0, none⟩) (g.length + 1) cp)).cell? ⟨sb, 1, none⟩ = some (.map (some mb)) := by rw [World.cell?_setCell_other _ _ _ _ (by simp)]; exact HMid.out.cell1
    have HN4 : Hid (NodeAt (w3.setCell ⟨sb, 0, none⟩ (Value.slice (some ⟨gb, 0, none⟩) (g.length + 1) cp)) w.heap.size 0 x) := ((HMid.out.save.setCell (S := StoreS sb mb (Value.slice va g.length vc)) (p := ⟨sb, 0, none⟩) (fun _ => Or.inl rfl) _)).node HN2.out hz2 (by
      rintro (e | e | e)
      · omega
      · have := HS0.out.ltm; have := HS0.out.ltb; omega
      · rw [← hv] at e; have := (World.ownsRow.lt HS0.out.own _ e).2; omega)
    obtain ⟨d0, d1, d2, d3, d4, d5⟩ := (show NodeAt _ w.heap.size 0 (x.k, x.a, x.b, x.lo, x.hi, x.nm) from HN4.out).zero
    obtain ⟨w5, hupd, hmap5, hg5⟩ := (((HMid.out.map.setCell (a := ⟨sb, 0, none⟩) (fun e => HS0.out.ne e.symm) (Value.slice (some ⟨gb, 0, none⟩) (g.length + 1) cp))).drew).update Tryd.keyNd Tryd.underlying78 (by unfold maxLen; omega) (key := (.agg #[.int .i64 x.k, .int .i64 x.a, .int .i64 x.b, .int .i64 x.lo, .int .i64 x.hi, .string x.nm])) (val := .int .i64 g.length) (keyOf_nd x hx) (plainElem_int Tryd.underlying2 (wf64 (by omega)))
    have HF := hid (HMid.out.fin HSV.out hx hlen hmap5 hg5)
    clear hmap5 hg5
    go_wp2
    go_region
    go_wp2
    go_ret2
    refine ⟨rfl, _, HF.out.1, ?_, fun k hk => ?_⟩
    · rw [hv]; exact HV2'.out.trans HF.out.2
    · rcases HL.out with h | h
      · left; rw [hv, ← h]; exact hk
      · right
        rw [hk] at h
        have h' := Option.some.inj h
        simp at h'
        omega
end Go.Proofs.YtagklhfejbdkdaaDoor
