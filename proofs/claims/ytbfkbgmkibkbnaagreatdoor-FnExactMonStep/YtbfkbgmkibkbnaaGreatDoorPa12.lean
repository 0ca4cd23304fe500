/-
  The program's store of nodes: newStore, and add where the node is there already, and where it is new.
  The program's walk through a formula: what its block holds; what is seen, and what has been come to.
  The program's visit, kind by kind.
-/
import Derived.Test.YtbfkbgmkibkbnaaGreatDoorPa04
import Derived.Test.YtbfkbgmkibkbnaaGreatDoorPa08
namespace Go.Proofs.YtbfkbgmkibkbnaaGreatDoor
open Go.RowKit
set_option linter.unusedVariables false
set_option linter.unusedSimpArgs false
/-- A store lies in a block: its nodes are g. -/
structure StoreAt (w : World) (sb mb base : Nat) (v : Value) (g : List Nd) : Prop where
  lts : sb < base
  ltm : mb < base
  ne : sb ≠ mb
  ltb : base ≤ w.heap.size
  cell0 : w.cell? ⟨sb, 0, none⟩ = some v
  cell1 : w.cell? ⟨sb, 1, none⟩ = some (.map (some mb))
  cell2 : w.cell? ⟨sb, 2, none⟩ = some (.int .i64 24)
  free : w.frozen? ⟨sb, 0, none⟩ = false
  own : OwnsN w base v g
  map : w.ownsMap Tryz.prog 81 (plainElem (H := Unit) Tryz.prog 2) mb g.length (placesD g g.length)
  ok : ∀ i, i < g.length → ndOk (ndAt g i)
  le : g.length ≤ 24
/-- The blocks of a store. -/
def StoreS (sb mb : Nat) (v : Value) (b : Nat) : Prop := b = sb ∨ b = mb ∨ v.ownBlock = some b
theorem StoreAt.save {w w' : World} {sb mb base : Nat} {v : Value} {g : List Nd} {S : Nat → Prop} (h : StoreAt w sb mb base v g) (hs : Save w w' S) (hS : ∀ b, StoreS sb mb v b → ¬ S b) : StoreAt w' sb mb base v g := by
  have hl := h.lts; have hm := h.ltm; have hb := h.ltb
  have e1 : ¬ S sb := hS sb (Or.inl rfl)
  have e2 : ¬ S mb := hS mb (Or.inr (Or.inl rfl))
  refine ⟨h.lts, h.ltm, h.ne, Nat.le_trans h.ltb hs.size, (hs.cell (p := ⟨sb, _, none⟩) (by simp only; omega) e1).trans h.cell0, (hs.cell (p := ⟨sb, _, none⟩) (by simp only; omega) e1).trans h.cell1, (hs.cell (p := ⟨sb, _, none⟩) (by simp only; omega) e1).trans h.cell2,
    (hs.frozen (p := ⟨sb, _, none⟩) (by simp only; omega) e1).trans h.free, h.own.save hs (fun k hk => hS k (Or.inr (Or.inr hk))), ?_, h.ok, h.le⟩
  have hg : w.grownBy w' none ∨ True := Or.inr trivial
  obtain ⟨es, clock, hbk, rest⟩ := h.map
  exact ⟨es, clock, by rw [hs.block mb (by omega) e2]; exact hbk, rest⟩
set_option maxHeartbeats 400000 in
theorem newStore_any (w : World) :
    Calls Tryz.prog 82 #[.int .i64 24] w fun e w' => ∃ sb mb, e = .returned (.pointer (some ⟨sb, 0, none⟩)) ∧ w.heap.size ≤ sb ∧ w.heap.size ≤ mb ∧ StoreAt w' sb mb w'.heap.size (.slice none 0 0) [] ∧ Below w.heap.size w w' := by
  have hmm := @run_makeMap Tryz.prog
  go_enter Tryz.func82, Tryz.ntmps82
  go_wp2
  go_ret
  refine ⟨_, w.heap.size, rfl, by simp, by simp, ⟨by simp, by simp; omega, by simp, Nat.le_refl _, by simp [go_sem], by simp [go_sem], by simp [go_sem], by simp [go_sem], World.ownsRow_nil _ _ _ _, (World.ownsMap_made _ _ _ _).alloc _, fun i h => by simp at h, by simp⟩, ((Below.refl _ _).alloc (Nat.le_refl _) _).alloc (by simp) _⟩
theorem ownsMap_drewN {H : Type} {P : Program} {k : TypeId} {R : Value → Option (DataW H × List MemPlace)} {w : World} {b n : Nat} {D : DataW H} (h : w.ownsMap P k R b n D) (m : Nat) : (w.drewN m).ownsMap P k R b n D := h
theorem Tryz.zeroI (w : World) : (zeroValue 2).run Tryz.prog w = .ok (.int .i64 0) w := by kernel_rfl
/-- The look-up of a node, in whatever world of the class. -/
theorem look_node {w : World} {mb n : Nat} {D : DataW Unit} (h : w.ownsMap Tryz.prog 81 (plainElem (H := Unit) Tryz.prog 2) mb n D) (x : Nd) (hx : ndOk x) :
    ∃ c : Int, D.atKey (keyL x) (.lit (.int .i64 0)) = .lit (.int .i64 c) ∧ Sem.run Tryz.prog (Instr.lookup 159 (.map (some mb)) (ndV x) true) w = .ok (.tuple #[.int .i64 c, .bool (Maps.has D (keyL x))]) w := by
  obtain ⟨v, ps, h1, h2⟩ := h.look_ok Tryz.keyNd Tryz.underlying159 (Tryz.zeroI w) (plainElem_int Tryz.underlying2 (a := 0) (by decide)) (keyOf_nd x hx)
  obtain ⟨c, rfl, e, _⟩ := plainElem_int_inv Tryz.underlying2 h2
  simp only [Prod.mk.injEq] at e
  exact ⟨c, e.1, h1⟩
set_option maxRecDepth 20000 in
set_option maxHeartbeats 1000000 in
theorem add_old (x : Nd) (hx : ndOk x) (g : List Nd) (sb mb base : Nat) (v : Value) (w : World) (hS : StoreAt w sb mb base v g) (j : Nat) (hj : j < g.length) (hjx : ndAt g j = x) (hu : ∀ i, j < i → i < g.length → ndAt g i ≠ x) :
    Calls Tryz.prog 83 #[.pointer (some ⟨sb, 0, none⟩), ndV x] w fun e w' => e = .returned (.tuple #[.int .i64 j, .nilIface]) ∧ Below w.heap.size w w' := by
  have hsb : sb < w.heap.size := Nat.lt_of_lt_of_le hS.lts hS.ltb
  obtain ⟨i1, i2⟩ := placesD_some g x hx j hjx g.length hj hS.ok hu
  have hl : ∀ m, Sem.run Tryz.prog (Instr.lookup 159 (.map (some mb)) (.agg #[.int .i64 x.k, .int .i64 x.a, .int .i64 x.b, .int .i64 x.lo, .int .i64 x.hi, .string x.nm]) true) ((w.alloc (.cells #[.int .i64 x.k, .int .i64 x.a, .int .i64 x.b, .int .i64 x.lo, .int .i64 x.hi, .string x.nm] 81)).drewN m) = .ok (.tuple #[.int .i64 j, .bool true]) ((w.alloc (.cells #[.int .i64 x.k, .int .i64 x.a, .int .i64 x.b, .int .i64 x.lo, .int .i64 x.hi, .string x.nm] 81)).drewN m) := by
    intro m
    obtain ⟨c, hc, hr⟩ := look_node (ownsMap_drewN (hS.map.alloc (.cells #[.int .i64 x.k, .int .i64 x.a, .int .i64 x.b, .int .i64 x.lo, .int .i64 x.hi, .string x.nm] 81)) m) x hx
    rw [i2, i1] at *
    simp at hc
    subst hc
    exact hr
  have c1 := hS.cell1
  clear hS i1 i2 hu
  unfold ndV
  go_enter Tryz.func83, Tryz.ntmps83
  go_wp2
  go_quiet (fail)
  go_wp2
  go_ret2
  exact ⟨rfl, below_drewN ((Below.refl _ _).alloc (Nat.le_refl _) _) _⟩
theorem placesD_congr (f g : List Nd) : ∀ k, (∀ i, i < k → ndAt f i = ndAt g i) → placesD f k = placesD g k := by
  intro k
  induction k with
  | zero => intro _; rfl
  | succ k ih => intro h; unfold placesD; rw [ih (fun i hi => h i (by omega)), h k (by omega)]
theorem ndAt_left (g : List Nd) (x : Nd) (i : Nat) (h : i < g.length) : ndAt (g ++ [x]) i = ndAt g i := by
  simp [ndAt, List.getD, List.getElem?_append_left h]
theorem ndAt_last (g : List Nd) (x : Nd) : ndAt (g ++ [x]) g.length = x := by simp [ndAt]
theorem placesD_snoc (g : List Nd) (x : Nd) : placesD (g ++ [x]) (g ++ [x]).length = (placesD g g.length).put (keyL x) (.lit (.int .i64 g.length)) := by
  rw [List.length_append]
  show (placesD (g ++ [x]) g.length).put (keyL (ndAt (g ++ [x]) g.length)) (.lit (.int .i64 g.length)) = _
  rw [ndAt_last, placesD_congr (g ++ [x]) g g.length (fun i hi => ndAt_left g x i hi)]
/-- Behind the append, ahead of the store. -/
structure StoreMid (w2 w3 : World) (sb mb base : Nat) (v v' : Value) (g : List Nd) (x : Nd) : Prop where
  cell0 : w3.cell? ⟨sb, 0, none⟩ = some v
  cell1 : w3.cell? ⟨sb, 1, none⟩ = some (.map (some mb))
  cell2 : w3.cell? ⟨sb, 2, none⟩ = some (.int .i64 24)
  free : w3.frozen? ⟨sb, 0, none⟩ = false
  own : OwnsN w3 base v' (g ++ [x])
  map : w3.ownsMap Tryz.prog 81 (plainElem (H := Unit) Tryz.prog 2) mb g.length (placesD g g.length)
  save : Save w2 w3 (StoreS sb mb v)
theorem StoreAt.mid {w2 W w3 : World} {sb mb base : Nat} {v v' : Value} {g : List Nd} {x : Nd} (h : StoreAt w2 sb mb base v g) (hW : Save w2 W (fun _ => False)) (hown : w3.ownsRow base 81 6 v' (g.length + 1) (flatN g ++ ndCells x)) (hg : W.grownBy w3 v.ownBlock) : StoreMid w2 w3 sb mb base v v' g x := by
  have hl := h.lts; have hm := h.ltm; have hb := h.ltb
  have hs1 : Save w2 w3 (fun b => v.ownBlock = some b) := (hW.mono (fun _ _ h => h.elim)).grown hg (fun k hk _ => hk)
  have e1 : ¬ v.ownBlock = some sb := fun e => by have := (World.ownsRow.lt h.own sb e).1; omega
  have e2 : ¬ v.ownBlock = some mb := fun e => by have := (World.ownsRow.lt h.own mb e).1; omega
  refine ⟨(hs1.cell (p := ⟨sb, _, none⟩) (by simp only; omega) e1).trans h.cell0, (hs1.cell (p := ⟨sb, _, none⟩) (by simp only; omega) e1).trans h.cell1, (hs1.cell (p := ⟨sb, _, none⟩) (by simp only; omega) e1).trans h.cell2,
    (hs1.frozen (p := ⟨sb, _, none⟩) (by simp only; omega) e1).trans h.free, by unfold OwnsN; rw [flatN_snoc, List.length_append]; exact hown, ?_, hs1.mono (fun k _ hk => Or.inr (Or.inr hk))⟩
  obtain ⟨es, clock, hbk, rest⟩ := h.map
  exact ⟨es, clock, by rw [hs1.block mb (by omega) e2]; exact hbk, rest⟩
theorem StoreMid.fin {w2 w3 w5 : World} {sb mb base : Nat} {v v' : Value} {g : List Nd} {x : Nd} (h : StoreAt w2 sb mb base v g) (m : StoreMid w2 w3 sb mb base v v' g x) (hx : ndOk x) (hlen : g.length < 24)
    (hmap : w5.ownsMap Tryz.prog 81 (plainElem (H := Unit) Tryz.prog 2) mb (g.length + 1) ((placesD g g.length).put (keyL x) (.lit (.int .i64 g.length)))) (hg : (w3.setCell ⟨sb, 0, none⟩ v').drew.grownBy w5 (some mb)) :
    StoreAt w5 sb mb base v' (g ++ [x]) ∧ Save w2 w5 (StoreS sb mb v) := by
  have hl := h.lts; have hm := h.ltm; have hb := h.ltb; have hne := h.ne; have hz := m.save.size
  have hs0 : Save (w3.setCell ⟨sb, 0, none⟩ v') w5 (fun b => b = mb) := ((Save.refl _ _).drew).grown hg (fun k hk _ => by cases hk; rfl)
  have hz4 : (w3.setCell ⟨sb, 0, none⟩ v').heap.size = w3.heap.size := by simp
  have d1 : (w3.setCell ⟨sb, 0, none⟩ v').cell? ⟨sb, 0, none⟩ = some v' := World.cell?_setCell_same' _ _ _ (by rw [m.cell0]; rfl)
  have d2 : (w3.setCell ⟨sb, 0, none⟩ v').cell? ⟨sb, 1, none⟩ = some (.map (some mb)) := by rw [World.cell?_setCell_other _ _ _ _ (by simp)]; exact m.cell1
  have d3 : (w3.setCell ⟨sb, 0, none⟩ v').cell? ⟨sb, 2, none⟩ = some (.int .i64 24) := by rw [World.cell?_setCell_other _ _ _ _ (by simp)]; exact m.cell2
  have hown4 : OwnsN (w3.setCell ⟨sb, 0, none⟩ v') base v' (g ++ [x]) := ownsRow_setCell_below m.own (by simp only; omega) _
  refine ⟨⟨hl, hm, hne, by have := hs0.size; omega, (hs0.cell (p := ⟨sb, _, none⟩) (by simp only; omega) hne).trans d1, (hs0.cell (p := ⟨sb, _, none⟩) (by simp only; omega) hne).trans d2, (hs0.cell (p := ⟨sb, _, none⟩) (by simp only; omega) hne).trans d3,
    (hs0.frozen (p := ⟨sb, _, none⟩) (by simp only; omega) hne).trans (by simp [m.free]), hown4.save hs0 (fun k hk e => by have := (World.ownsRow.lt m.own k hk).1; omega), ?_, ?_, by simp; omega⟩, ?_⟩
  · rw [placesD_snoc, List.length_append]; exact hmap
  · intro i hi
    by_cases e : i = g.length
    · subst e; rw [ndAt_last]; exact hx
    · have : i < g.length := by simp at hi; omega
      rw [ndAt_left g x i this]; exact h.ok i this
  · exact ((m.save.setCell (p := ⟨sb, 0, none⟩) (fun _ => Or.inl rfl) v').drew).grown hg (fun k hk _ => by cases hk; exact Or.inr (Or.inl rfl))
theorem cells_six (w : World) (x : Nd) : ∀ j u, (ndCells x)[j]? = some u → (w.alloc (.cells #[.int .i64 x.k, .int .i64 x.a, .int .i64 x.b, .int .i64 x.lo, .int .i64 x.hi, .string x.nm] 81)).drew.cell? ((⟨w.heap.size, 0, none⟩ : Addr).add j) = some u := by
  intro j u hu
  have hj : j < 6 := (List.getElem?_eq_some_iff.1 hu).1
  rw [Addr.add_lit]
  have h := box_node w x 81
  have hc : j = 0 ∨ j = 1 ∨ j = 2 ∨ j = 3 ∨ j = 4 ∨ j = 5 := by omega
  rcases hc with rfl | rfl | rfl | rfl | rfl | rfl
  · simp [ndCells] at hu; subst hu; exact h.c0
  · simp [ndCells] at hu; subst hu; exact h.c1
  · simp [ndCells] at hu; subst hu; exact h.c2
  · simp [ndCells] at hu; subst hu; exact h.c3
  · simp [ndCells] at hu; subst hu; exact h.c4
  · simp [ndCells] at hu; subst hu; exact h.c5
set_option maxRecDepth 20000 in
set_option maxHeartbeats 2000000 in
theorem add_new (x : Nd) (hx : ndOk x) (g : List Nd) (sb mb base : Nat) (v : Value) (w : World) (hS : StoreAt w sb mb base v g) (hlen : g.length < 24) (hu : ∀ i, i < g.length → ndAt g i ≠ x) :
    Calls Tryz.prog 83 #[.pointer (some ⟨sb, 0, none⟩), ndV x] w fun e w' => e = .returned (.tuple #[.int .i64 g.length, .nilIface]) ∧ ∃ v', StoreAt w' sb mb base v' (g ++ [x]) ∧ Save w w' (StoreS sb mb v) ∧ (∀ k, v'.ownBlock = some k → v.ownBlock = some k ∨ w.heap.size ≤ k) := by
  have hsb : sb < w.heap.size := Nat.lt_of_lt_of_le hS.lts hS.ltb
  have i1 := placesD_none g x hx g.length hS.ok hu
  have hl : ∀ m, Sem.run Tryz.prog (Instr.lookup 159 (.map (some mb)) (.agg #[.int .i64 x.k, .int .i64 x.a, .int .i64 x.b, .int .i64 x.lo, .int .i64 x.hi, .string x.nm]) true) ((w.alloc (.cells #[.int .i64 x.k, .int .i64 x.a, .int .i64 x.b, .int .i64 x.lo, .int .i64 x.hi, .string x.nm] 81)).drewN m) = .ok (.tuple #[.int .i64 0, .bool false]) ((w.alloc (.cells #[.int .i64 x.k, .int .i64 x.a, .int .i64 x.b, .int .i64 x.lo, .int .i64 x.hi, .string x.nm] 81)).drewN m) := by
    intro m
    obtain ⟨c, hc, hr⟩ := look_node (ownsMap_drewN (hS.map.alloc (.cells #[.int .i64 x.k, .int .i64 x.a, .int .i64 x.b, .int .i64 x.lo, .int .i64 x.hi, .string x.nm] 81)) m) x hx
    rw [i1] at hr
    rw [Maps.atKey_of_not_has i1] at hc
    simp at hc
    subst hc
    exact hr
  have HS0 := hid hS
  have c1 := hS.cell1
  have HBX := hid (box_node w x 81)
  clear hS i1
  unfold ndV
  go_enter Tryz.func83, Tryz.ntmps83
  go_wp2
  go_quiet (fail)
  have HS1 : Hid (StoreAt ((w.alloc (.cells #[.int .i64 x.k, .int .i64 x.a, .int .i64 x.b, .int .i64 x.lo, .int .i64 x.hi, .string x.nm] 81)).drewN nq) sb mb base v g) := HS0.out.save (S := fun _ => False) (((Save.refl w _).alloc _).drewN _) (fun _ _ h => h)
  have HV1 : Hid (Save w ((w.alloc (.cells #[.int .i64 x.k, .int .i64 x.a, .int .i64 x.b, .int .i64 x.lo, .int .i64 x.hi, .string x.nm] 81)).drewN nq) (StoreS sb mb v)) := (((Save.refl w _).alloc _).drewN _)
  have HN1 : Hid (NodeAt ((w.alloc (.cells #[.int .i64 x.k, .int .i64 x.a, .int .i64 x.b, .int .i64 x.lo, .int .i64 x.hi, .string x.nm] 81)).drewN nq) w.heap.size 0 x) := ⟨HBX.out.c0, HBX.out.c1, HBX.out.c2, HBX.out.c3, HBX.out.c4, HBX.out.c5⟩
  have hz1 : w.heap.size < ((w.alloc (.cells #[.int .i64 x.k, .int .i64 x.a, .int .i64 x.b, .int .i64 x.lo, .int .i64 x.hi, .string x.nm] 81)).drewN nq).heap.size := by simp
  generalize ((w.alloc (.cells #[.int .i64 x.k, .int .i64 x.a, .int .i64 x.b, .int .i64 x.lo, .int .i64 x.hi, .string x.nm] 81)).drewN nq) = w1 at *
  clear hl c1
  have c0 := HS1.out.cell0
  have c1 := HS1.out.cell1
  have c2 := HS1.out.cell2
  obtain ⟨va, vc, hv, hvf⟩ := HS1.out.own.form
  rw [hv] at c0
  go_wp2
  go_quiet (fail)
  have HS2 : Hid (StoreAt (w1.drewN nq) sb mb base v g) := HS1.out.save (S := fun _ => False) ((Save.refl w1 _).drewN _) (fun _ _ h => h)
  have HV2 : Hid (Save w (w1.drewN nq) (StoreS sb mb v)) := HV1.out.drewN _
  have HN2 : Hid (NodeAt (w1.drewN nq) w.heap.size 0 x) := ⟨HN1.out.c0, HN1.out.c1, HN1.out.c2, HN1.out.c3, HN1.out.c4, HN1.out.c5⟩
  have hz2 : w.heap.size < (w1.drewN nq).heap.size := hz1
  generalize (w1.drewN nq) = w2 at *
  clear c0 c1 c2 HS1 HV1 HN1 hz1
  have c0 := HS2.out.cell0
  rw [hv] at c0
  have hd : decide ((24 : Int) ≤ (g.length : Int)) = false := by simp; omega
  go_wp2
  have hfr := HS2.out.free
  obtain ⟨d0, d1, d2, d3, d4, d5⟩ := (show NodeAt w2 w.heap.size 0 (x.k, x.a, x.b, x.lo, x.hi, x.nm) from HN2.out).zero
  obtain ⟨i0, hi, hz0, hz1, hz3⟩ := info_parts Tryz.infoN
  have hsb2 : sb < w2.heap.size := by omega
  have HO := hid HS2.out.own
  rw [hv] at HO
  have hbs := HS2.out.ltb
  have HM : Hid (∀ (W w3 : World) (v' : Value), Save w2 W (fun _ => False) → w3.ownsRow base 81 6 v' (g.length + 1) (flatN g ++ ndCells x) → W.grownBy w3 (Value.slice va g.length vc).ownBlock → StoreMid w2 w3 sb mb base (Value.slice va g.length vc) v' g x) := by
    intro W w3 v' h1 h2 h3
    have := HS2.out
    rw [hv] at this
    exact this.mid h1 h2 h3
  have HV2' := HV2
  have HSV := HS2
  rw [hv] at HV2' HSV
  go_region_law (refine step_append_own rfl (.tmp 40) (.tmp 42) 23 rfl base 81 i0 _ 6 56 Tryz.uNs hi hz0 hz1 hz3 rfl (by decide) (.slice va g.length vc) g.length (flatN g) (by simp [Act.eval, Act.put]) (HO.out.alloc _).drew ⟨w2.heap.size, 0, none⟩ 1 1 (ndCells x) (by simp [Act.eval, Act.put]) rfl (cells_six w2 x) (by simp [ndCells, Value.oneCell']) (by unfold maxLen; omega) (by omega) (by simp; omega) ?_; intro v' w3 hown3 hgrow3 hloc3; obtain ⟨gb, cp, rfl, _, _⟩ := World.ownsRow.form hown3 (by omega); have HMid := hid (HM.out _ _ _ (((Save.refl w2 _).alloc _).drew) hown3 hgrow3); have hc3 := HMid.out.cell0; have hf3 := HMid.out.free; have HL := hid hloc3; clear hown3 hgrow3 hloc3)
  all_goals
    clear hc3 hf3 d0 d1 d2 d3 d4 d5 c0 hfr
    have hzm := HMid.out.save.size
    have e1 : (w3.setCell ⟨sb, 0, none⟩ (Value.slice (some ⟨gb, 0, none⟩) (g.length + 1) cp)).cell? ⟨sb, 1, none⟩ = some (.map (some mb)) := by rw [World.cell?_setCell_other _ _ _ _ (by simp)]; exact HMid.out.cell1
    have HN4 : Hid (NodeAt (w3.setCell ⟨sb, 0, none⟩ (Value.slice (some ⟨gb, 0, none⟩) (g.length + 1) cp)) w.heap.size 0 x) := ((HMid.out.save.setCell (S := StoreS sb mb (Value.slice va g.length vc)) (p := ⟨sb, 0, none⟩) (fun _ => Or.inl rfl) _)).node HN2.out hz2 (by
      rintro (e | e | e)
      · omega
      · have := HS0.out.ltm; have := HS0.out.ltb; omega
      · rw [← hv] at e; have := (World.ownsRow.lt HS0.out.own _ e).2; omega)
    obtain ⟨d0, d1, d2, d3, d4, d5⟩ := (show NodeAt _ w.heap.size 0 (x.k, x.a, x.b, x.lo, x.hi, x.nm) from HN4.out).zero
    obtain ⟨w5, hupd, hmap5, hg5⟩ := (((HMid.out.map.setCell (a := ⟨sb, 0, none⟩) (fun e => HS0.out.ne e.symm) (Value.slice (some ⟨gb, 0, none⟩) (g.length + 1) cp))).drew).update Tryz.keyNd Tryz.underlying159 (by unfold maxLen; omega) (key := (.agg #[.int .i64 x.k, .int .i64 x.a, .int .i64 x.b, .int .i64 x.lo, .int .i64 x.hi, .string x.nm])) (val := .int .i64 g.length) (keyOf_nd x hx) (plainElem_int Tryz.underlying2 (wf64 (by omega)))
    have HF := hid (HMid.out.fin HSV.out hx hlen hmap5 hg5)
    clear hmap5 hg5
    go_wp2
    go_region
    go_wp2
    go_ret2
    refine ⟨rfl, _, HF.out.1, ?_, fun k hk => ?_⟩
    · rw [hv]; exact HV2'.out.trans HF.out.2
    · rcases HL.out with h | h
      · left; rw [hv, ← h]; exact hk
      · right
        rw [hk] at h
        have h' := Option.some.inj h
        simp at h'
        omega
end Go.Proofs.YtbfkbgmkibkbnaaGreatDoor
namespace Go.Proofs.YtbfkbgmkibkbnaaGreatDoor
open Go.RowKit
set_option linter.unusedVariables false
set_option linter.unusedSimpArgs false
structure WalkAt (w : World) (wb sn b cap base : Nat) (f : List Nd) (v : Value) (l : List Nat) (S : Nat → Bool) : Prop where
  ltw : wb < base
  lts : sn < base
  ne : wb ≠ sn
  nbw : b ≠ wb
  nbs : b ≠ sn
  ltb : b < base
  lth : base ≤ w.heap.size
  c0 : w.cell? ⟨wb, 0, none⟩ = some (.slice (some ⟨b, 0, none⟩) f.length cap)
  c1 : w.cell? ⟨wb, 1, none⟩ = some (.slice (some ⟨sn, 0, none⟩) f.length f.length)
  c2 : w.cell? ⟨wb, 2, none⟩ = some v
  free : w.frozen? ⟨wb, 2, none⟩ = false
  seen : ∀ j, j < f.length → w.cell? ⟨sn, j, none⟩ = some (.bool (S j))
  sfree : ∀ j, j < f.length → w.frozen? ⟨sn, j, none⟩ = false
  nodes : NodesAt w b f
  own : OwnsP w base v l
  ok : PlacesOk f l
def WalkS (wb sn : Nat) (v : Value) (c : Nat) : Prop := c = wb ∨ c = sn ∨ v.ownBlock = some c
theorem OwnsP.save {w w' : World} {base : Nat} {v : Value} {l : List Nat} {S : Nat → Prop} (h : OwnsP w base v l) (hs : Save w w' S) (hS : ∀ k, v.ownBlock = some k → ¬ S k) : OwnsP w' base v l := by
  refine ⟨h.1, ?_⟩
  rcases h.2 with hn | ⟨b, cap, cur, rfl, hb, hg, rest⟩
  · exact .inl hn
  · refine .inr ⟨b, cap, cur, rfl, hb, ?_, rest⟩
    rw [hs.block b (Array.getElem?_eq_some_iff.1 hg).1 (hS b rfl)]
    exact hg
theorem WalkAt.save {w w' : World} {wb sn b cap base : Nat} {f : List Nd} {v : Value} {l : List Nat} {S : Nat → Bool} {T : Nat → Prop} (h : WalkAt w wb sn b cap base f v l S) (hs : Save w w' T) (hT : ∀ c, WalkS wb sn v c → ¬ T c) (hb : ¬ T b) : WalkAt w' wb sn b cap base f v l S := by
  have e1 : ¬ T wb := hT wb (Or.inl rfl)
  have e2 : ¬ T sn := hT sn (Or.inr (Or.inl rfl))
  have h1 := h.ltw; have h2 := h.lts; have h3 := h.lth; have h4 := h.ltb
  exact ⟨h.ltw, h.lts, h.ne, h.nbw, h.nbs, h.ltb, Nat.le_trans h.lth hs.size, (hs.cell (p := ⟨wb, _, none⟩) (by simp only; omega) e1).trans h.c0, (hs.cell (p := ⟨wb, _, none⟩) (by simp only; omega) e1).trans h.c1, (hs.cell (p := ⟨wb, _, none⟩) (by simp only; omega) e1).trans h.c2,
    (hs.frozen (p := ⟨wb, _, none⟩) (by simp only; omega) e1).trans h.free, fun j hj => (hs.cell (p := ⟨sn, _, none⟩) (by simp only; omega) e2).trans (h.seen j hj), fun j hj => (hs.frozen (p := ⟨sn, _, none⟩) (by simp only; omega) e2).trans (h.sfree j hj),
    hs.nodes h.nodes hb, h.own.save hs (fun k hk => hT k (Or.inr (Or.inr hk))), h.ok⟩
theorem WalkAt.below {w w' : World} {wb sn b cap base : Nat} {f : List Nd} {v : Value} {l : List Nat} {S : Nat → Bool} (h : WalkAt w wb sn b cap base f v l S) (hs : Below w.heap.size w w') : WalkAt w' wb sn b cap base f v l S :=
  h.save (T := fun _ => False) (Save.of_below hs _ (fun j h1 h2 => by omega)) (fun _ _ h => h) (fun h => h)
/-- A place is marked. -/
theorem WalkAt.mark {w : World} {wb sn b cap base : Nat} {f : List Nd} {v : Value} {l : List Nat} {S : Nat → Bool} (h : WalkAt w wb sn b cap base f v l S) (i : Nat) (hi : i < f.length) :
    WalkAt (w.setCell ⟨sn, i, none⟩ (.bool true)) wb sn b cap base f v l (fun j => if j = i then true else S j) := by
  have h1 := h.ltw; have h2 := h.lts; have h3 := h.lth; have h4 := h.ltb; have h5 := h.ne; have h6 := h.nbs
  have hs : Save w (w.setCell ⟨sn, i, none⟩ (.bool true)) (fun c => c = sn) := Save.setCell (S := fun c => c = sn) (Save.refl w _) (p := ⟨sn, i, none⟩) (fun _ => rfl) _
  have e1 : ¬ wb = sn := h.ne
  exact ⟨h.ltw, h.lts, h.ne, h.nbw, h.nbs, h.ltb, Nat.le_trans h.lth hs.size, (hs.cell (p := ⟨wb, _, none⟩) (by simp only; omega) e1).trans h.c0, (hs.cell (p := ⟨wb, _, none⟩) (by simp only; omega) e1).trans h.c1, (hs.cell (p := ⟨wb, _, none⟩) (by simp only; omega) e1).trans h.c2,
    (hs.frozen (p := ⟨wb, _, none⟩) (by simp only; omega) e1).trans h.free, fun j hj => by
      by_cases e : j = i
      · subst e; simp only [if_true]; exact World.cell?_setCell_same' _ _ _ (by rw [h.seen j hj]; rfl)
      · simp only [e, if_false]; rw [World.cell?_setCell_other _ _ _ _ (by simp [Ne.symm e])]; exact h.seen j hj,
    fun j hj => by rw [World.frozen?_setCell]; exact h.sfree j hj,
    hs.nodes h.nodes h.nbs, h.own.save hs (fun k hk e => by have := (World.ownsRow.lt h.own k hk).1; omega), h.ok⟩
/-- A place is put behind. -/
theorem WalkAt.put {w w' : World} {wb sn b cap base : Nat} {f : List Nd} {v v' : Value} {l : List Nat} {S : Nat → Bool} {i : Nat} (h : WalkAt w wb sn b cap base f v l S) (W : World) (hW : Save w W (fun _ => False)) (hown : w'.ownsRow base 2 1 v' (l.length + 1) ((l.map fun (j : Nat) => Value.int .i64 (j : Int)) ++ [.int .i64 (i : Int)]))
    (hg : W.grownBy w' v.ownBlock) (hok : PlacesOk f (l ++ [i])) : (w'.cell? ⟨wb, 2, none⟩ = some v ∧ w'.frozen? ⟨wb, 2, none⟩ = false) ∧ WalkAt (w'.setCell ⟨wb, 2, none⟩ v') wb sn b cap base f v' (l ++ [i]) S ∧ Save w (w'.setCell ⟨wb, 2, none⟩ v') (WalkS wb sn v) := by
  have h1 := h.ltw; have h2 := h.lts; have h3 := h.lth; have h4 := h.ltb
  have hs1 : Save w w' (fun c => v.ownBlock = some c) := (hW.mono (fun _ _ h => h.elim)).grown hg (fun k hk _ => hk)
  have nb : ∀ c, c < base → ¬ v.ownBlock = some c := fun c hc e => by have := (World.ownsRow.lt h.own c e).1; omega
  have hs : Save w (w'.setCell ⟨wb, 2, none⟩ v') (fun c => c = wb ∨ v.ownBlock = some c) := Save.setCell (S := fun c => c = wb ∨ v.ownBlock = some c) (hs1.mono (fun k _ hk => Or.inr hk)) (p := ⟨wb, 2, none⟩) (fun _ => Or.inl rfl) _
  have k2 : w'.cell? ⟨wb, 2, none⟩ = some v := (hs1.cell (p := ⟨wb, _, none⟩) (by simp only; omega) (nb wb h1)).trans h.c2
  have kf : w'.frozen? ⟨wb, 2, none⟩ = false := (hs1.frozen (p := ⟨wb, _, none⟩) (by simp only; omega) (nb wb h1)).trans h.free
  have k0 : w'.cell? ⟨wb, 0, none⟩ = _ := (hs1.cell (p := ⟨wb, _, none⟩) (by simp only; omega) (nb wb h1)).trans h.c0
  have k1 : w'.cell? ⟨wb, 1, none⟩ = _ := (hs1.cell (p := ⟨wb, _, none⟩) (by simp only; omega) (nb wb h1)).trans h.c1
  have e2 : ¬ (sn = wb ∨ v.ownBlock = some sn) := by rintro (e | e); exact h.ne e.symm; exact nb sn h2 e
  have e3 : ¬ (b = wb ∨ v.ownBlock = some b) := by rintro (e | e); exact h.nbw e; exact nb b h4 e
  refine ⟨⟨k2, kf⟩, ⟨h.ltw, h.lts, h.ne, h.nbw, h.nbs, h.ltb, Nat.le_trans h.lth hs.size, ?_, ?_, World.cell?_setCell_same' _ _ _ (by rw [k2]; rfl), by rw [World.frozen?_setCell]; exact kf,
    fun j hj => (hs.cell (p := ⟨sn, _, none⟩) (by simp only; omega) e2).trans (h.seen j hj), fun j hj => (hs.frozen (p := ⟨sn, _, none⟩) (by simp only; omega) e2).trans (h.sfree j hj), hs.nodes h.nodes e3, ?_, hok⟩, hs.mono (fun k _ hk => by rcases hk with rfl | hk; exact Or.inl rfl; exact Or.inr (Or.inr hk))⟩
  · rw [World.cell?_setCell_other _ _ _ _ (by simp)]; exact k0
  · rw [World.cell?_setCell_other _ _ _ _ (by simp)]; exact k1
  · exact OwnsP.snoc (ownsRow_setCell_below hown (by simp only; omega) _)

/-! ### What is seen -/
def Ag (S : Nat → Bool) (l : List Nat) (i : Nat) : Prop := ∀ j, j ≤ i → S j = decide (j ∈ l)
def Agl (S : Nat → Bool) (l : List Nat) (i : Nat) : Prop := ∀ j, j < i → S j = decide (j ∈ l)
theorem Ag.mark {S : Nat → Bool} {l : List Nat} {i : Nat} (h : Ag S l i) : Agl (fun j => if j = i then true else S j) l i := fun j hj => by
  have : j ≠ i := by omega
  simp only [this, if_false]; exact h j (by omega)
theorem Agl.at {S : Nat → Bool} {l : List Nat} {i p : Nat} (h : Agl S l i) (hp : p < i) : Ag S l p := fun j hj => h j (by omega)
theorem Agl.step {f : List Nd} {S S1 : Nat → Bool} {l : List Nat} {n i p : Nat} (h : Agl S l i) (hp : p < i) (hd : downTo f (p + 1)) (hn : p < n) (h1 : Ag S1 (walkF f n p l) p) (h2 : ∀ j, p < j → S1 j = S j) : Agl S1 (walkF f n p l) i := fun j hj => by
  by_cases e : j ≤ p
  · exact h1 j e
  · rw [h2 j (by omega), h j hj]
    obtain ⟨⟨t, et, ht⟩, _⟩ := walkF_grows f n p l hd hn
    rw [et]
    congr 1
    rw [List.mem_append]
    apply propext
    constructor
    · exact Or.inl
    · rintro (h' | h')
      · exact h'
      · have := ht j h'; omega
theorem Agl.fin {S : Nat → Bool} {l : List Nat} {i : Nat} (h : Agl S l i) (hi : S i = true) : Ag S (l ++ [i]) i := fun j hj => by
  by_cases e : j = i
  · subst e; simp [hi]
  · rw [h j (by omega)]; simp [e]
def VisitC (f : List Nd) (wb sn b cap base n : Nat) : Prop := ∀ (i : Nat) (l : List Nat) (S : Nat → Bool) (v : Value) (w : World), i < n → i < f.length → downTo f (i + 1) → WalkAt w wb sn b cap base f v l S → Ag S l i →
    Calls Tryz.prog 118 #[.pointer (some ⟨wb, 0, none⟩), .int .i64 i] w fun e w' => e = .returned (.tuple #[]) ∧ ∃ v' S', WalkAt w' wb sn b cap base f v' (walkF f n i l) S' ∧ Ag S' (walkF f n i l) i ∧ (∀ j, i < j → S' j = S j) ∧ Save w w' (WalkS wb sn v) ∧ (∀ k, v'.ownBlock = some k → v.ownBlock = some k ∨ w.heap.size ≤ k)
theorem Save.trans2 {a b c : World} {S T : Nat → Prop} (h : Save a b S) (k : Save b c T) (hT : ∀ j, j < a.heap.size → T j → S j) : Save a c S :=
  ⟨k.os.trans h.os, k.tape.trans h.tape, k.output.trans h.output, Nat.le_trans h.size k.size, fun j hj hs => (k.block j (Nat.lt_of_lt_of_le hj h.size) (fun x => hs (hT j hj x))).trans (h.block j hj hs)⟩
/-- In the midst of a visit: what has been come to so far is l'. -/
def MidAt (w wr : World) (wb sn b cap base : Nat) (f : List Nd) (v : Value) (S : Nat → Bool) (i : Nat) (l' : List Nat) (v' : Value) (S' : Nat → Bool) : Prop :=
  WalkAt wr wb sn b cap base f v' l' S' ∧ Agl S' l' i ∧ S' i = true ∧ (∀ j, i < j → S' j = S j) ∧ Save w wr (WalkS wb sn v) ∧ (∀ k, v'.ownBlock = some k → v.ownBlock = some k ∨ w.heap.size ≤ k)
def Mid (w wr : World) (wb sn b cap base : Nat) (f : List Nd) (v : Value) (S : Nat → Bool) (i : Nat) (l' : List Nat) : Prop :=
  ∃ v' S', MidAt w wr wb sn b cap base f v S i l' v' S'
theorem Mid.begin {w w1 w2 : World} {wb sn b cap base : Nat} {f : List Nd} {v : Value} {l : List Nat} {S : Nat → Bool} {i : Nat} (hW : WalkAt w wb sn b cap base f v l S) (hA : Ag S l i) (hi : i < f.length) (h1 : Below (w.setCell ⟨sn, i, none⟩ (.bool true)).heap.size (w.setCell ⟨sn, i, none⟩ (.bool true)) w1) (h2 : Below w1.heap.size w1 w2) : MidAt w w2 wb sn b cap base f v S i l v (fun j => if j = i then true else S j) :=
  ⟨((hW.mark i hi).below h1).below h2, hA.mark, by simp, fun j hj => by
      have : j ≠ i := by omega
      simp [this],
    Save.trans2 (Save.trans2 (Save.setCell (S := WalkS wb sn v) (Save.refl w _) (p := ⟨sn, i, none⟩) (fun _ => Or.inr (Or.inl rfl)) _) (Save.of_below h1 (fun j => (w.setCell ⟨sn, i, none⟩ (.bool true)).heap.size ≤ j) (fun j h _ => h)) (fun j hj h => by simp at h; omega)) (Save.of_below h2 (fun j => w1.heap.size ≤ j) (fun j h _ => h)) (fun j hj h => by have := h1.size; simp at this; omega), fun k hk => Or.inl hk⟩
theorem Mid.step {w wr wr' : World} {wb sn b cap base n p : Nat} {f : List Nd} {v v' v'' : Value} {l' : List Nat} {S S' S'' : Nat → Bool} {i : Nat} (hp : p < i) (hpn : p < n) (hd : downTo f (p + 1)) (hA : Agl S' l' i) (ht : S' i = true) (hS : ∀ j, i < j → S' j = S j) (hs : Save w wr (WalkS wb sn v)) (ho : ∀ k, v'.ownBlock = some k → v.ownBlock = some k ∨ w.heap.size ≤ k)
    (gW : WalkAt wr' wb sn b cap base f v'' (walkF f n p l') S'') (gA : Ag S'' (walkF f n p l') p) (gS : ∀ j, p < j → S'' j = S' j) (gs : Save wr wr' (WalkS wb sn v')) (go : ∀ k, v''.ownBlock = some k → v'.ownBlock = some k ∨ wr.heap.size ≤ k) : Mid w wr' wb sn b cap base f v S i (walkF f n p l') :=
  ⟨v'', S'', gW, hA.step hp hd hpn gA gS, by rw [gS i hp]; exact ht, fun j hj => by rw [gS j (by omega)]; exact hS j hj,
    Save.trans2 hs gs (fun j hj h => by
      rcases h with rfl | rfl | h
      · exact Or.inl rfl
      · exact Or.inr (Or.inl rfl)
      · rcases ho j h with h' | h'
        · exact Or.inr (Or.inr h')
        · omega),
    fun k hk => by
      rcases go k hk with h | h
      · exact ho k h
      · exact Or.inr (Nat.le_trans hs.size h)⟩
theorem Mid.fin {w wr W w' : World} {wb sn b cap base : Nat} {f : List Nd} {v v' v'' : Value} {l' : List Nat} {S S' : Nat → Bool} {i : Nat} (gW : WalkAt wr wb sn b cap base f v' l' S') (hA : Agl S' l' i) (ht : S' i = true) (hS : ∀ j, i < j → S' j = S j) (hs : Save w wr (WalkS wb sn v)) (ho : ∀ k, v'.ownBlock = some k → v.ownBlock = some k ∨ w.heap.size ≤ k)
    (hW : Save wr W (fun _ => False)) (hown : w'.ownsRow base 2 1 v'' (l'.length + 1) ((l'.map fun (j : Nat) => Value.int .i64 (j : Int)) ++ [.int .i64 (i : Int)])) (hg : W.grownBy w' v'.ownBlock) (hl : v''.ownBlock = v'.ownBlock ∨ v''.ownBlock = some W.heap.size) (hok : PlacesOk f (l' ++ [i])) :
    (w'.cell? ⟨wb, 2, none⟩ = some v' ∧ w'.frozen? ⟨wb, 2, none⟩ = false) ∧ ∃ v0 S0, WalkAt (w'.setCell ⟨wb, 2, none⟩ v'') wb sn b cap base f v0 (l' ++ [i]) S0 ∧ Ag S0 (l' ++ [i]) i ∧ (∀ j, i < j → S0 j = S j) ∧ Save w (w'.setCell ⟨wb, 2, none⟩ v'') (WalkS wb sn v) ∧ (∀ k, v0.ownBlock = some k → v.ownBlock = some k ∨ w.heap.size ≤ k) := by
  obtain ⟨p1, p2, p3⟩ := gW.put W hW hown hg hok
  refine ⟨p1, v'', S', p2, hA.fin ht, hS, ?_, fun k hk => ?_⟩
  · exact Save.trans2 hs p3 (fun j hj h => by
      rcases h with rfl | rfl | h
      · exact Or.inl rfl
      · exact Or.inr (Or.inl rfl)
      · rcases ho j h with h' | h'
        · exact Or.inr (Or.inr h')
        · omega)
  · rcases hl with h | h
    · exact ho k (h ▸ hk)
    · rw [hk] at h
      have h' := Option.some.inj h
      have := hW.size
      have := hs.size
      right; omega
end Go.Proofs.YtbfkbgmkibkbnaaGreatDoor
namespace Go.Proofs.YtbfkbgmkibkbnaaGreatDoor
open Go.RowKit
set_option linter.unusedVariables false
set_option linter.unusedSimpArgs false
set_option maxRecDepth 20000 in
set_option maxHeartbeats 4000000 in
theorem visit1 (f : List Nd) (wb sn b cap base n : Nat) (hV : VisitC f wb sn b cap base n) (hfl : f.length ≤ 24) (i : Nat) (l : List Nat) (S : Nat → Bool) (v : Value) (w : World) (hin : i < n + 1) (hif : i < f.length) (hd : downTo f (i + 1)) (hW : WalkAt w wb sn b cap base f v l S) (hA : Ag S l i) (hm : i ∉ l) (hk : (ndAt f i).k = 1) :
    Calls Tryz.prog 118 #[.pointer (some ⟨wb, 0, none⟩), .int .i64 i] w fun e w' => e = .returned (.tuple #[]) ∧ ∃ v' S', WalkAt w' wb sn b cap base f v' (walkF f (n + 1) i l) S' ∧ Ag S' (walkF f (n + 1) i l) i ∧ (∀ j, i < j → S' j = S j) ∧ Save w w' (WalkS wb sn v) ∧ (∀ k, v'.ownBlock = some k → v.ownBlock = some k ∨ w.heap.size ≤ k) := by
  have ha : armsN (ndAt f i).k = 0 := by rw [hk]; decide
  have hx := hd i (by omega)
  have hP := hW.ok
  have HWF := hid (walkF_0 f n i l hm ha)
  have HPF : Hid (PlacesOk f (l ++ [i])) := by
    have := PlacesOk.walk hP (n := n + 1) (i := i) hd (by omega) hif
    rw [HWF.out] at this; exact this
  have hpl := HPF.out.len
  simp at hpl
  clear hx ha hP
  have c1 := hW.c1
  have cs := hW.seen i hif
  have cf := hW.sfree i hif
  rw [hA i (Nat.le_refl _), decide_eq_false hm] at cs
  have HW1 := hid (hW.mark i hif)
  have d0 := HW1.out.c0
  obtain ⟨n0, n1, n2, n3, n4, n5⟩ := HW1.out.nodes.2 i hif
  rw [hk] at n0
  skip
  skip
  have hpm := pmeth1 (ndAt f i).a (ndAt f i).b (ndAt f i).lo (ndAt f i).hi (ndAt f i).nm
  have HM := hid (fun w1 w2 => @Mid.begin w w1 w2 wb sn b cap base f v l S i hW hA hif)
  have hlb := hW.lth
  have hlw := hW.ltw
  have hls := hW.lts
  have HOB : Hid (∀ k, v.ownBlock = some k → k < w.heap.size) := fun k hk => (World.ownsRow.lt hW.own k hk).2
  have HV := hid hV
  have HD := hid hd
  clear hk hA hm hV hW hd
  go_enter Tryz.func118, Tryz.ntmps118
  go_wp2_with (first | (go_at_call 115; refine (form1 _ _ _ _ _ _).mono ?_; rintro e w1 ⟨rfl, hb1⟩; have HB1 := hid hb1; have hz1 : w.heap.size ≤ w1.heap.size := (by have := hb1.size; simp at this; omega); clear hb1) | (go_at_call 189; refine (parts0 _).mono ?_; rintro e w2 ⟨rfl, hb2⟩; have HB2 := hid hb2; have hz2 := hb2.size; clear hb2))
  have HMid := hid (HM.out w1 w2 HB1.out HB2.out)
  clear n0 n1 n2 n3 n4 n5 hpm cs cf c1 d0 HM HW1 HB1 HB2
  go_loopw [29] (fun t wr => t = .int .i64 0 ∧ Mid w wr wb sn b cap base f v S i l) (fun _ _ => 0)
  case atStart => exact ⟨rfl, _, _, HMid.out⟩
  case round =>
    obtain ⟨rfl, hM⟩ := hrel
    clear HMid
    · skip
      obtain ⟨v1, S1, m1, m2, m3, m4, m5, m6⟩ := hM
      obtain ⟨q2, hq2, qf2⟩ : ∃ u, wr.cell? ⟨wb, 2, none⟩ = some u ∧ u = v1 := ⟨_, m1.c2, rfl⟩
      subst qf2
      have hwz := m5.size
      have hbz := m1.lth
      have HO := hid m1.own
      obtain ⟨va, vc, hvv, _⟩ := m1.own.form
      have HX := hid (fun W w' v'' => @Mid.fin w wr W w' wb sn b cap base f v q2 v'' l S S1 i m1 m2 m3 m4 m5 m6)
      subst hvv
      clear m1 m2 m3 m4 m5 m6
      obtain ⟨i0, hi, hz0, hz3, hz4⟩ := info_parts Tryz.infoI
      go_wp2_with (at_builtin; refine wpList_append_own_at _ rfl _ _ 82 rfl base 2 i0 (.int .i64 0) 1 8 Tryz.uIs hi hz0 hz3 hz4 rfl (by decide) _ _ _ rfl (HO.out.alloc _) ⟨wr.heap.size, 0, none⟩ 1 1 [.int .i64 (i : Int)] rfl rfl (cell_one _ _ _) (by simp [Value.oneCell']) (by unfold maxLen; omega) (by omega) (by simp; omega) ?_; intro v' w4 hown' hgrow hnil hloc; obtain ⟨gb, cp, rfl, _, _⟩ := World.ownsRow.form hown' (by omega); have HR := hid (HX.out _ _ _ ((Save.refl wr _).alloc _) hown' hgrow hloc HPF.out); have hc4 := HR.out.1.1; have hf4 := HR.out.1.2; clear hown' hgrow hnil hloc)
      go_end0
      exact ⟨rfl, by rw [HWF.out]; exact HR.out.2⟩
set_option maxRecDepth 20000 in
set_option maxHeartbeats 4000000 in
theorem visit2 (f : List Nd) (wb sn b cap base n : Nat) (hV : VisitC f wb sn b cap base n) (hfl : f.length ≤ 24) (i : Nat) (l : List Nat) (S : Nat → Bool) (v : Value) (w : World) (hin : i < n + 1) (hif : i < f.length) (hd : downTo f (i + 1)) (hW : WalkAt w wb sn b cap base f v l S) (hA : Ag S l i) (hm : i ∉ l) (hk : (ndAt f i).k = 2) :
    Calls Tryz.prog 118 #[.pointer (some ⟨wb, 0, none⟩), .int .i64 i] w fun e w' => e = .returned (.tuple #[]) ∧ ∃ v' S', WalkAt w' wb sn b cap base f v' (walkF f (n + 1) i l) S' ∧ Ag S' (walkF f (n + 1) i l) i ∧ (∀ j, i < j → S' j = S j) ∧ Save w w' (WalkS wb sn v) ∧ (∀ k, v'.ownBlock = some k → v.ownBlock = some k ∨ w.heap.size ≤ k) := by
  have ha : armsN (ndAt f i).k = 0 := by rw [hk]; decide
  have hx := hd i (by omega)
  have hP := hW.ok
  have HWF := hid (walkF_0 f n i l hm ha)
  have HPF : Hid (PlacesOk f (l ++ [i])) := by
    have := PlacesOk.walk hP (n := n + 1) (i := i) hd (by omega) hif
    rw [HWF.out] at this; exact this
  have hpl := HPF.out.len
  simp at hpl
  clear hx ha hP
  have c1 := hW.c1
  have cs := hW.seen i hif
  have cf := hW.sfree i hif
  rw [hA i (Nat.le_refl _), decide_eq_false hm] at cs
  have HW1 := hid (hW.mark i hif)
  have d0 := HW1.out.c0
  obtain ⟨n0, n1, n2, n3, n4, n5⟩ := HW1.out.nodes.2 i hif
  rw [hk] at n0
  skip
  skip
  have hpm := pmeth2 (ndAt f i).a (ndAt f i).b (ndAt f i).lo (ndAt f i).hi (ndAt f i).nm
  have HM := hid (fun w1 w2 => @Mid.begin w w1 w2 wb sn b cap base f v l S i hW hA hif)
  have hlb := hW.lth
  have hlw := hW.ltw
  have hls := hW.lts
  have HOB : Hid (∀ k, v.ownBlock = some k → k < w.heap.size) := fun k hk => (World.ownsRow.lt hW.own k hk).2
  have HV := hid hV
  have HD := hid hd
  clear hk hA hm hV hW hd
  go_enter Tryz.func118, Tryz.ntmps118
  go_wp2_with (first | (go_at_call 115; refine (form2 _ _ _ _ _ _).mono ?_; rintro e w1 ⟨rfl, hb1⟩; have HB1 := hid hb1; have hz1 : w.heap.size ≤ w1.heap.size := (by have := hb1.size; simp at this; omega); clear hb1) | (go_at_call 189; refine (parts0 _).mono ?_; rintro e w2 ⟨rfl, hb2⟩; have HB2 := hid hb2; have hz2 := hb2.size; clear hb2))
  have HMid := hid (HM.out w1 w2 HB1.out HB2.out)
  clear n0 n1 n2 n3 n4 n5 hpm cs cf c1 d0 HM HW1 HB1 HB2
  go_loopw [29] (fun t wr => t = .int .i64 0 ∧ Mid w wr wb sn b cap base f v S i l) (fun _ _ => 0)
  case atStart => exact ⟨rfl, _, _, HMid.out⟩
  case round =>
    obtain ⟨rfl, hM⟩ := hrel
    clear HMid
    · skip
      obtain ⟨v1, S1, m1, m2, m3, m4, m5, m6⟩ := hM
      obtain ⟨q2, hq2, qf2⟩ : ∃ u, wr.cell? ⟨wb, 2, none⟩ = some u ∧ u = v1 := ⟨_, m1.c2, rfl⟩
      subst qf2
      have hwz := m5.size
      have hbz := m1.lth
      have HO := hid m1.own
      obtain ⟨va, vc, hvv, _⟩ := m1.own.form
      have HX := hid (fun W w' v'' => @Mid.fin w wr W w' wb sn b cap base f v q2 v'' l S S1 i m1 m2 m3 m4 m5 m6)
      subst hvv
      clear m1 m2 m3 m4 m5 m6
      obtain ⟨i0, hi, hz0, hz3, hz4⟩ := info_parts Tryz.infoI
      go_wp2_with (at_builtin; refine wpList_append_own_at _ rfl _ _ 82 rfl base 2 i0 (.int .i64 0) 1 8 Tryz.uIs hi hz0 hz3 hz4 rfl (by decide) _ _ _ rfl (HO.out.alloc _) ⟨wr.heap.size, 0, none⟩ 1 1 [.int .i64 (i : Int)] rfl rfl (cell_one _ _ _) (by simp [Value.oneCell']) (by unfold maxLen; omega) (by omega) (by simp; omega) ?_; intro v' w4 hown' hgrow hnil hloc; obtain ⟨gb, cp, rfl, _, _⟩ := World.ownsRow.form hown' (by omega); have HR := hid (HX.out _ _ _ ((Save.refl wr _).alloc _) hown' hgrow hloc HPF.out); have hc4 := HR.out.1.1; have hf4 := HR.out.1.2; clear hown' hgrow hnil hloc)
      go_end0
      exact ⟨rfl, by rw [HWF.out]; exact HR.out.2⟩
set_option maxRecDepth 20000 in
set_option maxHeartbeats 4000000 in
theorem visit3 (f : List Nd) (wb sn b cap base n : Nat) (hV : VisitC f wb sn b cap base n) (hfl : f.length ≤ 24) (i : Nat) (l : List Nat) (S : Nat → Bool) (v : Value) (w : World) (hin : i < n + 1) (hif : i < f.length) (hd : downTo f (i + 1)) (hW : WalkAt w wb sn b cap base f v l S) (hA : Ag S l i) (hm : i ∉ l) (hk : (ndAt f i).k = 3) :
    Calls Tryz.prog 118 #[.pointer (some ⟨wb, 0, none⟩), .int .i64 i] w fun e w' => e = .returned (.tuple #[]) ∧ ∃ v' S', WalkAt w' wb sn b cap base f v' (walkF f (n + 1) i l) S' ∧ Ag S' (walkF f (n + 1) i l) i ∧ (∀ j, i < j → S' j = S j) ∧ Save w w' (WalkS wb sn v) ∧ (∀ k, v'.ownBlock = some k → v.ownBlock = some k ∨ w.heap.size ≤ k) := by
  have ha : armsN (ndAt f i).k = 1 := by rw [hk]; decide
  have hx := hd i (by omega)
  have hP := hW.ok
  obtain ⟨na, hna⟩ := Int.eq_ofNat_of_zero_le (hx.1 (by omega)).1
  have hlta := (hx.1 (by omega)).2
  rw [hna] at hlta
  have HWF : Hid (walkF f (n + 1) i l = walkF f n na l ++ [i]) := by
    have := walkF_1 f n i l hm ha
    rw [hna, Int.toNat_natCast] at this
    exact this
  have HPF : Hid (PlacesOk f (walkF f n na l ++ [i])) := by
    have := PlacesOk.walk hP (n := n + 1) (i := i) hd (by omega) hif
    rw [HWF.out] at this; exact this
  have hpl := HPF.out.len
  simp at hpl
  clear hx ha hP
  have c1 := hW.c1
  have cs := hW.seen i hif
  have cf := hW.sfree i hif
  rw [hA i (Nat.le_refl _), decide_eq_false hm] at cs
  have HW1 := hid (hW.mark i hif)
  have d0 := HW1.out.c0
  obtain ⟨n0, n1, n2, n3, n4, n5⟩ := HW1.out.nodes.2 i hif
  rw [hk] at n0
  rw [hna] at n1
  skip
  have hpm := pmeth3 na (ndAt f i).b (ndAt f i).lo (ndAt f i).hi (ndAt f i).nm
  have HM := hid (fun w1 w2 => @Mid.begin w w1 w2 wb sn b cap base f v l S i hW hA hif)
  have hlb := hW.lth
  have hlw := hW.ltw
  have hls := hW.lts
  have HOB : Hid (∀ k, v.ownBlock = some k → k < w.heap.size) := fun k hk => (World.ownsRow.lt hW.own k hk).2
  have HV := hid hV
  have HD := hid hd
  clear hk hA hm hV hW hd hna
  go_enter Tryz.func118, Tryz.ntmps118
  go_wp2_with (first | (go_at_call 115; refine (form3 _ _ _ _ _ _).mono ?_; rintro e w1 ⟨rfl, hb1⟩; have HB1 := hid hb1; have hz1 : w.heap.size ≤ w1.heap.size := (by have := hb1.size; simp at this; omega); clear hb1) | (go_at_call 187; refine (parts1 _ _).mono ?_; rintro e w2 ⟨g, rfl, hg1, hg2, hg3, hb2⟩; have HB2 := hid hb2; have hz2 := hb2.size; clear hb2))
  have HMid := hid (HM.out w1 w2 HB1.out HB2.out)
  clear n0 n1 n2 n3 n4 n5 hpm cs cf c1 d0 HM HW1 HB1 HB2
  go_loopw [29] (fun t wr => (t = .int .i64 0 ∧ wr = w2) ∨ (t = .int .i64 1 ∧ Mid w wr wb sn b cap base f v S i (walkF f n na l))) (fun t _ => 1 - (intOf t).toNat)
  case atStart => exact Or.inl ⟨rfl, rfl⟩
  case round =>
    rcases hrel with ⟨rfl, rfl⟩ | ⟨rfl, hM⟩
    · obtain ⟨m1, m2, m3, m4, m5, m6⟩ := HMid.out
      have HC := hid (HV.out na l _ v _ (by omega) (by omega) (fun j hj => HD.out j (by omega)) m1 (m2.at (by omega)))
      have HX := hid (fun wr' v'' S'' => @Mid.step w _ wr' wb sn b cap base n na f v v v'' l S _ S'' i (by omega) (by omega) (fun j hj => HD.out j (by omega)) m2 m3 m4 m5 m6)
      clear m1 m2 m3 m4 m5 m6
      go_wp2_with (go_at_call 118; refine HC.out.mono ?_; rintro e w3 ⟨rfl, v3, S3, q1, q2, q3, q4, q5⟩; have HQ := hid (HX.out _ _ _ q1 q2 q3 q4 q5); clear q1 q2 q3 q4 q5)
      go_roundw
      case rel => exact Or.inr ⟨rfl, HQ.out⟩
      case measure => simp [intOf]
    · skip
      obtain ⟨v1, S1, m1, m2, m3, m4, m5, m6⟩ := hM
      obtain ⟨q2, hq2, qf2⟩ : ∃ u, wr.cell? ⟨wb, 2, none⟩ = some u ∧ u = v1 := ⟨_, m1.c2, rfl⟩
      subst qf2
      have hwz := m5.size
      have hbz := m1.lth
      have HO := hid m1.own
      obtain ⟨va, vc, hvv, _⟩ := m1.own.form
      have HX := hid (fun W w' v'' => @Mid.fin w wr W w' wb sn b cap base f v q2 v'' (walkF f n na l) S S1 i m1 m2 m3 m4 m5 m6)
      subst hvv
      clear m1 m2 m3 m4 m5 m6
      obtain ⟨i0, hi, hz0, hz3, hz4⟩ := info_parts Tryz.infoI
      go_wp2_with (at_builtin; refine wpList_append_own_at _ rfl _ _ 82 rfl base 2 i0 (.int .i64 0) 1 8 Tryz.uIs hi hz0 hz3 hz4 rfl (by decide) _ _ _ rfl (HO.out.alloc _) ⟨wr.heap.size, 0, none⟩ 1 1 [.int .i64 (i : Int)] rfl rfl (cell_one _ _ _) (by simp [Value.oneCell']) (by unfold maxLen; omega) (by omega) (by simp; omega) ?_; intro v' w4 hown' hgrow hnil hloc; obtain ⟨gb, cp, rfl, _, _⟩ := World.ownsRow.form hown' (by omega); have HR := hid (HX.out _ _ _ ((Save.refl wr _).alloc _) hown' hgrow hloc HPF.out); have hc4 := HR.out.1.1; have hf4 := HR.out.1.2; clear hown' hgrow hnil hloc)
      go_end0
      exact ⟨rfl, by rw [HWF.out]; exact HR.out.2⟩
end Go.Proofs.YtbfkbgmkibkbnaaGreatDoor
