/-
  PartOf: plain facts; the model's l02Part and PartOf by their contracts.
-/
import Derived.Test.YtagklhfejbdkdaaDoorDepthS
import Derived.Test.YtagklhfejbdkdaaDoorClone
namespace Go.Proofs.YtagklhfejbdkdaaDoor
open Go.RowKit
set_option linter.unusedVariables false
set_option linter.unusedSimpArgs false
/-- Where the first k of the places now stand. -/
def toTo (l : List Nat) : Nat → Nat → Int
  | 0, _ => 0
  | k + 1, j => if j = l.getD k 0 then k else toTo l k j
def movedN (to : Nat → Int) (x : Nd) : Nd := (x.k, if 0 < armsN x.k then to x.a.toNat else x.a, if 1 < armsN x.k then to x.b.toNat else x.b, x.lo, x.hi, x.nm)
def partTo (f : List Nd) (l : List Nat) (k : Nat) : List Nd := (List.range k).map fun i => movedN (toTo l i) (ndAt f (l.getD i 0))
def partB (f : List Nd) (i : Int) : List Nd := if rightB f = true ∧ 0 ≤ i ∧ i < f.length then partTo f (walkF f f.length i.toNat []) (walkF f f.length i.toNat []).length else []
theorem partTo_len (f : List Nd) (l : List Nat) (k : Nat) : (partTo f l k).length = k := by simp [partTo]
theorem partTo_at (f : List Nd) (l : List Nat) (k i : Nat) (h : i < k) : ndAt (partTo f l k) i = movedN (toTo l i) (ndAt f (l.getD i 0)) := by simp [ndAt, partTo, h]
theorem partTo_succ (f : List Nd) (l : List Nat) (k : Nat) : partTo f l (k + 1) = partTo f l k ++ [movedN (toTo l k) (ndAt f (l.getD k 0))] := by simp [partTo, List.range_succ]
theorem toTo_bd (l : List Nat) : ∀ k j, 0 ≤ toTo l k j ∧ toTo l k j ≤ k := by
  intro k
  induction k with
  | zero => intro j; exact ⟨Int.le_refl _, Int.le_refl _⟩
  | succ k ih =>
    intro j
    unfold toTo
    split
    · omega
    · have := ih j; omega
theorem Laws_heap_new (w : World) (o : Obj) : (w.alloc o).heap[w.heap.size]? = some o := by
  show (w.heap.push o)[w.heap.size]? = some o
  simp
theorem ownsRow_base {w : World} {base base' : Nat} {e : TypeId} {size : Nat} {v : Value} {n : Nat} {xs : List Value} (h : w.ownsRow base e size v n xs) (hb : base' ≤ base) : w.ownsRow base' e size v n xs :=
  ⟨h.1, h.2.imp id (fun ⟨g, cap, cur, a, b, c⟩ => ⟨g, cap, cur, a, Nat.le_trans hb b, c⟩)⟩
theorem ownsN_made (w : World) (base : Nat) (h : base ≤ w.heap.size) : OwnsN (w.alloc (.cells #[] 46)) base (.slice (some ⟨w.heap.size, 0, none⟩) 0 0) [] :=
  ⟨rfl, Or.inr ⟨w.heap.size, 0, #[], rfl, h, Laws_heap_new w _, Nat.le_refl _, by unfold maxLen; omega, rfl, rfl⟩⟩
theorem cells_at (X : World) (n : Nat) (hn : n = X.heap.size) (x : Nd) : ∀ j u, (ndCells x)[j]? = some u → (X.alloc (.cells #[.int .i64 x.k, .int .i64 x.a, .int .i64 x.b, .int .i64 x.lo, .int .i64 x.hi, .string x.nm] 46)).cell? ((⟨n, 0, none⟩ : Addr).add j) = some u := by
  subst hn
  exact cells_six X x
theorem ndCells_one (x : Nd) : ∀ u ∈ ndCells x, u.oneCell' = true := by simp [ndCells, Value.oneCell']
theorem movedN_0 (to : Nat → Int) (x : Nd) (h : armsN x.k = 0) : movedN to x = x := by
  unfold movedN
  rw [if_neg (by omega), if_neg (by omega)]
  rfl
theorem movedN_1 (to : Nat → Int) (x : Nd) (na : Nat) (h : armsN x.k = 1) (ha : x.a = na) : movedN to x = (x.k, to na, x.b, x.lo, x.hi, x.nm) := by
  unfold movedN
  rw [if_pos (by omega), if_neg (by omega), ha]
  rfl
theorem movedN_2 (to : Nat → Int) (x : Nd) (na nb : Nat) (h : armsN x.k = 2) (ha : x.a = na) (hb : x.b = nb) : movedN to x = (x.k, to na, to nb, x.lo, x.hi, x.nm) := by
  unfold movedN
  rw [if_pos (by omega), if_pos (by omega), ha, hb]
  rfl
set_option maxRecDepth 20000 in
set_option maxHeartbeats 2000000 in
theorem specPartAt_good (f : List Nd) (b cap i : Nat) (w : World) (hN : NodesAt w b f) (hg3 : 1 ≤ f.length ∧ f.length ≤ 64 ∧ goodTo f f.length = true) (hif : i < f.length) (hok : ∀ i, i < f.length → ndOk (ndAt f i)) :
    Calls Tryd.prog 50 #[.slice (some ⟨b, 0, none⟩) f.length cap, .int .i64 i] w fun e w' => ∃ v, e = .returned v ∧ OwnsN w' w.heap.size v (partTo f (walkF f f.length i []) (walkF f f.length i []).length) ∧ Below w.heap.size w w' := by
  obtain ⟨hl1, hl2, hgd⟩ := hg3
  have HD : Hid (downTo f f.length) := goodTo_down f _ hgd
  have HN := hid hN
  have hb := hN.1
  have hmk := run_make_row' (P := Tryd.prog) 45 2 (.int .i64 0) 8 Tryd.underlying45 Tryd.infoI rfl .i64 .i64 f.length (by omega) (by omega)
  have HOk := hid hok
  clear hN hgd hok
  have HP0 : PlacesOk f [] := ⟨List.nodup_nil, fun j h => by cases h⟩
  have HP := hid (HP0.walk (n := f.length) (i := i) (fun j hj => HD.out j (by omega)) hif hif)
  have hpl := HP.out.len
  generalize hL : walkF f f.length i [] = l at *
  have HL := hid hL
  clear hL
  go_enter Tryd.func50, Tryd.ntmps50
  go_wp2_with fail
  refine (walk_any f b cap w.heap.size hb hl2 f.length i [] (.slice none 0 0) w hif hif (fun j hj => HD.out j (by omega)) HN.out (Nat.le_refl _) HP0 (World.ownsRow_nil _ _ _ _)).mono ?_
  clear HP0
  rintro e w1 ⟨v, rfl, hO, hb1⟩
  rw [HL.out] at hO
  have HB1 := hid hb1
  have hz1 := hb1.size
  have HN1 := hid (HN.out.below hb1 hb)
  obtain ⟨a, c, rfl, hform⟩ := hO.form
  have HF := hid hform
  clear hb1 hO hform
  go_wp2_with fail
  go_loopw [7, 8] (fun t s wr => ∃ k : Nat, k ≤ l.length ∧ s = .int .i64 k ∧ OwnsN wr (w1.heap.size + 1) t (partTo f l k) ∧ RowD wr w1.heap.size f.length (toTo l k) ∧ Below w1.heap.size w1 wr) (fun _ s _ => l.length - (intOf s).toNat)
  case atStart => exact ⟨0, Nat.zero_le _, rfl, by show OwnsN _ _ _ []; simpa using ownsN_made (w1.alloc (.cells (madeCells #[.int .i64 0] f.length) 2)) (w1.heap.size + 1) (by simp), World.rowIs.alloc (World.rowIs_made _ _ _ _) _, ((Below.refl _ _).alloc (Nat.le_refl _) _).alloc (by simp) _⟩
  case round =>
    clear hmk
    obtain ⟨k, hk, rfl, hown, hrow, hbel⟩ := hrel
    have HBr := hid hbel
    have HRow := hid hrow
    have HO := hid hown
    have hsz := hbel.size
    obtain ⟨va, vc, rfl, hvb⟩ := hown.form
    rw [partTo_len] at *
    clear hbel hrow hown
    by_cases hlt : k < l.length
    · obtain ⟨g, rfl, hg1, hg2, hg3⟩ := HF.out (by omega)
      have hc := (HBr.out.cell (p := ⟨g, k, none⟩) hg2).trans (hg3 k hlt)
      clear hg3
      have hp := HP.out.lt _ (getD_mem l k hlt)
      have HQ : Hid (partTo f l (k + 1) = partTo f l k ++ [movedN (toTo l k) (ndAt f (l.getD k 0))]) := partTo_succ f l k
      have HT : Hid (∀ j, toTo l (k + 1) j = if j = l.getD k 0 then (k : Int) else toTo l k j) := fun j => rfl
      generalize l.getD k 0 = p at *
      obtain ⟨c0, c1, c2, c3, c4, c5⟩ := (HN1.out.2 p hp).below HBr.out HN1.out.1
      have hx := HD.out p hp
      have ep := HRow.out.cell (i := p) hp
      have fp := HRow.out.frozen p
      have hnb : ¬ b = w1.heap.size := by omega
      have hrl := HRow.out.lt
      have hgr : g < wr.heap.size := by omega
      have hn2 : ¬ w1.heap.size = wr.heap.size := by omega
      have hn3 : ¬ g = wr.heap.size := by omega
      have hn4 : ¬ b = wr.heap.size := by omega
      have HO' : Hid (wr.ownsRow (w1.heap.size + 1) 46 6 (.slice va k vc) k (flatN (partTo f l k))) := by
        have := HO.out
        unfold OwnsN at this
        rw [partTo_len] at this
        exact this
      have hob : ∀ q, (Value.slice va k vc).ownBlock = some q → w1.heap.size + 1 ≤ q ∧ q < wr.heap.size := fun q hq => HO'.out.lt q hq
      obtain ⟨i0, hi, hz0, hz1', hz2⟩ := info_parts Tryd.infoN
      rcases armsN_012 (ndAt f p).k with ha | ha | ha
      · have HM := hid (movedN_0 (toTo l k) (ndAt f p) ha)
        go_wp2_with (first | (go_at_call 61; refine (arms_w _ _).mono ?_; rintro e w' ⟨rfl, rfl⟩) | (at_builtin; refine wpList_append_own _ rfl _ _ 24 rfl (w1.heap.size + 1) 46 i0 _ 6 56 Tryd.uNs hi hz0 hz1' hz2 rfl (by decide) _ _ _ rfl (((ownsRow_setCell_below HO'.out (by simp only; omega) _).alloc _).alloc _) ⟨wr.heap.size + 1, 0, none⟩ 1 1 (ndCells (ndAt f p)) rfl rfl (cells_at _ _ (by simp) (ndAt f p)) (ndCells_one _) (by unfold maxLen; omega) (by omega) (by simp; omega) ?_; intro v' w2 hown' hgrow _))
        go_roundw
        case rel =>
          have hcut := hgrow.block w1.heap.size (by simp; omega) (fun e => by have := hob _ e.symm; omega)
          exact ⟨k + 1, by omega, by go_num, by rw [HQ.out, HM.out]; unfold OwnsN; rw [flatN_snoc, List.length_append, partTo_len]; exact hown', World.rowIs.of_block (World.rowIs.alloc (World.rowIs.alloc ((RowD.set HRow.out p k).congr (fun j => (HT.out j).symm)) _) _) hcut, (((HBr.out.setCell (Nat.le_refl _) _).alloc (by simp; omega) _).alloc (by simp; omega) _).grown hgrow (by simp; omega) (fun q hq => by have := hob q hq; omega)⟩
        case measure => simp [intOf]; omega
      · obtain ⟨na, hna⟩ := Int.eq_ofNat_of_zero_le (hx.1 (by omega)).1
        have hlta := (hx.1 (by omega)).2
        rw [hna] at hlta
        have HM := hid (movedN_1 (toTo l k) (ndAt f p) na ha hna)
        have ea := HRow.out.cell (i := na) (by omega)
        rw [hna] at c1
        clear hna hx
        generalize toTo l k na = D at *
        go_wp2_with (first | (go_at_call 61; refine (arms_w _ _).mono ?_; rintro e w' ⟨rfl, rfl⟩) | (at_builtin; refine wpList_append_own _ rfl _ _ 24 rfl (w1.heap.size + 1) 46 i0 _ 6 56 Tryd.uNs hi hz0 hz1' hz2 rfl (by decide) _ _ _ rfl (((ownsRow_setCell_below HO'.out (by simp only; omega) _).alloc _).alloc _) ⟨wr.heap.size + 1, 0, none⟩ 1 1 (ndCells ((ndAt f p).k, D, (ndAt f p).b, (ndAt f p).lo, (ndAt f p).hi, (ndAt f p).nm)) rfl rfl (cells_at _ _ (by simp) ((ndAt f p).k, D, (ndAt f p).b, (ndAt f p).lo, (ndAt f p).hi, (ndAt f p).nm)) (ndCells_one _) (by unfold maxLen; omega) (by omega) (by simp; omega) ?_; intro v' w2 hown' hgrow _))
        go_roundw
        case rel =>
          have hcut := hgrow.block w1.heap.size (by simp; omega) (fun e => by have := hob _ e.symm; omega)
          exact ⟨k + 1, by omega, by go_num, by rw [HQ.out, HM.out]; unfold OwnsN; rw [flatN_snoc, List.length_append, partTo_len]; exact hown', World.rowIs.of_block (World.rowIs.alloc (World.rowIs.alloc ((RowD.set HRow.out p k).congr (fun j => (HT.out j).symm)) _) _) hcut, (((HBr.out.setCell (Nat.le_refl _) _).alloc (by simp; omega) _).alloc (by simp; omega) _).grown hgrow (by simp; omega) (fun q hq => by have := hob q hq; omega)⟩
        case measure => simp [intOf]; omega
      · obtain ⟨na, hna⟩ := Int.eq_ofNat_of_zero_le (hx.1 (by omega)).1
        have hlta := (hx.1 (by omega)).2
        rw [hna] at hlta
        obtain ⟨nb, hnb'⟩ := Int.eq_ofNat_of_zero_le (hx.2 (by omega)).1
        have hltb := (hx.2 (by omega)).2
        rw [hnb'] at hltb
        have HM := hid (movedN_2 (toTo l k) (ndAt f p) na nb ha hna hnb')
        have ea := HRow.out.cell (i := na) (by omega)
        have eb := HRow.out.cell (i := nb) (by omega)
        rw [hna] at c1
        rw [hnb'] at c2
        clear hna hnb' hx
        generalize toTo l k na = D at *
        generalize toTo l k nb = E at *
        go_wp2_with (first | (go_at_call 61; refine (arms_w _ _).mono ?_; rintro e w' ⟨rfl, rfl⟩) | (at_builtin; refine wpList_append_own _ rfl _ _ 24 rfl (w1.heap.size + 1) 46 i0 _ 6 56 Tryd.uNs hi hz0 hz1' hz2 rfl (by decide) _ _ _ rfl (((ownsRow_setCell_below HO'.out (by simp only; omega) _).alloc _).alloc _) ⟨wr.heap.size + 1, 0, none⟩ 1 1 (ndCells ((ndAt f p).k, D, E, (ndAt f p).lo, (ndAt f p).hi, (ndAt f p).nm)) rfl rfl (cells_at _ _ (by simp) ((ndAt f p).k, D, E, (ndAt f p).lo, (ndAt f p).hi, (ndAt f p).nm)) (ndCells_one _) (by unfold maxLen; omega) (by omega) (by simp; omega) ?_; intro v' w2 hown' hgrow _))
        go_roundw
        case rel =>
          have hcut := hgrow.block w1.heap.size (by simp; omega) (fun e => by have := hob _ e.symm; omega)
          exact ⟨k + 1, by omega, by go_num, by rw [HQ.out, HM.out]; unfold OwnsN; rw [flatN_snoc, List.length_append, partTo_len]; exact hown', World.rowIs.of_block (World.rowIs.alloc (World.rowIs.alloc ((RowD.set HRow.out p k).congr (fun j => (HT.out j).symm)) _) _) hcut, (((HBr.out.setCell (Nat.le_refl _) _).alloc (by simp; omega) _).alloc (by simp; omega) _).grown hgrow (by simp; omega) (fun q hq => by have := hob q hq; omega)⟩
        case measure => simp [intOf]; omega
    · have hk' : k = l.length := by omega
      subst hk'
      go_wp2_with fail
      go_ret
      exact ⟨_, rfl, ownsRow_base HO.out (by omega), HB1.out.trans (HBr.out.mono hz1)⟩
theorem specPartAt_any (f : List Nd) (b cap i : Nat) (w : World) (hN : NodesAt w b f) (hr : rightB f = true) (hif : i < f.length) (hok : ∀ i, i < f.length → ndOk (ndAt f i)) :
    Calls Tryd.prog 50 #[.slice (some ⟨b, 0, none⟩) f.length cap, .int .i64 i] w fun e w' => ∃ v, e = .returned v ∧ OwnsN w' w.heap.size v (partTo f (walkF f f.length i []) (walkF f f.length i []).length) ∧ Below w.heap.size w w' :=
  specPartAt_good f b cap i w hN (by have := rightB_good' f hr; exact ⟨this.1, by omega, this.2.2⟩) hif hok
theorem is_w (n lo hi : Int) (w : World) : Calls Tryd.prog 66 #[.int .i64 n, .int .i64 lo, .int .i64 hi] w fun e w' => e = .returned (.bool (isB n lo hi)) ∧ w = w' := (is_any n lo hi w).mono fun _ _ h => ⟨h.1, h.2.symm⟩
theorem partB_no (f : List Nd) (i : Int) (h : ¬ (rightB f = true ∧ 0 ≤ i ∧ i < f.length)) : partB f i = [] := by unfold partB; rw [if_neg h]
theorem partB_yes (f : List Nd) (i : Nat) (h : rightB f = true) (hi : i < f.length) : partB f i = partTo f (walkF f f.length i []) (walkF f f.length i []).length := by
  unfold partB
  rw [if_pos ⟨h, by omega, by omega⟩, Int.toNat_natCast]
end Go.Proofs.YtagklhfejbdkdaaDoor
