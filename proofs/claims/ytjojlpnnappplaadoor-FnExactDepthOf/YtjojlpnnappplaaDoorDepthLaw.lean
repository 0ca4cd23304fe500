/-
  DepthOf: the program's by its contract, and the walk of the law.
-/
import Derived.Test.YtjojlpnnappplaaDoorDepthS
namespace Go.Proofs.YtjojlpnnappplaaDoor
open Go.RowKit
set_option linter.unusedVariables false
set_option linter.unusedSimpArgs false
theorem dTo_one (f : List Nd) : ∀ k j, j < k → 1 ≤ dTo f k j := by
  intro k
  induction k with
  | zero => intro j h; omega
  | succ k ih =>
    intro j hj
    unfold dTo
    split
    · have : 0 ≤ underD f (dTo f k) k := by
        unfold underD
        have h1 := dTo_bd f k (ndAt f k).a.toNat
        have h2 := dTo_bd f k (ndAt f k).b.toNat
        repeat' split
        all_goals omega
      omega
    · exact ih j (by omega)
set_option maxRecDepth 20000 in
set_option maxHeartbeats 8000000 in
theorem implDepth_any (f : List Nd) (b cap : Nat) (w : World) (hN : NodesAt w b f) (hok : ∀ i, i < f.length → ndOk (ndAt f i)) (hlen : f.length ≤ maxLen) (hkw : Kw w) (hg : 0 < w.heap.size) :
    Calls Tryd.prog 20 #[.slice (some ⟨b, 0, none⟩) f.length cap] w fun e w' => e = .returned (.int .i64 (depthB f)) ∧ Below w.heap.size w w' := by
  have HN := hid hN
  have HC := hid (implRight_any f b cap w hN hok hlen hkw hg)
  have hb := hN.1
  clear hN hkw
  rcases Bool.eq_false_or_eq_true (rightB f) with hr | hr
  · obtain ⟨hl1, hl2, hgd⟩ := rightB_good' f hr
    have HR : Hid (depthB f = dTo f f.length (f.length - 1)) := by show depthB f = _; simp [depthB, hr]
    have HD : Hid (downTo f f.length) := goodTo_down f _ hgd
    have HKD := hid (goodTo_kind f _ hgd)
    clear hgd
    have hmk := run_make_row' (P := Tryd.prog) 46 2 (.int .i64 0) 8 Tryd.underlying46 Tryd.infoI rfl .i64 .i64 f.length (by omega) (by omega)
    go_enter Tryd.func20, Tryd.ntmps20
    go_wp2_with fail
    refine HC.out.mono ?_
    rintro e w1 ⟨rfl, hb1⟩
    have HB1 := hid hb1
    have hz1 := hb1.size
    have HN1 := hid (HN.out.below hb1 hb)
    have hb1' := HN1.out.1
    clear hb1
    go_wp2_with fail
    go_loopw [16] (fun t wr => ∃ k : Nat, k ≤ f.length ∧ t = .int .i64 k ∧ RowD wr w1.heap.size f.length (dTo f k) ∧ Below w1.heap.size w1 wr) (fun t _ => f.length - (intOf t).toNat)
    case atStart => exact ⟨0, Nat.zero_le _, rfl, World.rowIs_made _ _ _ _, (Below.refl _ _).alloc (Nat.le_refl _) _⟩
    case round =>
      clear hmk
      obtain ⟨k, hk, rfl, hrow, hbel⟩ := hrel
      have HBr := hid hbel
      have HRow := hid hrow
      have hsz := hbel.size
      clear hbel hrow
      by_cases hlt : k < f.length
      · obtain ⟨c0, c1, c2, c3, c4, c5⟩ := (HN1.out.2 k hlt).below HBr.out HN1.out.1
        have hx := HD.out k hlt
        have hkk : (ndAt f k).k = 1 ∨ (ndAt f k).k = 2 ∨ (ndAt f k).k = 3 ∨ (ndAt f k).k = 4 ∨ (ndAt f k).k = 5 ∨ (ndAt f k).k = 6 ∨ (ndAt f k).k = 7 ∨ (ndAt f k).k = 8 ∨ (ndAt f k).k = 9 := by
          have := HKD.out k hlt
          simp [isB] at this
          omega
        rcases hkk with hkk | hkk | hkk | hkk | hkk | hkk | hkk | hkk | hkk
        · have ha : armsN (ndAt f k).k = 0 := by rw [hkk]; decide
          rw [hkk] at c0
          have HS := hid (dTo_step f k 0 (underD_0 f _ k ha))
          have hpm := pmeth1 (ndAt f k).a (ndAt f k).b (ndAt f k).lo (ndAt f k).hi (ndAt f k).nm
          clear hkk hx ha
          go_wp2_with (first | (go_at_call 47; refine (form1 _ _ _ _ _ _).mono ?_; rintro e w2 ⟨rfl, hb2⟩; have HB2 : Hid (Below wr.heap.size wr w2) := ((Below.refl _ _).alloc (Nat.le_refl _) _).trans (hb2.mono (by simp)); clear hb2) | (go_at_call 130; refine (parts0 _).mono ?_; rintro e w3 ⟨rfl, hb3⟩; have HB3 : Hid (Below wr.heap.size wr w3) := HB2.out.trans (hb3.mono HB2.out.size); clear hb3))
          have HRow3 : Hid (RowD w3 w1.heap.size f.length (dTo f k)) := World.rowIs.of_block HRow.out (HB3.out.block _ HRow.out.lt)
          have HBr3 : Hid (Below w1.heap.size w1 w3) := HBr.out.trans (HB3.out.mono hsz)
          have hz3 := HB3.out.size
          have hz2 := HB2.out.size
          have hrl := HRow.out.lt
          clear c0 c1 c2 c3 c4 c5 hpm HB2 HB3
          go_loopw [25] (fun t wq => t = .int .i64 0 ∧ wq = w3) (fun _ _ => 0)
          case atStart => exact ⟨rfl, rfl⟩
          case round =>
            obtain ⟨rfl, rfl⟩ := hrel
            have ek := HRow3.out.cell (i := k) hlt
            rw [dTo_above f k k (Nat.le_refl _)] at ek
            have fk := HRow3.out.frozen k
            · go_wp2_with fail
              go_roundw
              case rel => exact ⟨k + 1, by omega, by go_num, (HRow3.out.set k 1).congr (fun j => by rw [HS.out j]; by_cases e : j = k <;> simp [e]), HBr3.out.setCell (Nat.le_refl _) _⟩
              case measure => simp [intOf]; omega
        · have ha : armsN (ndAt f k).k = 0 := by rw [hkk]; decide
          rw [hkk] at c0
          have HS := hid (dTo_step f k 0 (underD_0 f _ k ha))
          have hpm := pmeth2 (ndAt f k).a (ndAt f k).b (ndAt f k).lo (ndAt f k).hi (ndAt f k).nm
          clear hkk hx ha
          go_wp2_with (first | (go_at_call 47; refine (form2 _ _ _ _ _ _).mono ?_; rintro e w2 ⟨rfl, hb2⟩; have HB2 : Hid (Below wr.heap.size wr w2) := ((Below.refl _ _).alloc (Nat.le_refl _) _).trans (hb2.mono (by simp)); clear hb2) | (go_at_call 130; refine (parts0 _).mono ?_; rintro e w3 ⟨rfl, hb3⟩; have HB3 : Hid (Below wr.heap.size wr w3) := HB2.out.trans (hb3.mono HB2.out.size); clear hb3))
          have HRow3 : Hid (RowD w3 w1.heap.size f.length (dTo f k)) := World.rowIs.of_block HRow.out (HB3.out.block _ HRow.out.lt)
          have HBr3 : Hid (Below w1.heap.size w1 w3) := HBr.out.trans (HB3.out.mono hsz)
          have hz3 := HB3.out.size
          have hz2 := HB2.out.size
          have hrl := HRow.out.lt
          clear c0 c1 c2 c3 c4 c5 hpm HB2 HB3
          go_loopw [25] (fun t wq => t = .int .i64 0 ∧ wq = w3) (fun _ _ => 0)
          case atStart => exact ⟨rfl, rfl⟩
          case round =>
            obtain ⟨rfl, rfl⟩ := hrel
            have ek := HRow3.out.cell (i := k) hlt
            rw [dTo_above f k k (Nat.le_refl _)] at ek
            have fk := HRow3.out.frozen k
            · go_wp2_with fail
              go_roundw
              case rel => exact ⟨k + 1, by omega, by go_num, (HRow3.out.set k 1).congr (fun j => by rw [HS.out j]; by_cases e : j = k <;> simp [e]), HBr3.out.setCell (Nat.le_refl _) _⟩
              case measure => simp [intOf]; omega
        · have ha : armsN (ndAt f k).k = 1 := by rw [hkk]; decide
          rw [hkk] at c0
          obtain ⟨na, hna⟩ := Int.eq_ofNat_of_zero_le (hx.1 (by omega)).1
          have hlta := (hx.1 (by omega)).2
          rw [hna] at hlta c1
          have hnk : ¬ na = k := by omega
          have hkn : ¬ k = na := by omega
          have HD1 := hid (dTo_one f k na (by omega))
          have HS := hid (dTo_step f k _ (underD_1 f _ k na ha hna))
          have hpm := pmeth3 na (ndAt f k).b (ndAt f k).lo (ndAt f k).hi (ndAt f k).nm
          clear hkk hx ha hna
          go_wp2_with (first | (go_at_call 47; refine (form3 _ _ _ _ _ _).mono ?_; rintro e w2 ⟨rfl, hb2⟩; have HB2 : Hid (Below wr.heap.size wr w2) := ((Below.refl _ _).alloc (Nat.le_refl _) _).trans (hb2.mono (by simp)); clear hb2) | (go_at_call 128; refine (parts1 _ _).mono ?_; rintro e w3 ⟨g, rfl, hg1, hg2, hg3, hb3⟩; have HB3 : Hid (Below wr.heap.size wr w3) := HB2.out.trans (hb3.mono HB2.out.size); clear hb3))
          have HRow3 : Hid (RowD w3 w1.heap.size f.length (dTo f k)) := World.rowIs.of_block HRow.out (HB3.out.block _ HRow.out.lt)
          have HBr3 : Hid (Below w1.heap.size w1 w3) := HBr.out.trans (HB3.out.mono hsz)
          have hz3 := HB3.out.size
          have hz2 := HB2.out.size
          have hrl := HRow.out.lt
          clear c0 c1 c2 c3 c4 c5 hpm HB2 HB3
          go_loopw [25] (fun t wq => (t = .int .i64 0 ∧ wq = w3) ∨ (t = .int .i64 1 ∧ RowD wq w1.heap.size f.length (fun q => if q = k then dTo f k na else dTo f k q) ∧ Below w1.heap.size w1 wq)) (fun t _ => 1 - (intOf t).toNat)
          case atStart => exact Or.inl ⟨rfl, rfl⟩
          case round =>
            rcases hrel with ⟨rfl, rfl⟩ | ⟨rfl, hrw, hbq⟩
            · have ek := HRow3.out.cell (i := k) hlt
              rw [dTo_above f k k (Nat.le_refl _)] at ek
              have fk := HRow3.out.frozen k
              have ea := HRow3.out.cell (i := na) (by omega)
              have hd1 := HD1.out
              have HR1 := hid (HRow3.out.set k (dTo f k na))
              generalize dTo f k na = D at *
              have hpos : 0 < D := by omega
              go_wp2_with fail
              go_region
              all_goals
                go_wp2_with fail
                go_roundw
                case rel => exact Or.inr ⟨rfl, HR1.out, HBr3.out.drew.setCell (Nat.le_refl _) _⟩
                case measure => simp [intOf]
            · have HRW := hid hrw
              have HBq := hid hbq
              have ek := hrw.cell (i := k) hlt
              simp only [if_true] at ek
              have fk := hrw.frozen k
              have hbd := dTo_bd f k na
              clear hrw hbq
              go_wp2_with fail
              go_roundw
              case rel => exact ⟨k + 1, by omega, by go_num, (HRW.out.set k (dTo f k na + 1)).congr (fun j => by rw [HS.out j]; by_cases e : j = k <;> simp [e]), HBq.out.setCell (Nat.le_refl _) _⟩
              case measure => simp [intOf]; omega
        · have ha : armsN (ndAt f k).k = 2 := by rw [hkk]; decide
          rw [hkk] at c0
          obtain ⟨na, hna⟩ := Int.eq_ofNat_of_zero_le (hx.1 (by omega)).1
          have hlta := (hx.1 (by omega)).2
          rw [hna] at hlta c1
          have hnk : ¬ na = k := by omega
          have hkn : ¬ k = na := by omega
          have HD1 := hid (dTo_one f k na (by omega))
          obtain ⟨nb, hnb'⟩ := Int.eq_ofNat_of_zero_le (hx.2 (by omega)).1
          have hltb := (hx.2 (by omega)).2
          rw [hnb'] at hltb c2
          have hnk2 : ¬ nb = k := by omega
          have hkn2 : ¬ k = nb := by omega
          have HS := hid (dTo_step f k _ (underD_2 f _ k na nb ha hna hnb'))
          have hpm := pmeth4 na nb (ndAt f k).lo (ndAt f k).hi (ndAt f k).nm
          clear hkk hx ha hna hnb'
          go_wp2_with (first | (go_at_call 47; refine (form4 _ _ _ _ _ _).mono ?_; rintro e w2 ⟨rfl, hb2⟩; have HB2 : Hid (Below wr.heap.size wr w2) := ((Below.refl _ _).alloc (Nat.le_refl _) _).trans (hb2.mono (by simp)); clear hb2) | (go_at_call 129; refine (parts2 _ _ _).mono ?_; rintro e w3 ⟨g, rfl, hg1, hg2, hg3, hg4, hb3⟩; have HB3 : Hid (Below wr.heap.size wr w3) := HB2.out.trans (hb3.mono HB2.out.size); clear hb3))
          have HRow3 : Hid (RowD w3 w1.heap.size f.length (dTo f k)) := World.rowIs.of_block HRow.out (HB3.out.block _ HRow.out.lt)
          have HBr3 : Hid (Below w1.heap.size w1 w3) := HBr.out.trans (HB3.out.mono hsz)
          have hz3 := HB3.out.size
          have hz2 := HB2.out.size
          have hrl := HRow.out.lt
          clear c0 c1 c2 c3 c4 c5 hpm HB2 HB3
          go_loopw [25] (fun t wq => (t = .int .i64 0 ∧ wq = w3) ∨ (t = .int .i64 1 ∧ RowD wq w1.heap.size f.length (fun q => if q = k then dTo f k na else dTo f k q) ∧ Below w1.heap.size w1 wq ∧ wq.cell? ⟨g, 1, none⟩ = some (.int .i64 nb)) ∨ (t = .int .i64 2 ∧ RowD wq w1.heap.size f.length (fun q => if q = k then (if dTo f k na < dTo f k nb then dTo f k nb else dTo f k na) else dTo f k q) ∧ Below w1.heap.size w1 wq)) (fun t _ => 2 - (intOf t).toNat)
          case atStart => exact Or.inl ⟨rfl, rfl⟩
          case round =>
            rcases hrel with ⟨rfl, rfl⟩ | ⟨rfl, hrw, hbq, hgc⟩ | ⟨rfl, hrw, hbq⟩
            · have ek := HRow3.out.cell (i := k) hlt
              rw [dTo_above f k k (Nat.le_refl _)] at ek
              have fk := HRow3.out.frozen k
              have ea := HRow3.out.cell (i := na) (by omega)
              have hd1 := HD1.out
              have HR1 := hid (HRow3.out.set k (dTo f k na))
              have HGC := hid hg4
              clear hg4
              generalize dTo f k na = D at *
              have hpos : 0 < D := by omega
              go_wp2_with fail
              go_region
              all_goals
                go_wp2_with fail
                go_roundw
                case rel => exact Or.inr (Or.inl ⟨rfl, HR1.out, HBr3.out.drew.setCell (Nat.le_refl _) _, (World.cell?_setCell_other _ _ _ _ (by intro e; injection e with e1; omega)).trans HGC.out⟩)
                case measure => simp [intOf]
            · have HRW := hid hrw
              have HBq := hid hbq
              have ek := hrw.cell (i := k) hlt
              simp only [if_true] at ek
              have fk := hrw.frozen k
              have eb := hrw.cell (i := nb) (by omega)
              simp only [hnk2, if_false] at eb
              clear hrw hbq hg3 hg4
              have HR1 := hid ((HRW.out.set k (if dTo f k na < dTo f k nb then dTo f k nb else dTo f k na)).congr (d' := fun q => if q = k then (if dTo f k na < dTo f k nb then dTo f k nb else dTo f k na) else dTo f k q) (fun j => by by_cases e : j = k <;> simp [e]))
              generalize dTo f k na = D at *
              generalize dTo f k nb = E at *
              go_wp2_with fail
              go_region
              all_goals
                go_wp2_with fail
                go_roundw
                case rel => exact Or.inr (Or.inr ⟨rfl, HR1.out, HBq.out.drew.setCell (Nat.le_refl _) _⟩)
                case measure => simp [intOf]
            · have HRW := hid hrw
              have HBq := hid hbq
              have ek := hrw.cell (i := k) hlt
              simp only [if_true] at ek
              have fk := hrw.frozen k
              have hbd := dTo_bd f k na
              have hbd2 := dTo_bd f k nb
              clear hrw hbq
              have hm : 0 ≤ (if dTo f k na < dTo f k nb then dTo f k nb else dTo f k na) ∧ (if dTo f k na < dTo f k nb then dTo f k nb else dTo f k na) ≤ k := by split <;> omega
              generalize hM : (if dTo f k na < dTo f k nb then dTo f k nb else dTo f k na) = M at *
              clear hM
              go_wp2_with fail
              go_roundw
              case rel => exact ⟨k + 1, by omega, by go_num, (HRW.out.set k (M + 1)).congr (fun j => by rw [HS.out j]; by_cases e : j = k <;> simp [e]), HBq.out.setCell (Nat.le_refl _) _⟩
              case measure => simp [intOf]; omega
        · have ha : armsN (ndAt f k).k = 2 := by rw [hkk]; decide
          rw [hkk] at c0
          obtain ⟨na, hna⟩ := Int.eq_ofNat_of_zero_le (hx.1 (by omega)).1
          have hlta := (hx.1 (by omega)).2
          rw [hna] at hlta c1
          have hnk : ¬ na = k := by omega
          have hkn : ¬ k = na := by omega
          have HD1 := hid (dTo_one f k na (by omega))
          obtain ⟨nb, hnb'⟩ := Int.eq_ofNat_of_zero_le (hx.2 (by omega)).1
          have hltb := (hx.2 (by omega)).2
          rw [hnb'] at hltb c2
          have hnk2 : ¬ nb = k := by omega
          have hkn2 : ¬ k = nb := by omega
          have HS := hid (dTo_step f k _ (underD_2 f _ k na nb ha hna hnb'))
          have hpm := pmeth5 na nb (ndAt f k).lo (ndAt f k).hi (ndAt f k).nm
          clear hkk hx ha hna hnb'
          go_wp2_with (first | (go_at_call 47; refine (form5 _ _ _ _ _ _).mono ?_; rintro e w2 ⟨rfl, hb2⟩; have HB2 : Hid (Below wr.heap.size wr w2) := ((Below.refl _ _).alloc (Nat.le_refl _) _).trans (hb2.mono (by simp)); clear hb2) | (go_at_call 129; refine (parts2 _ _ _).mono ?_; rintro e w3 ⟨g, rfl, hg1, hg2, hg3, hg4, hb3⟩; have HB3 : Hid (Below wr.heap.size wr w3) := HB2.out.trans (hb3.mono HB2.out.size); clear hb3))
          have HRow3 : Hid (RowD w3 w1.heap.size f.length (dTo f k)) := World.rowIs.of_block HRow.out (HB3.out.block _ HRow.out.lt)
          have HBr3 : Hid (Below w1.heap.size w1 w3) := HBr.out.trans (HB3.out.mono hsz)
          have hz3 := HB3.out.size
          have hz2 := HB2.out.size
          have hrl := HRow.out.lt
          clear c0 c1 c2 c3 c4 c5 hpm HB2 HB3
          go_loopw [25] (fun t wq => (t = .int .i64 0 ∧ wq = w3) ∨ (t = .int .i64 1 ∧ RowD wq w1.heap.size f.length (fun q => if q = k then dTo f k na else dTo f k q) ∧ Below w1.heap.size w1 wq ∧ wq.cell? ⟨g, 1, none⟩ = some (.int .i64 nb)) ∨ (t = .int .i64 2 ∧ RowD wq w1.heap.size f.length (fun q => if q = k then (if dTo f k na < dTo f k nb then dTo f k nb else dTo f k na) else dTo f k q) ∧ Below w1.heap.size w1 wq)) (fun t _ => 2 - (intOf t).toNat)
          case atStart => exact Or.inl ⟨rfl, rfl⟩
          case round =>
            rcases hrel with ⟨rfl, rfl⟩ | ⟨rfl, hrw, hbq, hgc⟩ | ⟨rfl, hrw, hbq⟩
            · have ek := HRow3.out.cell (i := k) hlt
              rw [dTo_above f k k (Nat.le_refl _)] at ek
              have fk := HRow3.out.frozen k
              have ea := HRow3.out.cell (i := na) (by omega)
              have hd1 := HD1.out
              have HR1 := hid (HRow3.out.set k (dTo f k na))
              have HGC := hid hg4
              clear hg4
              generalize dTo f k na = D at *
              have hpos : 0 < D := by omega
              go_wp2_with fail
              go_region
              all_goals
                go_wp2_with fail
                go_roundw
                case rel => exact Or.inr (Or.inl ⟨rfl, HR1.out, HBr3.out.drew.setCell (Nat.le_refl _) _, (World.cell?_setCell_other _ _ _ _ (by intro e; injection e with e1; omega)).trans HGC.out⟩)
                case measure => simp [intOf]
            · have HRW := hid hrw
              have HBq := hid hbq
              have ek := hrw.cell (i := k) hlt
              simp only [if_true] at ek
              have fk := hrw.frozen k
              have eb := hrw.cell (i := nb) (by omega)
              simp only [hnk2, if_false] at eb
              clear hrw hbq hg3 hg4
              have HR1 := hid ((HRW.out.set k (if dTo f k na < dTo f k nb then dTo f k nb else dTo f k na)).congr (d' := fun q => if q = k then (if dTo f k na < dTo f k nb then dTo f k nb else dTo f k na) else dTo f k q) (fun j => by by_cases e : j = k <;> simp [e]))
              generalize dTo f k na = D at *
              generalize dTo f k nb = E at *
              go_wp2_with fail
              go_region
              all_goals
                go_wp2_with fail
                go_roundw
                case rel => exact Or.inr (Or.inr ⟨rfl, HR1.out, HBq.out.drew.setCell (Nat.le_refl _) _⟩)
                case measure => simp [intOf]
            · have HRW := hid hrw
              have HBq := hid hbq
              have ek := hrw.cell (i := k) hlt
              simp only [if_true] at ek
              have fk := hrw.frozen k
              have hbd := dTo_bd f k na
              have hbd2 := dTo_bd f k nb
              clear hrw hbq
              have hm : 0 ≤ (if dTo f k na < dTo f k nb then dTo f k nb else dTo f k na) ∧ (if dTo f k na < dTo f k nb then dTo f k nb else dTo f k na) ≤ k := by split <;> omega
              generalize hM : (if dTo f k na < dTo f k nb then dTo f k nb else dTo f k na) = M at *
              clear hM
              go_wp2_with fail
              go_roundw
              case rel => exact ⟨k + 1, by omega, by go_num, (HRW.out.set k (M + 1)).congr (fun j => by rw [HS.out j]; by_cases e : j = k <;> simp [e]), HBq.out.setCell (Nat.le_refl _) _⟩
              case measure => simp [intOf]; omega
        · have ha : armsN (ndAt f k).k = 1 := by rw [hkk]; decide
          rw [hkk] at c0
          obtain ⟨na, hna⟩ := Int.eq_ofNat_of_zero_le (hx.1 (by omega)).1
          have hlta := (hx.1 (by omega)).2
          rw [hna] at hlta c1
          have hnk : ¬ na = k := by omega
          have hkn : ¬ k = na := by omega
          have HD1 := hid (dTo_one f k na (by omega))
          have HS := hid (dTo_step f k _ (underD_1 f _ k na ha hna))
          have hpm := pmeth6 na (ndAt f k).b (ndAt f k).lo (ndAt f k).hi (ndAt f k).nm
          clear hkk hx ha hna
          go_wp2_with (first | (go_at_call 47; refine (form6 _ _ _ _ _ _).mono ?_; rintro e w2 ⟨rfl, hb2⟩; have HB2 : Hid (Below wr.heap.size wr w2) := ((Below.refl _ _).alloc (Nat.le_refl _) _).trans (hb2.mono (by simp)); clear hb2) | (go_at_call 128; refine (parts1 _ _).mono ?_; rintro e w3 ⟨g, rfl, hg1, hg2, hg3, hb3⟩; have HB3 : Hid (Below wr.heap.size wr w3) := HB2.out.trans (hb3.mono HB2.out.size); clear hb3))
          have HRow3 : Hid (RowD w3 w1.heap.size f.length (dTo f k)) := World.rowIs.of_block HRow.out (HB3.out.block _ HRow.out.lt)
          have HBr3 : Hid (Below w1.heap.size w1 w3) := HBr.out.trans (HB3.out.mono hsz)
          have hz3 := HB3.out.size
          have hz2 := HB2.out.size
          have hrl := HRow.out.lt
          clear c0 c1 c2 c3 c4 c5 hpm HB2 HB3
          go_loopw [25] (fun t wq => (t = .int .i64 0 ∧ wq = w3) ∨ (t = .int .i64 1 ∧ RowD wq w1.heap.size f.length (fun q => if q = k then dTo f k na else dTo f k q) ∧ Below w1.heap.size w1 wq)) (fun t _ => 1 - (intOf t).toNat)
          case atStart => exact Or.inl ⟨rfl, rfl⟩
          case round =>
            rcases hrel with ⟨rfl, rfl⟩ | ⟨rfl, hrw, hbq⟩
            · have ek := HRow3.out.cell (i := k) hlt
              rw [dTo_above f k k (Nat.le_refl _)] at ek
              have fk := HRow3.out.frozen k
              have ea := HRow3.out.cell (i := na) (by omega)
              have hd1 := HD1.out
              have HR1 := hid (HRow3.out.set k (dTo f k na))
              generalize dTo f k na = D at *
              have hpos : 0 < D := by omega
              go_wp2_with fail
              go_region
              all_goals
                go_wp2_with fail
                go_roundw
                case rel => exact Or.inr ⟨rfl, HR1.out, HBr3.out.drew.setCell (Nat.le_refl _) _⟩
                case measure => simp [intOf]
            · have HRW := hid hrw
              have HBq := hid hbq
              have ek := hrw.cell (i := k) hlt
              simp only [if_true] at ek
              have fk := hrw.frozen k
              have hbd := dTo_bd f k na
              clear hrw hbq
              go_wp2_with fail
              go_roundw
              case rel => exact ⟨k + 1, by omega, by go_num, (HRW.out.set k (dTo f k na + 1)).congr (fun j => by rw [HS.out j]; by_cases e : j = k <;> simp [e]), HBq.out.setCell (Nat.le_refl _) _⟩
              case measure => simp [intOf]; omega
        · have ha : armsN (ndAt f k).k = 1 := by rw [hkk]; decide
          rw [hkk] at c0
          obtain ⟨na, hna⟩ := Int.eq_ofNat_of_zero_le (hx.1 (by omega)).1
          have hlta := (hx.1 (by omega)).2
          rw [hna] at hlta c1
          have hnk : ¬ na = k := by omega
          have hkn : ¬ k = na := by omega
          have HD1 := hid (dTo_one f k na (by omega))
          have HS := hid (dTo_step f k _ (underD_1 f _ k na ha hna))
          have hpm := pmeth7 na (ndAt f k).b (ndAt f k).lo (ndAt f k).hi (ndAt f k).nm
          clear hkk hx ha hna
          go_wp2_with (first | (go_at_call 47; refine (form7 _ _ _ _ _ _).mono ?_; rintro e w2 ⟨rfl, hb2⟩; have HB2 : Hid (Below wr.heap.size wr w2) := ((Below.refl _ _).alloc (Nat.le_refl _) _).trans (hb2.mono (by simp)); clear hb2) | (go_at_call 128; refine (parts1 _ _).mono ?_; rintro e w3 ⟨g, rfl, hg1, hg2, hg3, hb3⟩; have HB3 : Hid (Below wr.heap.size wr w3) := HB2.out.trans (hb3.mono HB2.out.size); clear hb3))
          have HRow3 : Hid (RowD w3 w1.heap.size f.length (dTo f k)) := World.rowIs.of_block HRow.out (HB3.out.block _ HRow.out.lt)
          have HBr3 : Hid (Below w1.heap.size w1 w3) := HBr.out.trans (HB3.out.mono hsz)
          have hz3 := HB3.out.size
          have hz2 := HB2.out.size
          have hrl := HRow.out.lt
          clear c0 c1 c2 c3 c4 c5 hpm HB2 HB3
          go_loopw [25] (fun t wq => (t = .int .i64 0 ∧ wq = w3) ∨ (t = .int .i64 1 ∧ RowD wq w1.heap.size f.length (fun q => if q = k then dTo f k na else dTo f k q) ∧ Below w1.heap.size w1 wq)) (fun t _ => 1 - (intOf t).toNat)
          case atStart => exact Or.inl ⟨rfl, rfl⟩
          case round =>
            rcases hrel with ⟨rfl, rfl⟩ | ⟨rfl, hrw, hbq⟩
            · have ek := HRow3.out.cell (i := k) hlt
              rw [dTo_above f k k (Nat.le_refl _)] at ek
              have fk := HRow3.out.frozen k
              have ea := HRow3.out.cell (i := na) (by omega)
              have hd1 := HD1.out
              have HR1 := hid (HRow3.out.set k (dTo f k na))
              generalize dTo f k na = D at *
              have hpos : 0 < D := by omega
              go_wp2_with fail
              go_region
              all_goals
                go_wp2_with fail
                go_roundw
                case rel => exact Or.inr ⟨rfl, HR1.out, HBr3.out.drew.setCell (Nat.le_refl _) _⟩
                case measure => simp [intOf]
            · have HRW := hid hrw
              have HBq := hid hbq
              have ek := hrw.cell (i := k) hlt
              simp only [if_true] at ek
              have fk := hrw.frozen k
              have hbd := dTo_bd f k na
              clear hrw hbq
              go_wp2_with fail
              go_roundw
              case rel => exact ⟨k + 1, by omega, by go_num, (HRW.out.set k (dTo f k na + 1)).congr (fun j => by rw [HS.out j]; by_cases e : j = k <;> simp [e]), HBq.out.setCell (Nat.le_refl _) _⟩
              case measure => simp [intOf]; omega
        · have ha : armsN (ndAt f k).k = 1 := by rw [hkk]; decide
          rw [hkk] at c0
          obtain ⟨na, hna⟩ := Int.eq_ofNat_of_zero_le (hx.1 (by omega)).1
          have hlta := (hx.1 (by omega)).2
          rw [hna] at hlta c1
          have hnk : ¬ na = k := by omega
          have hkn : ¬ k = na := by omega
          have HD1 := hid (dTo_one f k na (by omega))
          have HS := hid (dTo_step f k _ (underD_1 f _ k na ha hna))
          have hpm := pmeth8 na (ndAt f k).b (ndAt f k).lo (ndAt f k).hi (ndAt f k).nm
          clear hkk hx ha hna
          go_wp2_with (first | (go_at_call 47; refine (form8 _ _ _ _ _ _).mono ?_; rintro e w2 ⟨rfl, hb2⟩; have HB2 : Hid (Below wr.heap.size wr w2) := ((Below.refl _ _).alloc (Nat.le_refl _) _).trans (hb2.mono (by simp)); clear hb2) | (go_at_call 128; refine (parts1 _ _).mono ?_; rintro e w3 ⟨g, rfl, hg1, hg2, hg3, hb3⟩; have HB3 : Hid (Below wr.heap.size wr w3) := HB2.out.trans (hb3.mono HB2.out.size); clear hb3))
          have HRow3 : Hid (RowD w3 w1.heap.size f.length (dTo f k)) := World.rowIs.of_block HRow.out (HB3.out.block _ HRow.out.lt)
          have HBr3 : Hid (Below w1.heap.size w1 w3) := HBr.out.trans (HB3.out.mono hsz)
          have hz3 := HB3.out.size
          have hz2 := HB2.out.size
          have hrl := HRow.out.lt
          clear c0 c1 c2 c3 c4 c5 hpm HB2 HB3
          go_loopw [25] (fun t wq => (t = .int .i64 0 ∧ wq = w3) ∨ (t = .int .i64 1 ∧ RowD wq w1.heap.size f.length (fun q => if q = k then dTo f k na else dTo f k q) ∧ Below w1.heap.size w1 wq)) (fun t _ => 1 - (intOf t).toNat)
          case atStart => exact Or.inl ⟨rfl, rfl⟩
          case round =>
            rcases hrel with ⟨rfl, rfl⟩ | ⟨rfl, hrw, hbq⟩
            · have ek := HRow3.out.cell (i := k) hlt
              rw [dTo_above f k k (Nat.le_refl _)] at ek
              have fk := HRow3.out.frozen k
              have ea := HRow3.out.cell (i := na) (by omega)
              have hd1 := HD1.out
              have HR1 := hid (HRow3.out.set k (dTo f k na))
              generalize dTo f k na = D at *
              have hpos : 0 < D := by omega
              go_wp2_with fail
              go_region
              all_goals
                go_wp2_with fail
                go_roundw
                case rel => exact Or.inr ⟨rfl, HR1.out, HBr3.out.drew.setCell (Nat.le_refl _) _⟩
                case measure => simp [intOf]
            · have HRW := hid hrw
              have HBq := hid hbq
              have ek := hrw.cell (i := k) hlt
              simp only [if_true] at ek
              have fk := hrw.frozen k
              have hbd := dTo_bd f k na
              clear hrw hbq
              go_wp2_with fail
              go_roundw
              case rel => exact ⟨k + 1, by omega, by go_num, (HRW.out.set k (dTo f k na + 1)).congr (fun j => by rw [HS.out j]; by_cases e : j = k <;> simp [e]), HBq.out.setCell (Nat.le_refl _) _⟩
              case measure => simp [intOf]; omega
        · have ha : armsN (ndAt f k).k = 2 := by rw [hkk]; decide
          rw [hkk] at c0
          obtain ⟨na, hna⟩ := Int.eq_ofNat_of_zero_le (hx.1 (by omega)).1
          have hlta := (hx.1 (by omega)).2
          rw [hna] at hlta c1
          have hnk : ¬ na = k := by omega
          have hkn : ¬ k = na := by omega
          have HD1 := hid (dTo_one f k na (by omega))
          obtain ⟨nb, hnb'⟩ := Int.eq_ofNat_of_zero_le (hx.2 (by omega)).1
          have hltb := (hx.2 (by omega)).2
          rw [hnb'] at hltb c2
          have hnk2 : ¬ nb = k := by omega
          have hkn2 : ¬ k = nb := by omega
          have HS := hid (dTo_step f k _ (underD_2 f _ k na nb ha hna hnb'))
          have hpm := pmeth9 na nb (ndAt f k).lo (ndAt f k).hi (ndAt f k).nm
          clear hkk hx ha hna hnb'
          go_wp2_with (first | (go_at_call 47; refine (form9 _ _ _ _ _ _).mono ?_; rintro e w2 ⟨rfl, hb2⟩; have HB2 : Hid (Below wr.heap.size wr w2) := ((Below.refl _ _).alloc (Nat.le_refl _) _).trans (hb2.mono (by simp)); clear hb2) | (go_at_call 129; refine (parts2 _ _ _).mono ?_; rintro e w3 ⟨g, rfl, hg1, hg2, hg3, hg4, hb3⟩; have HB3 : Hid (Below wr.heap.size wr w3) := HB2.out.trans (hb3.mono HB2.out.size); clear hb3))
          have HRow3 : Hid (RowD w3 w1.heap.size f.length (dTo f k)) := World.rowIs.of_block HRow.out (HB3.out.block _ HRow.out.lt)
          have HBr3 : Hid (Below w1.heap.size w1 w3) := HBr.out.trans (HB3.out.mono hsz)
          have hz3 := HB3.out.size
          have hz2 := HB2.out.size
          have hrl := HRow.out.lt
          clear c0 c1 c2 c3 c4 c5 hpm HB2 HB3
          go_loopw [25] (fun t wq => (t = .int .i64 0 ∧ wq = w3) ∨ (t = .int .i64 1 ∧ RowD wq w1.heap.size f.length (fun q => if q = k then dTo f k na else dTo f k q) ∧ Below w1.heap.size w1 wq ∧ wq.cell? ⟨g, 1, none⟩ = some (.int .i64 nb)) ∨ (t = .int .i64 2 ∧ RowD wq w1.heap.size f.length (fun q => if q = k then (if dTo f k na < dTo f k nb then dTo f k nb else dTo f k na) else dTo f k q) ∧ Below w1.heap.size w1 wq)) (fun t _ => 2 - (intOf t).toNat)
          case atStart => exact Or.inl ⟨rfl, rfl⟩
          case round =>
            rcases hrel with ⟨rfl, rfl⟩ | ⟨rfl, hrw, hbq, hgc⟩ | ⟨rfl, hrw, hbq⟩
            · have ek := HRow3.out.cell (i := k) hlt
              rw [dTo_above f k k (Nat.le_refl _)] at ek
              have fk := HRow3.out.frozen k
              have ea := HRow3.out.cell (i := na) (by omega)
              have hd1 := HD1.out
              have HR1 := hid (HRow3.out.set k (dTo f k na))
              have HGC := hid hg4
              clear hg4
              generalize dTo f k na = D at *
              have hpos : 0 < D := by omega
              go_wp2_with fail
              go_region
              all_goals
                go_wp2_with fail
                go_roundw
                case rel => exact Or.inr (Or.inl ⟨rfl, HR1.out, HBr3.out.drew.setCell (Nat.le_refl _) _, (World.cell?_setCell_other _ _ _ _ (by intro e; injection e with e1; omega)).trans HGC.out⟩)
                case measure => simp [intOf]
            · have HRW := hid hrw
              have HBq := hid hbq
              have ek := hrw.cell (i := k) hlt
              simp only [if_true] at ek
              have fk := hrw.frozen k
              have eb := hrw.cell (i := nb) (by omega)
              simp only [hnk2, if_false] at eb
              clear hrw hbq hg3 hg4
              have HR1 := hid ((HRW.out.set k (if dTo f k na < dTo f k nb then dTo f k nb else dTo f k na)).congr (d' := fun q => if q = k then (if dTo f k na < dTo f k nb then dTo f k nb else dTo f k na) else dTo f k q) (fun j => by by_cases e : j = k <;> simp [e]))
              generalize dTo f k na = D at *
              generalize dTo f k nb = E at *
              go_wp2_with fail
              go_region
              all_goals
                go_wp2_with fail
                go_roundw
                case rel => exact Or.inr (Or.inr ⟨rfl, HR1.out, HBq.out.drew.setCell (Nat.le_refl _) _⟩)
                case measure => simp [intOf]
            · have HRW := hid hrw
              have HBq := hid hbq
              have ek := hrw.cell (i := k) hlt
              simp only [if_true] at ek
              have fk := hrw.frozen k
              have hbd := dTo_bd f k na
              have hbd2 := dTo_bd f k nb
              clear hrw hbq
              have hm : 0 ≤ (if dTo f k na < dTo f k nb then dTo f k nb else dTo f k na) ∧ (if dTo f k na < dTo f k nb then dTo f k nb else dTo f k na) ≤ k := by split <;> omega
              generalize hM : (if dTo f k na < dTo f k nb then dTo f k nb else dTo f k na) = M at *
              clear hM
              go_wp2_with fail
              go_roundw
              case rel => exact ⟨k + 1, by omega, by go_num, (HRW.out.set k (M + 1)).congr (fun j => by rw [HS.out j]; by_cases e : j = k <;> simp [e]), HBq.out.setCell (Nat.le_refl _) _⟩
              case measure => simp [intOf]; omega
      · have hk' : k = f.length := by omega
        subst hk'
        have el := HRow.out.cell (i := f.length - 1) (by omega)
        have hcast : ((f.length : Nat) : Int) - 1 = ((f.length - 1 : Nat) : Int) := by omega
        have hll : f.length - 1 < f.length := by omega
        go_wp2_with fail
        go_ret
        exact ⟨ret_int HR.out.symm, HB1.out.trans (HBr.out.mono hz1)⟩
  · have HR : Hid (depthB f = 0) := by show depthB f = _; simp [depthB, hr]
    go_enter Tryd.func20, Tryd.ntmps20
    go_wp2_with fail
    refine HC.out.mono ?_
    rintro e w1 ⟨rfl, hb1⟩
    have HB1 := hid hb1
    clear hb1
    go_wp2_with fail
    go_ret
    exact ⟨ret_int HR.out.symm, HB1.out⟩
set_option maxRecDepth 20000 in
set_option maxHeartbeats 2000000 in
theorem walkDepth (a : Option Addr) (cap : Nat) (f : List Nd) (w : World) (hI : InN w a cap f) (hkw : Kw w) (hg : 0 < w.heap.size) :
    Calls Tryd.prog 6 #[.slice a f.length cap] w fun e w' => e = .returned (.bool true) ∧ Below w.heap.size w w' := by
  have HI := hid hI
  have HK := hid hkw
  clear hI hkw
  go_enter Tryd.func6, Tryd.ntmps6
  go_wp2_with fail
  refine (szNodeS_any f a cap (fun i hi => (HI.out.ok i hi).nm) HI.out.len _ HI.out.arg).mono ?_
  rintro e w1 ⟨r, rfl, hr, hb1⟩
  have HB1 := hid hb1
  have hz1 := hb1.size
  by_cases hr0 : r < 0
  · clear hb1 hr
    go_wp2_with fail
    go_ret
    exact ⟨rfl, HB1.out⟩
  obtain ⟨hl, _⟩ := hr (by omega)
  have HA1 := hid (HI.out.arg.below hb1 (Nat.le_refl _))
  clear hb1 hr
  go_wp2_with fail
  refine (toNodeS_any f a cap hl _ HA1.out).mono ?_
  rintro e w2 ⟨b2, rfl, hb2, hn2, hf2, hbl2⟩
  have HB2 := hid (HB1.out.trans (hbl2.mono hz1))
  have hz2 := hbl2.size
  have HN2 := hid hn2
  have HA2 := hid (HA1.out.below hbl2 (Nat.le_refl _))
  clear hn2 hf2 hbl2
  go_wp2_with fail
  refine (specDepth_any f b2 f.length _ HN2.out HI.out.ok HI.out.len).mono ?_
  rintro e w3 ⟨rfl, hbl3⟩
  have HB3 := hid (HB2.out.trans (hbl3.mono (by omega)))
  have hz3 := hbl3.size
  have HA3 := hid (HA2.out.below hbl3 (Nat.le_refl _))
  clear hbl3
  go_wp2_with fail
  refine (toNodeS_any f a cap hl _ HA3.out).mono ?_
  rintro e w4 ⟨b4, rfl, hb4, hn4, hf4, hbl4⟩
  have HB4 := hid (HB3.out.trans (hbl4.mono (by omega)))
  have hz4 := hbl4.size
  have HN4 := hid hn4
  have HA4 := hid (HA3.out.below hbl4 (Nat.le_refl _))
  have HK4 := hid (HK.out.below HB4.out hg)
  clear hn4 hf4 hbl4
  go_wp2_with fail
  refine (implDepth_any f b4 f.length _ HN4.out HI.out.ok HI.out.len HK4.out (by omega)).mono ?_
  rintro e w5 ⟨rfl, hbl5⟩
  have HB5 := hid (HB4.out.trans (hbl5.mono (by omega)))
  have hz5 := hbl5.size
  have HN5 := hid (HN4.out.below hbl5 HN4.out.1)
  have HA5 := hid (HA4.out.below hbl5 (Nat.le_refl _))
  clear hbl5
  have hx : (depthB f != depthB f) = false := by simp
  go_wp2_with fail
  refine (toNodeS_any f a cap hl _ HA5.out).mono ?_
  rintro e w6 ⟨b6, rfl, hb6, hn6, hf6, hbl6⟩
  have HB6 := hid (HB5.out.trans (hbl6.mono (by omega)))
  have hz6 := hbl6.size
  have HN6 := hid hn6
  have HN5' := hid (HN5.out.below hbl6 HN5.out.1)
  clear hn6 hf6 hbl6
  go_wp2_with fail
  refine (eqNodeS_same f b4 b6 f.length f.length hl _ HN5'.out HN6.out).mono ?_
  rintro e w7 ⟨rfl, hbl7⟩
  have HB7 := hid (HB6.out.trans (hbl7.mono (by omega)))
  clear hbl7
  go_wp2_with fail
  go_ret
  exact ⟨rfl, HB7.out⟩
end Go.Proofs.YtjojlpnnappplaaDoor
