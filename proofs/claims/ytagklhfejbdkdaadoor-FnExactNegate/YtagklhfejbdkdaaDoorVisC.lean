/-
  The program's visit, kind by kind.
-/
import Derived.Test.YtagklhfejbdkdaaDoorVisit
namespace Go.Proofs.YtagklhfejbdkdaaDoor
open Go.RowKit
set_option linter.unusedVariables false
set_option linter.unusedSimpArgs false
set_option maxRecDepth 20000 in
set_option maxHeartbeats 4000000 in
theorem visit7 (f : List Nd) (wb sn b cap base n : Nat) (hV : VisitC f wb sn b cap base n) (hfl : f.length ≤ 24) (i : Nat) (l : List Nat) (S : Nat → Bool) (v : Value) (w : World) (hin : i < n + 1) (hif : i < f.length) (hd : downTo f (i + 1)) (hW : WalkAt w wb sn b cap base f v l S) (hA : Ag S l i) (hm : i ∉ l) (hk : (ndAt f i).k = 7) :
    Calls Tryd.prog 77 #[.pointer (some ⟨wb, 0, none⟩), .int .i64 i] w fun e w' => e = .returned (.tuple #[]) ∧ ∃ v' S', WalkAt w' wb sn b cap base f v' (walkF f (n + 1) i l) S' ∧ Ag S' (walkF f (n + 1) i l) i ∧ (∀ j, i < j → S' j = S j) ∧ Save w w' (WalkS wb sn v) ∧ (∀ k, v'.ownBlock = some k → v.ownBlock = some k ∨ w.heap.size ≤ k) := by
  have ha : armsN (ndAt f i).k = 1 := by rw [hk]; decide
  have hx := hd i (by omega)
  have hP := hW.ok
  obtain ⟨na, hna⟩ := Int.eq_ofNat_of_zero_le (hx.1 (by omega)).1
  have hlta := (hx.1 (by omega)).2
  rw [hna] at hlta
  have HWF : Hid (walkF f (n + 1) i l = walkF f n na l ++ [i]) := by
    have := walkF_1 f n i l hm ha
    rw [hna, Int.toNat_natCast] at this
    exact this
  have HPF : Hid (PlacesOk f (walkF f n na l ++ [i])) := by
    have := PlacesOk.walk hP (n := n + 1) (i := i) hd (by omega) hif
    rw [HWF.out] at this; exact this
  have hpl := HPF.out.len
  simp at hpl
  clear hx ha hP
  have c1 := hW.c1
  have cs := hW.seen i hif
  have cf := hW.sfree i hif
  rw [hA i (Nat.le_refl _), decide_eq_false hm] at cs
  have HW1 := hid (hW.mark i hif)
  have d0 := HW1.out.c0
  obtain ⟨n0, n1, n2, n3, n4, n5⟩ := HW1.out.nodes.2 i hif
  rw [hk] at n0
  rw [hna] at n1
  skip
  have hpm := pmeth7 na (ndAt f i).b (ndAt f i).lo (ndAt f i).hi (ndAt f i).nm
  have HM := hid (fun w1 w2 => @Mid.begin w w1 w2 wb sn b cap base f v l S i hW hA hif)
  have hlb := hW.lth
  have hlw := hW.ltw
  have hls := hW.lts
  have HOB : Hid (∀ k, v.ownBlock = some k → k < w.heap.size) := fun k hk => (World.ownsRow.lt hW.own k hk).2
  have HV := hid hV
  have HD := hid hd
  clear hk hA hm hV hW hd hna
  go_enter Tryd.func77, Tryd.ntmps77
  go_wp2_with (first | (go_at_call 72; refine (form7 _ _ _ _ _ _).mono ?_; rintro e w1 ⟨rfl, hb1⟩; have HB1 := hid hb1; have hz1 : w.heap.size ≤ w1.heap.size := (by have := hb1.size; simp at this; omega); clear hb1) | (go_at_call 96; refine (parts1 _ _).mono ?_; rintro e w2 ⟨g, rfl, hg1, hg2, hg3, hb2⟩; have HB2 := hid hb2; have hz2 := hb2.size; clear hb2))
  have HMid := hid (HM.out w1 w2 HB1.out HB2.out)
  clear n0 n1 n2 n3 n4 n5 hpm cs cf c1 d0 HM HW1 HB1 HB2
  go_loopw [29] (fun t wr => (t = .int .i64 0 ∧ wr = w2) ∨ (t = .int .i64 1 ∧ Mid w wr wb sn b cap base f v S i (walkF f n na l))) (fun t _ => 1 - (intOf t).toNat)
  case atStart => exact Or.inl ⟨rfl, rfl⟩
  case round =>
    rcases hrel with ⟨rfl, rfl⟩ | ⟨rfl, hM⟩
    · obtain ⟨m1, m2, m3, m4, m5, m6⟩ := HMid.out
      have HC := hid (HV.out na l _ v _ (by omega) (by omega) (fun j hj => HD.out j (by omega)) m1 (m2.at (by omega)))
      have HX := hid (fun wr' v'' S'' => @Mid.step w _ wr' wb sn b cap base n na f v v v'' l S _ S'' i (by omega) (by omega) (fun j hj => HD.out j (by omega)) m2 m3 m4 m5 m6)
      clear m1 m2 m3 m4 m5 m6
      go_wp2_with (go_at_call 77; refine HC.out.mono ?_; rintro e w3 ⟨rfl, v3, S3, q1, q2, q3, q4, q5⟩; have HQ := hid (HX.out _ _ _ q1 q2 q3 q4 q5); clear q1 q2 q3 q4 q5)
      go_roundw
      case rel => exact Or.inr ⟨rfl, HQ.out⟩
      case measure => simp [intOf]
    · skip
      obtain ⟨v1, S1, m1, m2, m3, m4, m5, m6⟩ := hM
      obtain ⟨q2, hq2, qf2⟩ : ∃ u, wr.cell? ⟨wb, 2, none⟩ = some u ∧ u = v1 := ⟨_, m1.c2, rfl⟩
      subst qf2
      have hwz := m5.size
      have hbz := m1.lth
      have HO := hid m1.own
      obtain ⟨va, vc, hvv, _⟩ := m1.own.form
      have HX := hid (fun W w' v'' => @Mid.fin w wr W w' wb sn b cap base f v q2 v'' (walkF f n na l) S S1 i m1 m2 m3 m4 m5 m6)
      subst hvv
      clear m1 m2 m3 m4 m5 m6
      obtain ⟨i0, hi, hz0, hz3, hz4⟩ := info_parts Tryd.infoI
      go_wp2_with (at_builtin; refine wpList_append_own_at _ rfl _ _ 45 rfl base 2 i0 (.int .i64 0) 1 8 Tryd.uIs hi hz0 hz3 hz4 rfl (by decide) _ _ _ rfl (HO.out.alloc _) ⟨wr.heap.size, 0, none⟩ 1 1 [.int .i64 (i : Int)] rfl rfl (cell_one _ _ _) (by simp [Value.oneCell']) (by unfold maxLen; omega) (by omega) (by simp; omega) ?_; intro v' w4 hown' hgrow hnil hloc; obtain ⟨gb, cp, rfl, _, _⟩ := World.ownsRow.form hown' (by omega); have HR := hid (HX.out _ _ _ ((Save.refl wr _).alloc _) hown' hgrow hloc HPF.out); have hc4 := HR.out.1.1; have hf4 := HR.out.1.2; clear hown' hgrow hnil hloc)
      go_end0
      exact ⟨rfl, by rw [HWF.out]; exact HR.out.2⟩
set_option maxRecDepth 20000 in
set_option maxHeartbeats 4000000 in
theorem visit8 (f : List Nd) (wb sn b cap base n : Nat) (hV : VisitC f wb sn b cap base n) (hfl : f.length ≤ 24) (i : Nat) (l : List Nat) (S : Nat → Bool) (v : Value) (w : World) (hin : i < n + 1) (hif : i < f.length) (hd : downTo f (i + 1)) (hW : WalkAt w wb sn b cap base f v l S) (hA : Ag S l i) (hm : i ∉ l) (hk : (ndAt f i).k = 8) :
    Calls Tryd.prog 77 #[.pointer (some ⟨wb, 0, none⟩), .int .i64 i] w fun e w' => e = .returned (.tuple #[]) ∧ ∃ v' S', WalkAt w' wb sn b cap base f v' (walkF f (n + 1) i l) S' ∧ Ag S' (walkF f (n + 1) i l) i ∧ (∀ j, i < j → S' j = S j) ∧ Save w w' (WalkS wb sn v) ∧ (∀ k, v'.ownBlock = some k → v.ownBlock = some k ∨ w.heap.size ≤ k) := by
  have ha : armsN (ndAt f i).k = 1 := by rw [hk]; decide
  have hx := hd i (by omega)
  have hP := hW.ok
  obtain ⟨na, hna⟩ := Int.eq_ofNat_of_zero_le (hx.1 (by omega)).1
  have hlta := (hx.1 (by omega)).2
  rw [hna] at hlta
  have HWF : Hid (walkF f (n + 1) i l = walkF f n na l ++ [i]) := by
    have := walkF_1 f n i l hm ha
    rw [hna, Int.toNat_natCast] at this
    exact this
  have HPF : Hid (PlacesOk f (walkF f n na l ++ [i])) := by
    have := PlacesOk.walk hP (n := n + 1) (i := i) hd (by omega) hif
    rw [HWF.out] at this; exact this
  have hpl := HPF.out.len
  simp at hpl
  clear hx ha hP
  have c1 := hW.c1
  have cs := hW.seen i hif
  have cf := hW.sfree i hif
  rw [hA i (Nat.le_refl _), decide_eq_false hm] at cs
  have HW1 := hid (hW.mark i hif)
  have d0 := HW1.out.c0
  obtain ⟨n0, n1, n2, n3, n4, n5⟩ := HW1.out.nodes.2 i hif
  rw [hk] at n0
  rw [hna] at n1
  skip
  have hpm := pmeth8 na (ndAt f i).b (ndAt f i).lo (ndAt f i).hi (ndAt f i).nm
  have HM := hid (fun w1 w2 => @Mid.begin w w1 w2 wb sn b cap base f v l S i hW hA hif)
  have hlb := hW.lth
  have hlw := hW.ltw
  have hls := hW.lts
  have HOB : Hid (∀ k, v.ownBlock = some k → k < w.heap.size) := fun k hk => (World.ownsRow.lt hW.own k hk).2
  have HV := hid hV
  have HD := hid hd
  clear hk hA hm hV hW hd hna
  go_enter Tryd.func77, Tryd.ntmps77
  go_wp2_with (first | (go_at_call 72; refine (form8 _ _ _ _ _ _).mono ?_; rintro e w1 ⟨rfl, hb1⟩; have HB1 := hid hb1; have hz1 : w.heap.size ≤ w1.heap.size := (by have := hb1.size; simp at this; omega); clear hb1) | (go_at_call 96; refine (parts1 _ _).mono ?_; rintro e w2 ⟨g, rfl, hg1, hg2, hg3, hb2⟩; have HB2 := hid hb2; have hz2 := hb2.size; clear hb2))
  have HMid := hid (HM.out w1 w2 HB1.out HB2.out)
  clear n0 n1 n2 n3 n4 n5 hpm cs cf c1 d0 HM HW1 HB1 HB2
  go_loopw [29] (fun t wr => (t = .int .i64 0 ∧ wr = w2) ∨ (t = .int .i64 1 ∧ Mid w wr wb sn b cap base f v S i (walkF f n na l))) (fun t _ => 1 - (intOf t).toNat)
  case atStart => exact Or.inl ⟨rfl, rfl⟩
  case round =>
    rcases hrel with ⟨rfl, rfl⟩ | ⟨rfl, hM⟩
    · obtain ⟨m1, m2, m3, m4, m5, m6⟩ := HMid.out
      have HC := hid (HV.out na l _ v _ (by omega) (by omega) (fun j hj => HD.out j (by omega)) m1 (m2.at (by omega)))
      have HX := hid (fun wr' v'' S'' => @Mid.step w _ wr' wb sn b cap base n na f v v v'' l S _ S'' i (by omega) (by omega) (fun j hj => HD.out j (by omega)) m2 m3 m4 m5 m6)
      clear m1 m2 m3 m4 m5 m6
      go_wp2_with (go_at_call 77; refine HC.out.mono ?_; rintro e w3 ⟨rfl, v3, S3, q1, q2, q3, q4, q5⟩; have HQ := hid (HX.out _ _ _ q1 q2 q3 q4 q5); clear q1 q2 q3 q4 q5)
      go_roundw
      case rel => exact Or.inr ⟨rfl, HQ.out⟩
      case measure => simp [intOf]
    · skip
      obtain ⟨v1, S1, m1, m2, m3, m4, m5, m6⟩ := hM
      obtain ⟨q2, hq2, qf2⟩ : ∃ u, wr.cell? ⟨wb, 2, none⟩ = some u ∧ u = v1 := ⟨_, m1.c2, rfl⟩
      subst qf2
      have hwz := m5.size
      have hbz := m1.lth
      have HO := hid m1.own
      obtain ⟨va, vc, hvv, _⟩ := m1.own.form
      have HX := hid (fun W w' v'' => @Mid.fin w wr W w' wb sn b cap base f v q2 v'' (walkF f n na l) S S1 i m1 m2 m3 m4 m5 m6)
      subst hvv
      clear m1 m2 m3 m4 m5 m6
      obtain ⟨i0, hi, hz0, hz3, hz4⟩ := info_parts Tryd.infoI
      go_wp2_with (at_builtin; refine wpList_append_own_at _ rfl _ _ 45 rfl base 2 i0 (.int .i64 0) 1 8 Tryd.uIs hi hz0 hz3 hz4 rfl (by decide) _ _ _ rfl (HO.out.alloc _) ⟨wr.heap.size, 0, none⟩ 1 1 [.int .i64 (i : Int)] rfl rfl (cell_one _ _ _) (by simp [Value.oneCell']) (by unfold maxLen; omega) (by omega) (by simp; omega) ?_; intro v' w4 hown' hgrow hnil hloc; obtain ⟨gb, cp, rfl, _, _⟩ := World.ownsRow.form hown' (by omega); have HR := hid (HX.out _ _ _ ((Save.refl wr _).alloc _) hown' hgrow hloc HPF.out); have hc4 := HR.out.1.1; have hf4 := HR.out.1.2; clear hown' hgrow hnil hloc)
      go_end0
      exact ⟨rfl, by rw [HWF.out]; exact HR.out.2⟩
set_option maxRecDepth 20000 in
set_option maxHeartbeats 4000000 in
theorem visit9 (f : List Nd) (wb sn b cap base n : Nat) (hV : VisitC f wb sn b cap base n) (hfl : f.length ≤ 24) (i : Nat) (l : List Nat) (S : Nat → Bool) (v : Value) (w : World) (hin : i < n + 1) (hif : i < f.length) (hd : downTo f (i + 1)) (hW : WalkAt w wb sn b cap base f v l S) (hA : Ag S l i) (hm : i ∉ l) (hk : (ndAt f i).k = 9) :
    Calls Tryd.prog 77 #[.pointer (some ⟨wb, 0, none⟩), .int .i64 i] w fun e w' => e = .returned (.tuple #[]) ∧ ∃ v' S', WalkAt w' wb sn b cap base f v' (walkF f (n + 1) i l) S' ∧ Ag S' (walkF f (n + 1) i l) i ∧ (∀ j, i < j → S' j = S j) ∧ Save w w' (WalkS wb sn v) ∧ (∀ k, v'.ownBlock = some k → v.ownBlock = some k ∨ w.heap.size ≤ k) := by
  have ha : armsN (ndAt f i).k = 2 := by rw [hk]; decide
  have hx := hd i (by omega)
  have hP := hW.ok
  obtain ⟨na, hna⟩ := Int.eq_ofNat_of_zero_le (hx.1 (by omega)).1
  have hlta := (hx.1 (by omega)).2
  rw [hna] at hlta
  obtain ⟨nb, hnb⟩ := Int.eq_ofNat_of_zero_le (hx.2 (by omega)).1
  have hltb := (hx.2 (by omega)).2
  rw [hnb] at hltb
  have HWF : Hid (walkF f (n + 1) i l = walkF f n nb (walkF f n na l) ++ [i]) := by
    have := walkF_2 f n i l hm ha
    rw [hna, hnb, Int.toNat_natCast, Int.toNat_natCast] at this
    exact this
  have HPF : Hid (PlacesOk f (walkF f n nb (walkF f n na l) ++ [i])) := by
    have := PlacesOk.walk hP (n := n + 1) (i := i) hd (by omega) hif
    rw [HWF.out] at this; exact this
  have hpl := HPF.out.len
  simp at hpl
  clear hx ha hP
  have c1 := hW.c1
  have cs := hW.seen i hif
  have cf := hW.sfree i hif
  rw [hA i (Nat.le_refl _), decide_eq_false hm] at cs
  have HW1 := hid (hW.mark i hif)
  have d0 := HW1.out.c0
  obtain ⟨n0, n1, n2, n3, n4, n5⟩ := HW1.out.nodes.2 i hif
  rw [hk] at n0
  rw [hna] at n1
  rw [hnb] at n2
  have hpm := pmeth9 na nb (ndAt f i).lo (ndAt f i).hi (ndAt f i).nm
  have HM := hid (fun w1 w2 => @Mid.begin w w1 w2 wb sn b cap base f v l S i hW hA hif)
  have hlb := hW.lth
  have hlw := hW.ltw
  have hls := hW.lts
  have HOB : Hid (∀ k, v.ownBlock = some k → k < w.heap.size) := fun k hk => (World.ownsRow.lt hW.own k hk).2
  have HV := hid hV
  have HD := hid hd
  clear hk hA hm hV hW hd hna hnb
  go_enter Tryd.func77, Tryd.ntmps77
  go_wp2_with (first | (go_at_call 72; refine (form9 _ _ _ _ _ _).mono ?_; rintro e w1 ⟨rfl, hb1⟩; have HB1 := hid hb1; have hz1 : w.heap.size ≤ w1.heap.size := (by have := hb1.size; simp at this; omega); clear hb1) | (go_at_call 97; refine (parts2 _ _ _).mono ?_; rintro e w2 ⟨g, rfl, hg1, hg2, hg3, hg4, hb2⟩; have HB2 := hid hb2; have hz2 := hb2.size; clear hb2))
  have HMid := hid (HM.out w1 w2 HB1.out HB2.out)
  clear n0 n1 n2 n3 n4 n5 hpm cs cf c1 d0 HM HW1 HB1 HB2
  go_loopw [29] (fun t wr => (t = .int .i64 0 ∧ wr = w2) ∨ (t = .int .i64 1 ∧ Mid w wr wb sn b cap base f v S i (walkF f n na l) ∧ wr.cell? ⟨g, 1, none⟩ = some (.int .i64 nb)) ∨ (t = .int .i64 2 ∧ Mid w wr wb sn b cap base f v S i (walkF f n nb (walkF f n na l)))) (fun t _ => 2 - (intOf t).toNat)
  case atStart => exact Or.inl ⟨rfl, rfl⟩
  case round =>
    rcases hrel with ⟨rfl, rfl⟩ | ⟨rfl, hM, hgc⟩ | ⟨rfl, hM⟩
    · skip
      obtain ⟨m1, m2, m3, m4, m5, m6⟩ := HMid.out
      have HC := hid (HV.out na l _ v _ (by omega) (by omega) (fun j hj => HD.out j (by omega)) m1 (m2.at (by omega)))
      have HX := hid (fun wr' v'' S'' => @Mid.step w _ wr' wb sn b cap base n na f v v v'' l S _ S'' i (by omega) (by omega) (fun j hj => HD.out j (by omega)) m2 m3 m4 m5 m6)
      clear m1 m2 m3 m4 m5 m6
      go_wp2_with (go_at_call 77; refine HC.out.mono ?_; rintro e w3 ⟨rfl, v3, S3, q1, q2, q3, q4, q5⟩; have HQ := hid (HX.out _ _ _ q1 q2 q3 q4 q5); have HCell := hid (q4.cell (p := ⟨g, 1, none⟩)); clear q1 q2 q3 q4 q5)
      go_roundw
      case rel => exact Or.inr (Or.inl ⟨rfl, HQ.out, (HCell.out hg2 (by
        rintro (e | e | e)
        · omega
        · omega
        · have := HOB.out g e; omega)).trans hg4⟩)
      case measure => simp [intOf]
    · clear HMid hg4
      obtain ⟨v1, S1, m1, m2, m3, m4, m5, m6⟩ := hM
      have HC := hid (HV.out nb (walkF f n na l) S1 v1 _ (by omega) (by omega) (fun j hj => HD.out j (by omega)) m1 (m2.at (by omega)))
      have HX := hid (fun wr' v'' S'' => @Mid.step w _ wr' wb sn b cap base n nb f v v1 v'' (walkF f n na l) S S1 S'' i (by omega) (by omega) (fun j hj => HD.out j (by omega)) m2 m3 m4 m5 m6)
      clear m1 m2 m3 m4 m5 m6
      go_wp2_with (go_at_call 77; refine HC.out.mono ?_; rintro e w3 ⟨rfl, v3, S3, q1, q2, q3, q4, q5⟩; have HQ := hid (HX.out _ _ _ q1 q2 q3 q4 q5); clear q1 q2 q3 q4 q5)
      go_roundw
      case rel => exact Or.inr (Or.inr ⟨rfl, HQ.out⟩)
      case measure => simp [intOf]
    · skip
      obtain ⟨v1, S1, m1, m2, m3, m4, m5, m6⟩ := hM
      obtain ⟨q2, hq2, qf2⟩ : ∃ u, wr.cell? ⟨wb, 2, none⟩ = some u ∧ u = v1 := ⟨_, m1.c2, rfl⟩
      subst qf2
      have hwz := m5.size
      have hbz := m1.lth
      have HO := hid m1.own
      obtain ⟨va, vc, hvv, _⟩ := m1.own.form
      have HX := hid (fun W w' v'' => @Mid.fin w wr W w' wb sn b cap base f v q2 v'' (walkF f n nb (walkF f n na l)) S S1 i m1 m2 m3 m4 m5 m6)
      subst hvv
      clear m1 m2 m3 m4 m5 m6
      obtain ⟨i0, hi, hz0, hz3, hz4⟩ := info_parts Tryd.infoI
      go_wp2_with (at_builtin; refine wpList_append_own_at _ rfl _ _ 45 rfl base 2 i0 (.int .i64 0) 1 8 Tryd.uIs hi hz0 hz3 hz4 rfl (by decide) _ _ _ rfl (HO.out.alloc _) ⟨wr.heap.size, 0, none⟩ 1 1 [.int .i64 (i : Int)] rfl rfl (cell_one _ _ _) (by simp [Value.oneCell']) (by unfold maxLen; omega) (by omega) (by simp; omega) ?_; intro v' w4 hown' hgrow hnil hloc; obtain ⟨gb, cp, rfl, _, _⟩ := World.ownsRow.form hown' (by omega); have HR := hid (HX.out _ _ _ ((Save.refl wr _).alloc _) hown' hgrow hloc HPF.out); have hc4 := HR.out.1.1; have hf4 := HR.out.1.2; clear hown' hgrow hnil hloc)
      go_end0
      exact ⟨rfl, by rw [HWF.out]; exact HR.out.2⟩
end Go.Proofs.YtagklhfejbdkdaaDoor
