/-
  DepthOf: plain facts; the model's by its contract.
-/
import Derived.Test.YtjojlpnnappplaaDoorBoundLaw
namespace Go.Proofs.YtjojlpnnappplaaDoor
open Go.RowKit
set_option linter.unusedVariables false
set_option linter.unusedSimpArgs false
/-- The greatest depth of what a node speaks of. -/
def underD (f : List Nd) (d : Nat → Int) (k : Nat) : Int :=
  if armsN (ndAt f k).k = 0 then 0 else if armsN (ndAt f k).k = 1 then d (ndAt f k).a.toNat else if d (ndAt f k).a.toNat < d (ndAt f k).b.toNat then d (ndAt f k).b.toNat else d (ndAt f k).a.toNat
/-- The depths of the first k nodes. -/
def dTo (f : List Nd) : Nat → Nat → Int
  | 0, _ => 0
  | k + 1, j => if j = k then underD f (dTo f k) k + 1 else dTo f k j
def depthB (f : List Nd) : Int := if rightB f = true then dTo f f.length (f.length - 1) else 0
theorem dTo_bd (f : List Nd) : ∀ k j, 0 ≤ dTo f k j ∧ dTo f k j ≤ k := by
  intro k
  induction k with
  | zero => intro j; exact ⟨Int.le_refl _, Int.le_refl _⟩
  | succ k ih =>
    intro j
    unfold dTo
    split
    · unfold underD
      have h1 := ih (ndAt f k).a.toNat
      have h2 := ih (ndAt f k).b.toNat
      repeat' split
      all_goals omega
    · have := ih j; omega
theorem dTo_above (f : List Nd) : ∀ k j, k ≤ j → dTo f k j = 0 := by
  intro k
  induction k with
  | zero => intro j _; rfl
  | succ k ih =>
    intro j hj
    unfold dTo
    rw [if_neg (by omega)]
    exact ih j (by omega)
theorem dTo_step (f : List Nd) (k : Nat) (m : Int) (hm : underD f (dTo f k) k = m) : ∀ j, dTo f (k + 1) j = if j = k then m + 1 else dTo f k j := by
  intro j
  show (if j = k then underD f (dTo f k) k + 1 else dTo f k j) = _
  rw [hm]
theorem underD_0 (f : List Nd) (d : Nat → Int) (k : Nat) (h : armsN (ndAt f k).k = 0) : underD f d k = 0 := by simp [underD, h]
theorem underD_1 (f : List Nd) (d : Nat → Int) (k na : Nat) (h : armsN (ndAt f k).k = 1) (ha : (ndAt f k).a = na) : underD f d k = d na := by simp [underD, h, ha]
theorem underD_2 (f : List Nd) (d : Nat → Int) (k na nb : Nat) (h : armsN (ndAt f k).k = 2) (ha : (ndAt f k).a = na) (hb : (ndAt f k).b = nb) : underD f d k = if d na < d nb then d nb else d na := by simp [underD, h, ha, hb]
def RowD (w : World) (db n : Nat) (d : Nat → Int) : Prop := w.rowIs db 2 n (fun j => .int .i64 (d j))
theorem RowD.set {w : World} {db n : Nat} {d : Nat → Int} (h : RowD w db n d) (k : Nat) (m : Int) : RowD (w.setCell ⟨db, k, none⟩ (.int .i64 m)) db n (fun j => if j = k then m else d j) :=
  (World.rowIs.set h k (.int .i64 m)).congr (fun j hj => by by_cases e : j = k <;> simp [e])
theorem RowD.drewN {w : World} {db n : Nat} {d : Nat → Int} (h : RowD w db n d) (m : Nat) : RowD (w.drewN m) db n d := h
theorem RowD.congr {w : World} {db n : Nat} {d d' : Nat → Int} (h : RowD w db n d) (e : ∀ j, d j = d' j) : RowD w db n d' := World.rowIs.congr h (fun j _ => by simp only [e j])
set_option maxRecDepth 20000 in
set_option maxHeartbeats 2000000 in
theorem specDepth_any (f : List Nd) (b cap : Nat) (w : World) (hN : NodesAt w b f) (hok : ∀ i, i < f.length → ndOk (ndAt f i)) (hlen : f.length ≤ maxLen) :
    Calls Tryd.prog 19 #[.slice (some ⟨b, 0, none⟩) f.length cap] w fun e w' => e = .returned (.int .i64 (depthB f)) ∧ Below w.heap.size w w' := by
  have HN := hid hN
  have HC := hid (specRight_any f b cap w hN (fun i hi => (hok i hi).nm) hlen)
  have hb := hN.1
  clear hN
  rcases Bool.eq_false_or_eq_true (rightB f) with hr | hr
  · obtain ⟨hl1, hl2, hgd⟩ := rightB_good' f hr
    have HR : Hid (depthB f = dTo f f.length (f.length - 1)) := by show depthB f = _; simp [depthB, hr]
    have HD : Hid (downTo f f.length) := goodTo_down f _ hgd
    clear hgd
    have hmk := run_make_row' (P := Tryd.prog) 46 2 (.int .i64 0) 8 Tryd.underlying46 Tryd.infoI rfl .i64 .i64 f.length (by omega) (by omega)
    go_enter Tryd.func19, Tryd.ntmps19
    go_wp2_with fail
    refine HC.out.mono ?_
    rintro e w1 ⟨rfl, hb1⟩
    have HB1 := hid hb1
    have hz1 := hb1.size
    have HN1 := hid (HN.out.below hb1 hb)
    have hb1' := HN1.out.1
    clear hb1
    go_wp2_with fail
    go_loopw [4] (fun t wr => ∃ k : Nat, k ≤ f.length ∧ t = .int .i64 k ∧ RowD wr w1.heap.size f.length (dTo f k) ∧ Below w1.heap.size w1 wr) (fun t _ => f.length - (intOf t).toNat)
    case atStart => exact ⟨0, Nat.zero_le _, rfl, World.rowIs_made _ _ _ _, (Below.refl _ _).alloc (Nat.le_refl _) _⟩
    case round =>
      clear hmk
      obtain ⟨k, hk, rfl, hrow, hbel⟩ := hrel
      have HBr := hid hbel
      have HRow := hid hrow
      have hsz := hbel.size
      clear hbel hrow
      by_cases hlt : k < f.length
      · obtain ⟨c0, c1, c2, c3, c4, c5⟩ := (HN1.out.2 k hlt).below HBr.out HN1.out.1
        clear c3 c4 c5
        have hx := HD.out k hlt
        have ek := HRow.out.cell (i := k) hlt
        rw [dTo_above f k k (Nat.le_refl _)] at ek
        have fk := HRow.out.frozen k
        have hnb : ¬ b = w1.heap.size := by omega
        rcases armsN_012 (ndAt f k).k with ha | ha | ha
        · have HS := hid (dTo_step f k 0 (underD_0 f _ k ha))
          clear c1 c2
          go_wp2_with (go_at_call 48; refine (arms_w _ _).mono ?_; rintro e w' ⟨rfl, rfl⟩)
          go_quiet (fail)
          go_wp2_with fail
          go_roundw
          case rel => exact ⟨k + 1, by omega, by go_num, ((HRow.out.drewN _).set k 1).congr (fun j => by rw [HS.out j]; by_cases e : j = k <;> simp [e]), (below_drewN HBr.out _).setCell (Nat.le_refl _) _⟩
          case measure => simp [intOf]; omega
        · obtain ⟨na, hna⟩ := Int.eq_ofNat_of_zero_le (hx.1 (by omega)).1
          have hlta := (hx.1 (by omega)).2
          rw [hna] at hlta c1
          have HS := hid (dTo_step f k _ (underD_1 f _ k na ha hna))
          have ea := HRow.out.cell (i := na) (by omega)
          have hbd := dTo_bd f k na
          have hnk : ¬ na = k := by omega
          have hkn : ¬ k = na := by omega
          clear c2 hx hna
          generalize dTo f k na = D at *
          go_wp2_with (go_at_call 48; refine (arms_w _ _).mono ?_; rintro e w' ⟨rfl, rfl⟩)
          go_quiet (fail)
          go_wp2_with fail
          go_roundw
          case rel => exact ⟨k + 1, by omega, by go_num, (((HRow.out.set k D).drewN _).set k (D + 1)).congr (fun j => by rw [HS.out j]; by_cases e : j = k <;> simp [e]), (below_drewN (HBr.out.setCell (Nat.le_refl _) _) _).setCell (Nat.le_refl _) _⟩
          case measure => simp [intOf]; omega
        · obtain ⟨na, hna⟩ := Int.eq_ofNat_of_zero_le (hx.1 (by omega)).1
          have hlta := (hx.1 (by omega)).2
          rw [hna] at hlta c1
          obtain ⟨nb, hnb'⟩ := Int.eq_ofNat_of_zero_le (hx.2 (by omega)).1
          have hltb := (hx.2 (by omega)).2
          rw [hnb'] at hltb c2
          have HS := hid (dTo_step f k _ (underD_2 f _ k na nb ha hna hnb'))
          have ea := HRow.out.cell (i := na) (by omega)
          have eb := HRow.out.cell (i := nb) (by omega)
          have hbd := dTo_bd f k na
          have hbd2 := dTo_bd f k nb
          have hnk : ¬ na = k := by omega
          have hkn : ¬ k = na := by omega
          have hnk2 : ¬ nb = k := by omega
          have hkn2 : ¬ k = nb := by omega
          clear hx hna hnb'
          generalize dTo f k na = D at *
          generalize dTo f k nb = E at *
          rcases Bool.eq_false_or_eq_true (decide (D < E)) with hde | hde
          · have HS2 : Hid (∀ j, dTo f (k + 1) j = if j = k then E + 1 else dTo f k j) := fun j => by rw [HS.out j, show (if D < E then E else D) = E from if_pos (by simpa using hde)]
            go_wp2_with (go_at_call 48; refine (arms_w _ _).mono ?_; rintro e w' ⟨rfl, rfl⟩)
            go_quiet (fail)
            go_wp2_with fail
            go_roundw
            case rel => exact ⟨k + 1, by omega, by go_num, ((((HRow.out.set k D).drewN _).set k E).set k (E + 1)).congr (fun j => by rw [HS2.out j]; by_cases e : j = k <;> simp [e]), ((below_drewN (HBr.out.setCell (Nat.le_refl _) _) _).setCell (Nat.le_refl _) _).setCell (Nat.le_refl _) _⟩
            case measure => simp [intOf]; omega
          · have HS2 : Hid (∀ j, dTo f (k + 1) j = if j = k then D + 1 else dTo f k j) := fun j => by rw [HS.out j, show (if D < E then E else D) = D from if_neg (by simpa using hde)]
            go_wp2_with (go_at_call 48; refine (arms_w _ _).mono ?_; rintro e w' ⟨rfl, rfl⟩)
            go_quiet (fail)
            go_wp2_with fail
            go_roundw
            case rel => exact ⟨k + 1, by omega, by go_num, (((HRow.out.set k D).drewN _).set k (D + 1)).congr (fun j => by rw [HS2.out j]; by_cases e : j = k <;> simp [e]), (below_drewN (HBr.out.setCell (Nat.le_refl _) _) _).setCell (Nat.le_refl _) _⟩
            case measure => simp [intOf]; omega
      · have hk' : k = f.length := by omega
        subst hk'
        have el := HRow.out.cell (i := f.length - 1) (by omega)
        have hcast : ((f.length : Nat) : Int) - 1 = ((f.length - 1 : Nat) : Int) := by omega
        have hll : f.length - 1 < f.length := by omega
        go_wp2_with fail
        go_ret
        exact ⟨ret_int HR.out.symm, HB1.out.trans (HBr.out.mono hz1)⟩
  · have HR : Hid (depthB f = 0) := by show depthB f = _; simp [depthB, hr]
    go_enter Tryd.func19, Tryd.ntmps19
    go_wp2_with fail
    refine HC.out.mono ?_
    rintro e w1 ⟨rfl, hb1⟩
    have HB1 := hid hb1
    clear hb1
    go_wp2_with fail
    go_ret
    exact ⟨ret_int HR.out.symm, HB1.out⟩
end Go.Proofs.YtjojlpnnappplaaDoor
