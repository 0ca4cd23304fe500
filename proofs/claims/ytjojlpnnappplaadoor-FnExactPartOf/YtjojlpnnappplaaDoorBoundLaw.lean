/-
  BoundOf: the model's and the program's by one contract; the walk of the law.
-/
import Derived.Test.YtjojlpnnappplaaDoorRightLaw
namespace Go.Proofs.YtjojlpnnappplaaDoor
open Go.RowKit
set_option linter.unusedVariables false
set_option linter.unusedSimpArgs false
def nodeBound (x : Nd) : Int := if timedB x.k = true then (if x.hi < 0 then x.lo else x.hi) else 0
def boundTo (f : List Nd) : Nat → Int
  | 0 => 0
  | k + 1 => if boundTo f k < nodeBound (ndAt f k) then nodeBound (ndAt f k) else boundTo f k
def boundB (f : List Nd) : Int := if rightB f = true then boundTo f f.length else -1
theorem rightB_good' (f : List Nd) (h : rightB f = true) : 1 ≤ f.length ∧ f.length ≤ 24 ∧ goodTo f f.length = true := by
  simp only [rightB, Bool.and_eq_true, decide_eq_true_eq] at h
  exact ⟨h.1.1, h.1.2, h.2.1⟩
/-- The bounds of a right node. -/
theorem nodeB_span (x : Nd) (i : Nat) (h : nodeB x i = true) : (timedB x.k = true ∧ 0 ≤ x.lo ∧ x.lo ≤ 1000 ∧ (x.hi = -1 ∨ x.lo ≤ x.hi ∧ x.hi ≤ 1000)) ∨ (timedB x.k = false ∧ x.lo = 0 ∧ x.hi = 0) := by
  simp only [nodeB, Bool.and_eq_true] at h
  obtain ⟨_, _, _, _, h5⟩ := h
  rcases Bool.eq_false_or_eq_true (timedB x.k) with ht | ht
  · rw [ht] at h5
    simp [spanB, isB] at h5
    exact Or.inl ⟨ht, h5.1.1, h5.1.2, h5.2⟩
  · rw [ht] at h5
    simp at h5
    exact Or.inr ⟨ht, h5.1, h5.2⟩
theorem boundTo_pos (f : List Nd) : ∀ k, 0 ≤ boundTo f k := by
  intro k
  induction k with
  | zero => exact Int.le_refl _
  | succ k ih => unfold boundTo; split <;> omega
theorem boundTo_le (f : List Nd) (n : Nat) (h : goodTo f n = true) : ∀ k, k ≤ n → boundTo f k ≤ 1000 := by
  intro k
  induction k with
  | zero => intro _; show (0 : Int) ≤ 1000; omega
  | succ k ih =>
    intro hk
    have h1 := ih (by omega)
    have h2 := nodeB_span _ k (goodTo_at f k n (by omega) h).1
    unfold boundTo
    split
    · unfold nodeBound
      rcases h2 with ⟨ht, a, b, c⟩ | ⟨ht, a, b⟩
      · rw [if_pos ht]; split <;> omega
      · rw [if_neg (by simp [ht])]; omega
    · exact h1
theorem max3 {x : Nd} {B : Int} (h : (timedB x.k = true ∧ 0 ≤ x.lo ∧ x.lo ≤ 1000 ∧ (x.hi = -1 ∨ x.lo ≤ x.hi ∧ x.hi ≤ 1000)) ∨ (timedB x.k = false ∧ x.lo = 0 ∧ x.hi = 0)) (hB : 0 ≤ B) :
    (if (if B < x.lo then x.lo else B) < x.hi then x.hi else if B < x.lo then x.lo else B) = if B < nodeBound x then nodeBound x else B := by
  unfold nodeBound
  rcases h with ⟨ht, a, b, c⟩ | ⟨ht, a, b⟩
  · simp only [ht, if_true]
    repeat' split
    all_goals omega
  · simp only [ht, Bool.false_eq_true, if_false]
    repeat' split
    all_goals omega
set_option maxRecDepth 20000 in
set_option maxHeartbeats 2000000 in
theorem specBound_any (f : List Nd) (b cap : Nat) (w : World) (hN : NodesAt w b f) (hok : ∀ i, i < f.length → ndOk (ndAt f i)) (hlen : f.length ≤ maxLen) :
    Calls Tryd.prog 27 #[.slice (some ⟨b, 0, none⟩) f.length cap] w fun e w' => e = .returned (.int .i64 (boundB f)) ∧ Below w.heap.size w w' := by
  have HN := hid hN
  have HC := hid (specRight_any f b cap w hN (fun i hi => (hok i hi).nm) hlen)
  have hb := hN.1
  clear hN
  rcases Bool.eq_false_or_eq_true (rightB f) with hr | hr
  · obtain ⟨hl1, hl2, hgd⟩ := rightB_good' f hr
    have HR : Hid (boundB f = boundTo f f.length) := by show boundB f = _; simp [boundB, hr]
    have HG := hid hgd
    clear hgd
    go_enter Tryd.func27, Tryd.ntmps27
    go_wp2_with fail
    refine HC.out.mono ?_
    rintro e w1 ⟨rfl, hb1⟩
    have HB1 := hid hb1
    have HN1 := hid (HN.out.below hb1 hb)
    clear hb1
    go_wp2_with fail
    go_loop [3, 4] (fun m t => ∃ k : Nat, k ≤ f.length ∧ t = .int .i64 k ∧ m = .int .i64 (boundTo f k)) (fun _ t => f.length - (intOf t).toNat)
    case atStart => exact ⟨0, Nat.zero_le _, rfl, rfl⟩
    case round =>
      obtain ⟨k, hk, rfl, rfl⟩ := hrel
      by_cases hlt : k < f.length
      · obtain ⟨c0, c1, c2, c3, c4, c5⟩ := HN1.out.2 k hlt
        have HS : Hid (boundTo f (k + 1) = if boundTo f k < nodeBound (ndAt f k) then nodeBound (ndAt f k) else boundTo f k) := rfl
        rcases Bool.eq_false_or_eq_true (timedB (ndAt f k).k) with ht | ht <;> by_cases hh : (ndAt f k).hi < 0
        · have HV : Hid (nodeBound (ndAt f k) = (ndAt f k).lo) := by show nodeBound _ = _; simp [nodeBound, ht, hh]
          generalize boundTo f k = B at *
          by_cases hB : B < (ndAt f k).lo
          all_goals
            go_wp2_with (go_at_call 53; refine (timed_any _ _).mono ?_; rintro e w' ⟨rfl, rfl⟩)
            go_round
            case rel => exact ⟨k + 1, by omega, by go_num, by first | (rw [HS.out, HV.out, if_pos (by omega)]) | (rw [HS.out, HV.out, if_neg (by omega)])⟩
            case measure => simp [intOf]; omega
        · have HV : Hid (nodeBound (ndAt f k) = (ndAt f k).hi) := by show nodeBound _ = _; simp [nodeBound, ht, hh]
          generalize boundTo f k = B at *
          by_cases hB : B < (ndAt f k).hi
          all_goals
            go_wp2_with (go_at_call 53; refine (timed_any _ _).mono ?_; rintro e w' ⟨rfl, rfl⟩)
            go_round
            case rel => exact ⟨k + 1, by omega, by go_num, by first | (rw [HS.out, HV.out, if_pos (by omega)]) | (rw [HS.out, HV.out, if_neg (by omega)])⟩
            case measure => simp [intOf]; omega
        all_goals
          have HV : Hid (nodeBound (ndAt f k) = 0) := by show nodeBound _ = _; simp [nodeBound, ht]
          have HP := hid (boundTo_pos f k)
          generalize boundTo f k = B at *
          go_wp2_with (go_at_call 53; refine (timed_any _ _).mono ?_; rintro e w' ⟨rfl, rfl⟩)
          go_round
          case rel => exact ⟨k + 1, by omega, by go_num, by rw [HS.out, HV.out, if_neg (by have := HP.out; omega)]⟩
          case measure => simp [intOf]; omega
      · have hk' : k = f.length := by omega
        subst hk'
        go_wp2_with fail
        go_ret
        exact ⟨ret_int HR.out.symm, HB1.out⟩
  · have HR : Hid (boundB f = -1) := by show boundB f = _; simp [boundB, hr]
    go_enter Tryd.func27, Tryd.ntmps27
    go_wp2_with fail
    refine HC.out.mono ?_
    rintro e w1 ⟨rfl, hb1⟩
    have HB1 := hid hb1
    clear hb1
    go_wp2_with fail
    go_ret
    exact ⟨ret_int HR.out.symm, HB1.out⟩
set_option maxRecDepth 20000 in
set_option maxHeartbeats 2000000 in
theorem implBound_any (f : List Nd) (b cap : Nat) (w : World) (hN : NodesAt w b f) (hok : ∀ i, i < f.length → ndOk (ndAt f i)) (hlen : f.length ≤ maxLen) (hkw : Kw w) (hg : 0 < w.heap.size) :
    Calls Tryd.prog 28 #[.slice (some ⟨b, 0, none⟩) f.length cap] w fun e w' => e = .returned (.int .i64 (boundB f)) ∧ Below w.heap.size w w' := by
  have HN := hid hN
  have HC := hid (implRight_any f b cap w hN hok hlen hkw hg)
  have hb := hN.1
  clear hN hkw
  rcases Bool.eq_false_or_eq_true (rightB f) with hr | hr
  · obtain ⟨hl1, hl2, hgd⟩ := rightB_good' f hr
    have HR : Hid (boundB f = boundTo f f.length) := by show boundB f = _; simp [boundB, hr]
    have HG := hid hgd
    clear hgd
    go_enter Tryd.func28, Tryd.ntmps28
    go_wp2_with fail
    refine HC.out.mono ?_
    rintro e w1 ⟨rfl, hb1⟩
    have HB1 := hid hb1
    have hz1 := hb1.size
    have HN1 := hid (HN.out.below hb1 hb)
    clear hb1
    go_wp2_with fail
    go_loopw [3, 11] (fun m t wr => ∃ k : Nat, k ≤ f.length ∧ t = .int .i64 k ∧ m = .int .i64 (boundTo f k) ∧ Below w1.heap.size w1 wr) (fun _ t _ => f.length - (intOf t).toNat)
    case atStart => exact ⟨0, Nat.zero_le _, rfl, rfl, Below.refl _ _⟩
    case round =>
      obtain ⟨k, hk, rfl, rfl, hbel⟩ := hrel
      have HBr := hid hbel
      have hsz := hbel.size
      clear hbel
      by_cases hlt : k < f.length
      · obtain ⟨c0, c1, c2, c3, c4, c5⟩ := (HN1.out.2 k hlt).below HBr.out HN1.out.1
        have HSP := hid (nodeB_span _ k (goodTo_at f k _ hlt HG.out).1)
        have HS : Hid (boundTo f (k + 1) = if boundTo f k < nodeBound (ndAt f k) then nodeBound (ndAt f k) else boundTo f k) := rfl
        have HP := hid (boundTo_pos f k)
        generalize hB : boundTo f k = B at *
        go_wp2_with fail
        go_roundw
        case rel => exact ⟨k + 1, by omega, by go_num, by rw [HS.out, max3 HSP.out HP.out], HBr.out.alloc hsz _⟩
        case measure => simp [intOf]; omega
      · have hk' : k = f.length := by omega
        subst hk'
        go_wp2_with fail
        go_ret
        exact ⟨ret_int HR.out.symm, HB1.out.trans (HBr.out.mono hz1)⟩
  · have HR : Hid (boundB f = -1) := by show boundB f = _; simp [boundB, hr]
    go_enter Tryd.func28, Tryd.ntmps28
    go_wp2_with fail
    refine HC.out.mono ?_
    rintro e w1 ⟨rfl, hb1⟩
    have HB1 := hid hb1
    clear hb1
    go_wp2_with fail
    go_ret
    exact ⟨ret_int HR.out.symm, HB1.out⟩
set_option maxRecDepth 20000 in
set_option maxHeartbeats 2000000 in
theorem walkBound (a : Option Addr) (cap : Nat) (f : List Nd) (w : World) (hI : InN w a cap f) (hkw : Kw w) (hg : 0 < w.heap.size) :
    Calls Tryd.prog 8 #[.slice a f.length cap] w fun e w' => e = .returned (.bool true) ∧ Below w.heap.size w w' := by
  have HI := hid hI
  have HK := hid hkw
  clear hI hkw
  go_enter Tryd.func8, Tryd.ntmps8
  go_wp2_with fail
  refine (szNodeS_any f a cap (fun i hi => (HI.out.ok i hi).nm) HI.out.len _ HI.out.arg).mono ?_
  rintro e w1 ⟨r, rfl, hr, hb1⟩
  have HB1 := hid hb1
  have hz1 := hb1.size
  by_cases hr0 : r < 0
  · clear hb1 hr
    go_wp2_with fail
    go_ret
    exact ⟨rfl, HB1.out⟩
  obtain ⟨hl, _⟩ := hr (by omega)
  have HA1 := hid (HI.out.arg.below hb1 (Nat.le_refl _))
  clear hb1 hr
  go_wp2_with fail
  refine (toNodeS_any f a cap hl _ HA1.out).mono ?_
  rintro e w2 ⟨b2, rfl, hb2, hn2, hf2, hbl2⟩
  have HB2 := hid (HB1.out.trans (hbl2.mono hz1))
  have hz2 := hbl2.size
  have HN2 := hid hn2
  have HA2 := hid (HA1.out.below hbl2 (Nat.le_refl _))
  clear hn2 hf2 hbl2
  go_wp2_with fail
  refine (specBound_any f b2 f.length _ HN2.out HI.out.ok HI.out.len).mono ?_
  rintro e w3 ⟨rfl, hbl3⟩
  have HB3 := hid (HB2.out.trans (hbl3.mono (by omega)))
  have hz3 := hbl3.size
  have HA3 := hid (HA2.out.below hbl3 (Nat.le_refl _))
  clear hbl3
  go_wp2_with fail
  refine (toNodeS_any f a cap hl _ HA3.out).mono ?_
  rintro e w4 ⟨b4, rfl, hb4, hn4, hf4, hbl4⟩
  have HB4 := hid (HB3.out.trans (hbl4.mono (by omega)))
  have hz4 := hbl4.size
  have HN4 := hid hn4
  have HA4 := hid (HA3.out.below hbl4 (Nat.le_refl _))
  have HK4 := hid (HK.out.below HB4.out hg)
  clear hn4 hf4 hbl4
  go_wp2_with fail
  refine (implBound_any f b4 f.length _ HN4.out HI.out.ok HI.out.len HK4.out (by omega)).mono ?_
  rintro e w5 ⟨rfl, hbl5⟩
  have HB5 := hid (HB4.out.trans (hbl5.mono (by omega)))
  have hz5 := hbl5.size
  have HN5 := hid (HN4.out.below hbl5 HN4.out.1)
  have HA5 := hid (HA4.out.below hbl5 (Nat.le_refl _))
  clear hbl5
  have hx : (boundB f != boundB f) = false := by simp
  go_wp2_with fail
  refine (toNodeS_any f a cap hl _ HA5.out).mono ?_
  rintro e w6 ⟨b6, rfl, hb6, hn6, hf6, hbl6⟩
  have HB6 := hid (HB5.out.trans (hbl6.mono (by omega)))
  have hz6 := hbl6.size
  have HN6 := hid hn6
  have HN5' := hid (HN5.out.below hbl6 HN5.out.1)
  clear hn6 hf6 hbl6
  go_wp2_with fail
  refine (eqNodeS_same f b4 b6 f.length f.length hl _ HN5'.out HN6.out).mono ?_
  rintro e w7 ⟨rfl, hbl7⟩
  have HB7 := hid (HB6.out.trans (hbl7.mono (by omega)))
  clear hbl7
  go_wp2_with fail
  go_ret
  exact ⟨rfl, HB7.out⟩
end Go.Proofs.YtjojlpnnappplaaDoor
