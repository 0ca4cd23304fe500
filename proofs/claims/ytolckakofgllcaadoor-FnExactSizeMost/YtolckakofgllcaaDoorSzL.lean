/-
  SizeMost: the model's and the program's by one contract; the walk of the law.
-/
import Derived.Test.YtolckakofgllcaaDoorMnA
import Derived.Test.YtolckakofgllcaaDoorInN
namespace Go.Proofs.YtolckakofgllcaaDoor
open Go.RowKit
set_option linter.unusedVariables false
set_option linter.unusedSimpArgs false
def nodeMost (x : Nd) : Int := if keepsK x.k then mostI x.hi else 0
def mostTo (f : List Nd) : Nat → Int
  | 0 => 0
  | k + 1 => mostTo f k + nodeMost (ndAt f k)
def sizeB (f : List Nd) : Int := if rightB f = true then mostTo f f.length else -1
theorem rightB_all (f : List Nd) (h : rightB f = true) : 1 ≤ f.length ∧ f.length ≤ 24 ∧ goodTo f f.length = true := by
  simp only [rightB, Bool.and_eq_true, decide_eq_true_eq] at h
  exact ⟨h.1.1, h.1.2, h.2.1⟩
/-- The bounds of a right node that keeps times. -/
theorem nodeB_keeps (x : Nd) (i : Nat) (h : nodeB x i = true) (hk : keepsK x.k = true) : spanB x.lo x.hi = true := by
  simp only [nodeB, Bool.and_eq_true] at h
  obtain ⟨_, _, _, _, h5⟩ := h
  have ht : timedB x.k = true := by
    simp only [keepsK, timedB, decide_eq_true_eq] at hk ⊢
    omega
  rw [ht] at h5
  simpa using h5
theorem nodeMost_le (x : Nd) (i : Nat) (h : nodeB x i = true) : 0 ≤ nodeMost x ∧ nodeMost x ≤ 1001 := by
  unfold nodeMost
  split
  · next hk =>
    have := spanB_parts (nodeB_keeps x i h hk)
    unfold mostI
    split <;> omega
  · omega
theorem mostTo_le (f : List Nd) (n : Nat) (h : goodTo f n = true) : ∀ k, k ≤ n → 0 ≤ mostTo f k ∧ mostTo f k ≤ 1001 * k := by
  intro k
  induction k with
  | zero => intro _; exact ⟨Int.le_refl _, by show (0 : Int) ≤ _; omega⟩
  | succ k ih =>
    intro hk
    have h1 := ih (by omega)
    have h2 := nodeMost_le _ k (goodTo_at f k n (by omega) h).1
    unfold mostTo
    push_cast
    omega
theorem kr_bare (lo hi : Int) (h : spanB lo hi = true) : krB lo hi [] = true := by
  refine krB_yes lo hi [] h ?_ rfl
  have := spanB_parts h
  unfold mostI
  show (0 : Int) ≤ _
  split <;> omega
set_option maxRecDepth 20000 in
set_option maxHeartbeats 2000000 in
theorem specSize_any (f : List Nd) (b cap : Nat) (w : World) (hN : NodesAt w b f) (hok : ∀ i, i < f.length → ndOk (ndAt f i)) (hlen : f.length ≤ maxLen) :
    Calls Tryd.prog 23 #[.slice (some ⟨b, 0, none⟩) f.length cap] w fun e w' => e = .returned (.int .i64 (sizeB f)) ∧ Below w.heap.size w w' := by
  have HN := hid hN
  have HC := hid (specRight_any f b cap w hN (fun i hi => (hok i hi).nm) hlen)
  have hb := hN.1
  clear hN
  rcases Bool.eq_false_or_eq_true (rightB f) with hr | hr
  · obtain ⟨hl1, hl2, hgd⟩ := rightB_all f hr
    have HR : Hid (sizeB f = mostTo f f.length) := by show sizeB f = _; simp [sizeB, hr]
    have HG := hid hgd
    clear hgd
    go_enter Tryd.func23, Tryd.ntmps23
    go_wp2_with fail
    refine HC.out.mono ?_
    rintro e w1 ⟨rfl, hb1⟩
    have HB1 := hid hb1
    have HN1 := hid (HN.out.below hb1 hb)
    clear hb1
    go_wp2_with fail
    go_loop [3, 4] (fun m t => ∃ k : Nat, k ≤ f.length ∧ t = .int .i64 k ∧ m = .int .i64 (mostTo f k)) (fun _ t => f.length - (intOf t).toNat)
    case atStart => exact ⟨0, Nat.zero_le _, rfl, rfl⟩
    case round =>
      obtain ⟨k, hk, rfl, rfl⟩ := hrel
      by_cases hlt : k < f.length
      · obtain ⟨c0, c1, c2, c3, c4, c5⟩ := HN1.out.2 k hlt
        have HS : Hid (mostTo f (k + 1) = mostTo f k + nodeMost (ndAt f k)) := rfl
        obtain ⟨m1, m2⟩ := mostTo_le f _ HG.out k (by omega)
        have hnb := (goodTo_at f k _ hlt HG.out).1
        rcases Bool.eq_false_or_eq_true (keepsK (ndAt f k).k) with ht | ht
        · have HV : Hid (nodeMost (ndAt f k) = mostI (ndAt f k).hi) := by show nodeMost _ = _; simp [nodeMost, ht]
          obtain ⟨n1, n2⟩ := nodeMost_le _ k hnb
          rw [HV.out] at n1 n2
          have hsp := spanB_hi1 (nodeB_keeps _ k hnb ht)
          have HM := hid (fun w => specMostI_any _ hsp.1 hsp.2 w)
          have HK := hid (fun w => keepsS_is _ true ht w)
          clear hnb ht hsp
          generalize mostTo f k = B at *
          generalize mostI (ndAt f k).hi = M at *
          go_wp2_with (first | (go_at_call 47; refine (HK.out _).mono ?_; rintro e w' ⟨rfl, rfl⟩) | (go_at_call 48; refine (HM.out _).mono ?_; rintro e w' ⟨rfl, rfl⟩))
          go_round
          case rel => exact ⟨k + 1, by omega, by go_num, by rw [HS.out, HV.out]⟩
          case measure => simp [intOf]; omega
        · have HV : Hid (nodeMost (ndAt f k) = 0) := by show nodeMost _ = _; simp [nodeMost, ht]
          have HK := hid (fun w => keepsS_is _ false ht w)
          clear hnb ht
          generalize mostTo f k = B at *
          go_wp2_with (go_at_call 47; refine (HK.out _).mono ?_; rintro e w' ⟨rfl, rfl⟩)
          go_round
          case rel => exact ⟨k + 1, by omega, by go_num, by rw [HS.out, HV.out, Int.add_zero]⟩
          case measure => simp [intOf]; omega
      · have hk' : k = f.length := by omega
        subst hk'
        go_wp2_with fail
        go_ret
        exact ⟨ret_int HR.out.symm, HB1.out⟩
  · have HR : Hid (sizeB f = -1) := by show sizeB f = _; simp [sizeB, hr]
    go_enter Tryd.func23, Tryd.ntmps23
    go_wp2_with fail
    refine HC.out.mono ?_
    rintro e w1 ⟨rfl, hb1⟩
    have HB1 := hid hb1
    clear hb1
    go_wp2_with fail
    go_ret
    exact ⟨ret_int HR.out.symm, HB1.out⟩
set_option maxRecDepth 20000 in
set_option maxHeartbeats 2000000 in
theorem implSize_any (f : List Nd) (b cap : Nat) (w : World) (hN : NodesAt w b f) (hok : ∀ i, i < f.length → ndOk (ndAt f i)) (hlen : f.length ≤ maxLen) (hkw : Kw w) (hg : 1 < w.heap.size) :
    Calls Tryd.prog 24 #[.slice (some ⟨b, 0, none⟩) f.length cap] w fun e w' => e = .returned (.int .i64 (sizeB f)) ∧ Below w.heap.size w w' := by
  have HN := hid hN
  have HC := hid (implRight_any f b cap w hN hok hlen hkw hg)
  have hb := hN.1
  clear hN hkw
  rcases Bool.eq_false_or_eq_true (rightB f) with hr | hr
  · obtain ⟨hl1, hl2, hgd⟩ := rightB_all f hr
    have HR : Hid (sizeB f = mostTo f f.length) := by show sizeB f = _; simp [sizeB, hr]
    have HG := hid hgd
    have HU : Hid (∀ x : Nd, ndV x = .agg #[.int .i64 x.k, .int .i64 x.a, .int .i64 x.b, .int .i64 x.lo, .int .i64 x.hi, .string x.nm]) := fun _ => rfl
    clear hgd
    go_enter Tryd.func24, Tryd.ntmps24
    go_wp2_with fail
    refine HC.out.mono ?_
    rintro e w1 ⟨rfl, hb1⟩
    have HB1 := hid hb1
    have hz1 := hb1.size
    have HN1 := hid (HN.out.below hb1 hb)
    clear hb1
    go_wp2_with fail
    go_loopw [3, 11] (fun m t wr => ∃ k : Nat, k ≤ f.length ∧ t = .int .i64 k ∧ m = .int .i64 (mostTo f k) ∧ Below w1.heap.size w1 wr) (fun _ t _ => f.length - (intOf t).toNat)
    case atStart => exact ⟨0, Nat.zero_le _, rfl, rfl, Below.refl _ _⟩
    case round =>
      obtain ⟨k, hk, rfl, rfl, hbel⟩ := hrel
      have HBr := hid hbel
      have hsz := hbel.size
      clear hbel
      by_cases hlt : k < f.length
      · obtain ⟨c0, c1, c2, c3, c4, c5⟩ := (HN1.out.2 k hlt).below HBr.out HN1.out.1
        have HS : Hid (mostTo f (k + 1) = mostTo f k + nodeMost (ndAt f k)) := rfl
        obtain ⟨m1, m2⟩ := mostTo_le f _ HG.out k (by omega)
        have hnb := (goodTo_at f k _ hlt HG.out).1
        have HBa := hid (below_one' wr (.cells #[.int .i64 (ndAt f k).k, .int .i64 (ndAt f k).a, .int .i64 (ndAt f k).b, .int .i64 (ndAt f k).lo, .int .i64 (ndAt f k).hi, .string (ndAt f k).nm] 53))
        rcases Bool.eq_false_or_eq_true (keepsK (ndAt f k).k) with ht | ht
        · have HV : Hid (nodeMost (ndAt f k) = mostI (ndAt f k).hi) := by show nodeMost _ = _; simp [nodeMost, ht]
          obtain ⟨n1, n2⟩ := nodeMost_le _ k hnb
          rw [HV.out] at n1 n2
          have HK := hid (fun w => keepsI_is _ true ht w)
          have HBk := hid (fun w => bare_is (ndAt f k) _ _ (by simp [bareLo, ht]; rfl) (by simp [bareHi, ht]; rfl) w)
          have HM := hid (fun w => implMost_any (ndAt f k).lo (ndAt f k).hi [] 0 rfl none 0 (by omega) w (Or.inl rfl))
          have hkm : kmI (ndAt f k).lo (ndAt f k).hi [] = mostI (ndAt f k).hi := by simp [kmI, kr_bare _ _ (nodeB_keeps _ k hnb ht)]
          rw [hkm] at HM
          rw [HU.out] at HK HBk
          clear hnb ht hkm
          unfold kpV at HM
          generalize mostTo f k = B at *
          generalize mostI (ndAt f k).hi = M at *
          go_wp2_with (first | (go_at_call 49; refine (HK.out _).mono ?_; rintro e w2 ⟨rfl, hb2⟩; have HB2 := hid (HBa.out.trans (hb2.mono (by simp))); obtain ⟨hc, hf⟩ := bcell hb2; have hz2 : wr.heap.size + 1 ≤ w2.heap.size := (by have := hb2.size; simp at this; omega); clear hb2) | (go_at_call 51; refine (HBk.out _).mono ?_; rintro e w3 ⟨rfl, hb3⟩; have HB3 := hid (HB2.out.trans (hb3.mono (by omega))); have hz3 := hb3.size; clear hb3) | (go_at_call 50; refine (HM.out _).mono ?_; rintro e w4 ⟨rfl, hb4⟩; have HB4 := hid (HB3.out.trans (hb4.mono (by omega))); clear hb4))
          go_roundw
          case rel => exact ⟨k + 1, by omega, by go_num, by rw [HS.out, HV.out], HBr.out.trans (HB4.out.mono hsz)⟩
          case measure => simp [intOf]; omega
        · have HV : Hid (nodeMost (ndAt f k) = 0) := by show nodeMost _ = _; simp [nodeMost, ht]
          have HK := hid (fun w => keepsI_is _ false ht w)
          rw [HU.out] at HK
          clear hnb ht
          generalize mostTo f k = B at *
          go_wp2_with (go_at_call 49; refine (HK.out _).mono ?_; rintro e w2 ⟨rfl, hb2⟩; have HB2 := hid (HBa.out.trans (hb2.mono (by simp))); clear hb2)
          go_roundw
          case rel => exact ⟨k + 1, by omega, by go_num, by rw [HS.out, HV.out, Int.add_zero], HBr.out.trans (HB2.out.mono hsz)⟩
          case measure => simp [intOf]; omega
      · have hk' : k = f.length := by omega
        subst hk'
        go_wp2_with fail
        go_ret
        exact ⟨ret_int HR.out.symm, HB1.out.trans (HBr.out.mono hz1)⟩
  · have HR : Hid (sizeB f = -1) := by show sizeB f = _; simp [sizeB, hr]
    go_enter Tryd.func24, Tryd.ntmps24
    go_wp2_with fail
    refine HC.out.mono ?_
    rintro e w1 ⟨rfl, hb1⟩
    have HB1 := hid hb1
    clear hb1
    go_wp2_with fail
    go_ret
    exact ⟨ret_int HR.out.symm, HB1.out⟩
set_option maxRecDepth 20000 in
set_option maxHeartbeats 2000000 in
theorem walkSize (a : Option Addr) (cap : Nat) (f : List Nd) (w : World) (hI : InN w a cap f) (hkw : Kw w) (hg : 1 < w.heap.size) :
    Calls Tryd.prog 6 #[.slice a f.length cap] w fun e w' => e = .returned (.bool true) ∧ Below w.heap.size w w' := by
  have HI := hid hI
  have HK := hid hkw
  clear hI hkw
  go_enter Tryd.func6, Tryd.ntmps6
  go_wp2_with fail
  refine (szNodeS_any f a cap (fun i hi => (HI.out.ok i hi).nm) HI.out.len _ HI.out.arg).mono ?_
  rintro e w1 ⟨r, rfl, hr, hb1⟩
  have HB1 := hid hb1
  have hz1 := hb1.size
  by_cases hr0 : r < 0
  · clear hb1 hr
    go_wp2_with fail
    go_ret
    exact ⟨rfl, HB1.out⟩
  obtain ⟨hl, _⟩ := hr (by omega)
  have HA1 := hid (HI.out.arg.below hb1 (Nat.le_refl _))
  clear hb1 hr
  go_wp2_with fail
  refine (toNodeS_any f a cap hl _ HA1.out).mono ?_
  rintro e w2 ⟨b2, rfl, hb2, hn2, hf2, hbl2⟩
  have HB2 := hid (HB1.out.trans (hbl2.mono hz1))
  have hz2 := hbl2.size
  have HN2 := hid hn2
  have HA2 := hid (HA1.out.below hbl2 (Nat.le_refl _))
  clear hn2 hf2 hbl2
  go_wp2_with fail
  refine (specSize_any f b2 f.length _ HN2.out HI.out.ok HI.out.len).mono ?_
  rintro e w3 ⟨rfl, hbl3⟩
  have HB3 := hid (HB2.out.trans (hbl3.mono (by omega)))
  have hz3 := hbl3.size
  have HA3 := hid (HA2.out.below hbl3 (Nat.le_refl _))
  clear hbl3
  go_wp2_with fail
  refine (toNodeS_any f a cap hl _ HA3.out).mono ?_
  rintro e w4 ⟨b4, rfl, hb4, hn4, hf4, hbl4⟩
  have HB4 := hid (HB3.out.trans (hbl4.mono (by omega)))
  have hz4 := hbl4.size
  have HN4 := hid hn4
  have HA4 := hid (HA3.out.below hbl4 (Nat.le_refl _))
  have HK4 := hid (HK.out.below HB4.out hg)
  clear hn4 hf4 hbl4
  go_wp2_with fail
  refine (implSize_any f b4 f.length _ HN4.out HI.out.ok HI.out.len HK4.out (by omega)).mono ?_
  rintro e w5 ⟨rfl, hbl5⟩
  have HB5 := hid (HB4.out.trans (hbl5.mono (by omega)))
  have hz5 := hbl5.size
  have HN5 := hid (HN4.out.below hbl5 HN4.out.1)
  have HA5 := hid (HA4.out.below hbl5 (Nat.le_refl _))
  clear hbl5
  have hx : (sizeB f != sizeB f) = false := by simp
  go_wp2_with fail
  refine (toNodeS_any f a cap hl _ HA5.out).mono ?_
  rintro e w6 ⟨b6, rfl, hb6, hn6, hf6, hbl6⟩
  have HB6 := hid (HB5.out.trans (hbl6.mono (by omega)))
  have hz6 := hbl6.size
  have HN6 := hid hn6
  have HN5' := hid (HN5.out.below hbl6 HN5.out.1)
  clear hn6 hf6 hbl6
  go_wp2_with fail
  refine (eqNodeS_same f b4 b6 f.length f.length hl _ HN5'.out HN6.out).mono ?_
  rintro e w7 ⟨rfl, hbl7⟩
  have HB7 := hid (HB6.out.trans (hbl7.mono (by omega)))
  clear hbl7
  go_wp2_with fail
  go_ret
  exact ⟨rfl, HB7.out⟩
end Go.Proofs.YtolckakofgllcaaDoor
