/-
  The program's recentTimes, takesTime, ownKeep, by their contracts.
-/
import Derived.Test.YtlikkjppknbnfaaKpG
import Derived.ArgAppend
namespace Go.Proofs.Ytlikkjppknbnfaa
open Go.RowKit
set_option linter.unusedVariables false
set_option linter.unusedSimpArgs false
/-- What a slice looks like. -/
def SlV (a : Option Addr) (n c : Nat) : Prop := (a = none ∧ n = 0 ∧ c = 0) ∨ (∃ b off, a = some ⟨b, off, none⟩ ∧ n ≤ c ∧ c ≤ maxLen)
theorem OwnI.sl {w : World} {base : Nat} {a : Option Addr} {n c : Nat} {Z : List Int} (h : OwnI w base (.slice a n c) Z) : SlV a n c := by
  rcases h.2 with ⟨hv, h0⟩ | ⟨g, cap, cur, hv, hb, hg, h1, h2, h3, h4⟩
  · injection hv with e1 e2 e3
    subst e1 e2 e3
    exact Or.inl ⟨rfl, rfl, rfl⟩
  · injection hv with e1 e2 e3
    subst e1 e2 e3
    exact Or.inr ⟨g, 0, rfl, h1, h2⟩
/-- How many of the first times are over. -/
def overB (hi tm z : Int) : Bool := decide (hi ≠ -1) && decide (hi < tm - z)
def overTo (hi tm : Int) (Z : List Int) (k : Nat) : Bool := (List.range k).all fun i => overB hi tm (zAt Z i)
set_option maxRecDepth 20000 in
set_option maxHeartbeats 4000000 in
theorem recent_any (lo hi : Int) (Z : List Int) (n : Nat) (hn : Z.length = n) (a : Option Addr) (c : Nat) (hS : SlV a n c) (hl : n ≤ 1000000) (tm : Int) (ht : 0 ≤ tm ∧ tm ≤ 1000000) (hz : ∀ i, i < n → 0 ≤ zAt Z i ∧ zAt Z i ≤ 1000000) (w : World) (hA : ArgI w a Z) :
    Calls Try.prog 35 #[kpV lo hi a n c, .int .i64 tm] w fun e w' => ∃ (r : Nat) (a' : Option Addr), e = .returned (.slice a' (n - r) (n - r)) ∧ r ≤ n ∧ overTo hi tm Z r = true ∧ (r < n → overB hi tm (zAt Z r) = false) ∧ SlV a' (n - r) (n - r) ∧ ArgI w' a' (Z.drop r) ∧ (∀ b off, a' = some ⟨b, off, none⟩ → ∃ off', a = some ⟨b, off', none⟩) ∧ Below w.heap.size w w' := by
  have HN := hid hn
  have HU : Hid (∀ lo hi a n c, kpV lo hi a n c = .agg #[.int .i64 lo, .int .i64 hi, .slice a n c]) := fun _ _ _ _ _ => rfl
  obtain ⟨t1, t2⟩ := ht
  have HB0 := hid (below_one' w (kO lo hi a n c))
  have HBX := hid (KBox.new w lo hi a n c 25)
  have HA := hid hA
  have HZ := hid hz
  have HSl := hid hS
  unfold kO at HB0
  rw [HU.out]
  clear hA hz hn hS
  go_enter Try.func35, Try.ntmps35
  go_wp2_with fail
  go_quiet (fail)
  have HB1 := hid (below_drewN HB0.out nq)
  have HX1 : Hid (KBox ((w.alloc (.cells #[.int .i64 lo, .int .i64 hi, .slice a n c] 25)).drewN nq) w.heap.size lo hi a n c) := ⟨HBX.out.lt, HBX.out.k0, HBX.out.k1, HBX.out.k2⟩
  generalize (w.alloc (.cells #[.int .i64 lo, .int .i64 hi, .slice a n c] 25)).drewN nq = W at *
  go_wp2_with fail
  go_loopw [5] (fun t wr => ∃ k : Nat, k ≤ n ∧ t = .int .i64 k ∧ overTo hi tm Z k = true ∧ Below W.heap.size W wr) (fun t _ => n - (intOf t).toNat)
  case atStart => exact ⟨0, Nat.zero_le _, rfl, rfl, Below.refl _ _⟩
  case round =>
    obtain ⟨k, hk, rfl, hg, hbel⟩ := hrel
    have HG := hid hg
    have HB := hid hbel
    have HBE := hid (HB1.out.trans (hbel.mono HB1.out.size))
    have HXr := hid (HX1.out.on hbel)
    obtain ⟨hq0, k0, k1, k2⟩ := HXr.out
    clear hg hbel
    have HOS : Hid (overTo hi tm Z (k + 1) = (overTo hi tm Z k && overB hi tm (zAt Z k))) := by show overTo _ _ _ _ = _; simp [overTo, List.range_succ]
    have hcase : (k < n ∧ overB hi tm (zAt Z k) = true) ∨ (k < n → overB hi tm (zAt Z k) = false) := by
      by_cases h : k < n
      · rcases Bool.eq_false_or_eq_true (overB hi tm (zAt Z k)) with h' | h'
        · exact Or.inl ⟨h, h'⟩
        · exact Or.inr (fun _ => h')
      · exact Or.inr (fun h' => absurd h' h)
    have HOb : Hid (overB hi tm (zAt Z k) = (decide (hi ≠ -1) && decide (hi < tm - zAt Z k))) := rfl
    rcases hcase with ⟨hlt, hov⟩ | hov
    · have HOv := hid hov
      have hov2 := hov
      rw [HOb.out, Bool.and_eq_true, decide_eq_true_eq, decide_eq_true_eq] at hov2
      obtain ⟨v1, v2⟩ := hov2
      have v1' : (hi != -1) = true := by simpa using v1
      rcases HA.out with h0 | ⟨b, off, rfl, hb, hc⟩
      · have := HN.out; omega
      have d0 := (HBE.out.cell (p := ⟨b, off + k, none⟩) hb).trans (hc k (by have := HN.out; omega))
      obtain ⟨z1, z2⟩ := HZ.out k hlt
      clear hc hov HOb
      generalize zAt Z k = T at *
      go_wp2_with fail
      go_quiet (fail)
      go_wp2_with fail
      go_roundw
      case rel => exact ⟨k + 1, by omega, by go_num, by rw [HOS.out, HG.out, HOv.out]; rfl, below_drewN HB.out _⟩
      case measure => simp [intOf]; omega
    · have HOv := hid hov
      have HEnd : Hid (∀ w' a', Below w.heap.size w w' → (∀ b off, a = some ⟨b, off, none⟩ → a' = some ⟨b, off + k, none⟩) → (a = none → a' = none) → SlV a' (n - k) (n - k) ∧ ArgI w' a' (Z.drop k)) := by
        intro w' a' hb' e1 e2
        rcases HSl.out with ⟨h1, h2, h3⟩ | ⟨b, off, h1, h2, h3⟩
        · refine ⟨Or.inl ⟨e2 h1, by omega, by omega⟩, Or.inl (by rw [List.length_drop, HN.out]; omega)⟩
        · refine ⟨Or.inr ⟨b, off + k, e1 b off h1, Nat.le_refl _, by omega⟩, ?_⟩
          by_cases hkn : k = n
          · exact Or.inl (by rw [List.length_drop, HN.out]; omega)
          · rcases HA.out with h0 | ⟨b', off', e, hb2, hc⟩
            · have := HN.out; omega
            · rw [h1] at e
              injection e with e
              injection e with e3 e4
              subst e3 e4
              refine Or.inr ⟨b, off + k, e1 b off h1, Nat.lt_of_lt_of_le hb2 hb'.size, fun i hi => ?_⟩
              rw [List.length_drop] at hi
              rw [Nat.add_assoc, (hb'.cell (p := ⟨b, off + (k + i), none⟩) hb2).trans (hc (k + i) (by omega))]
              simp [zAt, List.getD]
      have hgd : (hi != -1) = false ∨ ((hi != -1) = true ∧ k = n) ∨ ((hi != -1) = true ∧ k < n ∧ tm - zAt Z k ≤ hi) := by
        rcases Bool.eq_false_or_eq_true (hi != -1) with h | h
        · right
          by_cases hkn : k = n
          · exact Or.inl ⟨h, hkn⟩
          · refine Or.inr ⟨h, by omega, ?_⟩
            have h1 := hov (by omega)
            have h2 : hi ≠ -1 := by simpa using h
            rw [HOb.out] at h1
            simp [h2] at h1
            omega
        · exact Or.inl h
      clear hov HOb
      have HL : Hid (k < n → ∃ b off, a = some ⟨b, off, none⟩ ∧ b < w.heap.size ∧ wr.cell? ⟨b, off + k, none⟩ = some (.int .i64 (zAt Z k)) ∧ 0 ≤ zAt Z k ∧ zAt Z k ≤ 1000000) := by
        intro hlt
        rcases HA.out with h0 | ⟨b, off, e, hb, hc⟩
        · have := HN.out; omega
        · exact ⟨b, off, e, hb, (HBE.out.cell (p := ⟨b, off + k, none⟩) hb).trans (hc k (by have := HN.out; omega)), HZ.out k hlt⟩
      rcases HSl.out with ⟨rfl, rfl, rfl⟩ | ⟨b, off, rfl, hc1, hc2⟩
      · have hk0 : k = 0 := by omega
        subst hk0
        have hg3 : (hi != -1) = false ∨ (hi != -1) = true := by cases (hi != -1) <;> simp
        clear hgd
        rcases hg3 with h | h
        all_goals
          go_wp2_with fail
          go_quiet (fail)
          go_wp2_with fail
          go_ret
          have hbq := below_drewN HBE.out nq
          exact ⟨0, none, rfl, by omega, HG.out, HOv.out, (HEnd.out _ none hbq (fun _ _ e => by cases e) (fun _ => rfl)).1, (HEnd.out _ none hbq (fun _ _ e => by cases e) (fun _ => rfl)).2, (fun _ _ e => by cases e), hbq⟩
      · unfold maxLen at hc2
        by_cases hkn : k = n
        · subst hkn
          have HE2 : Hid (SlV (some ⟨b, off, none⟩) (k - k) (k - k) ∧ ∀ w', ArgI w' (some ⟨b, off, none⟩) (Z.drop k)) := ⟨Or.inr ⟨b, off, rfl, Nat.le_refl _, by unfold maxLen; omega⟩, fun w' => Or.inl (by rw [List.length_drop, HN.out]; omega)⟩
          have hg3 : (hi != -1) = false ∨ (hi != -1) = true := by cases (hi != -1) <;> simp
          clear hgd
          rcases hg3 with h | h
          all_goals
            go_wp2_with fail
            go_quiet (fail)
            go_wp2_with fail
            go_ret
            exact ⟨k, some ⟨b, off, none⟩, by simp, by omega, HG.out, HOv.out, HE2.out.1, HE2.out.2 _, (fun b2 o2 e => ⟨off, by injection e with e; injection e with e3 e4; subst e3; rfl⟩), below_drewN HBE.out nq⟩
        · have hlt : k < n := by omega
          have hnk : ¬ n = k := by omega
          obtain ⟨b', off', e, hb, d0, z1, z2⟩ := HL.out hlt
          injection e with e
          injection e with e3 e4
          subst e3 e4
          have hgd2 : (hi != -1) = false ∨ ((hi != -1) = true ∧ tm - zAt Z k ≤ hi) := by
            rcases hgd with h | ⟨h, h'⟩ | ⟨h, _, h'⟩
            · exact Or.inl h
            · omega
            · exact Or.inr ⟨h, h'⟩
          clear hgd HL
          have HEE := hid (fun w' hb' => HEnd.out w' (some ⟨b, off + k, none⟩) hb' (fun b2 o2 e => by injection e with e; injection e with e3 e4; subst e3 e4; rfl) (fun e => by cases e))
          clear HEnd
          generalize hT : zAt Z k = T at *
          have HT := hid hT
          clear hT
          rcases hgd2 with h | ⟨h, h'⟩
          all_goals
            go_wp2_with fail
            go_quiet (fail)
            go_wp2_with fail
            go_ret
            have hbq := below_drewN HBE.out nq
            exact ⟨k, some ⟨b, off + k, none⟩, rfl, by omega, HG.out, by rw [HT.out]; exact HOv.out, (HEE.out _ hbq).1, (HEE.out _ hbq).2, (fun b2 o2 e => ⟨off, by injection e with e; injection e with e3 e4; subst e3; rfl⟩), hbq⟩
theorem over_keeps {hi tm z : Int} (h : -1 ≤ hi) : keepsB hi tm z = !(overB hi tm z) := by
  by_cases h1 : hi = -1
  · simp [keepsB, overB, h1]
  · have h2 : ¬ hi < 0 := by omega
    by_cases h3 : hi < tm - z
    · simp [keepsB, overB, h1, h2, h3]
    · simp [keepsB, overB, h1, h2, h3]; omega
/-- What is over stands in front: what is left of the rest is what keeps. -/
theorem drop_over {hi tm : Int} {Z : List Int} (h1 : -1 ≤ hi) (hr : riseTo Z Z.length = true) (r : Nat) (hrn : r ≤ Z.length) (ho : overTo hi tm Z r = true) (hn : r < Z.length → overB hi tm (zAt Z r) = false) : Z.drop r = dropI hi tm Z := by
  have key : ∀ i, i < Z.length → (keepsB hi tm (zAt Z i) = decide (r ≤ i)) := by
    intro i hi'
    rw [over_keeps h1]
    by_cases hlt : i < r
    · have : overB hi tm (zAt Z i) = true := by
        simp only [overTo, List.all_eq_true, List.mem_range] at ho
        exact ho i hlt
      simp [this]; omega
    · have h0 := hn (by omega)
      have hle : zAt Z r ≤ zAt Z i := by
        have : ∀ j, r + j < Z.length → zAt Z r ≤ zAt Z (r + j) := by
          intro j
          induction j with
          | zero => intro _; exact Int.le_refl _
          | succ j ih =>
            intro hj
            have h3 := (riseTo_at hr (r + (j + 1)) hj).2.2 (by omega)
            have h4 := ih (by omega)
            have e : r + (j + 1) - 1 = r + j := by omega
            rw [e] at h3
            omega
        have h5 := this (i - r) (by omega)
        rwa [show r + (i - r) = i by omega] at h5
      have : overB hi tm (zAt Z i) = false := by
        simp only [overB, Bool.and_eq_false_iff, decide_eq_false_iff_not] at h0 ⊢
        rcases h0 with h0 | h0
        · exact Or.inl h0
        · right; omega
      simp [this]; omega
  have hZ : Z = (List.range Z.length).map (zAt Z) := by
    apply List.ext_getElem?
    intro i
    by_cases hi' : i < Z.length
    · simp [hi', zAt]
    · simp [hi']
  have h2 : dropI hi tm Z = ((List.range Z.length).filter (fun i => decide (r ≤ i))).map (zAt Z) := by
    unfold dropI dropTo
    rw [List.filter_map]
    congr 1
    apply List.filter_congr
    intro i hi'
    exact key i (by simpa using hi')
  have h3 : ∀ m, r ≤ m → (List.range m).filter (fun i => decide (r ≤ i)) = (List.range m).drop r := by
    intro m
    induction m with
    | zero => intro h; simp
    | succ m ih =>
      intro hm
      rw [List.range_succ, List.filter_append]
      by_cases he : r = m + 1
      · subst he
        have e1 : (List.range m).filter (fun i => decide (m + 1 ≤ i)) = [] := by
          apply List.filter_eq_nil_iff.2
          intro i hi'
          simp at hi' ⊢
          omega
        rw [e1]
        simp
      · rw [ih (by omega), List.drop_append_of_le_length (by simp; omega)]
        congr 1
        simp
        omega
  rw [h2, h3 _ hrn, List.map_drop, ← hZ]
end Go.Proofs.Ytlikkjppknbnfaa
