/-
  The program's recentTimes, takesTime, ownKeep, by their contracts.
  The program's takesTime, ownKeep, KeepDrop and KeepPut, by their contracts.
  The program's KeepDrop, by its contract.
  The program's KeepPut, by its contract.
  Keeps: what is put or dropped stays right. Plain facts.
  Rows of cells of monitors: plain facts; the laws' own helpers over them: szCellS, toCellS, eqCellS, by their contracts.
  The laws' marks: markNodeS by its contract.
-/
import Derived.Test.YtbfkbgmkibkbnaaGreatDoorPa10
import Derived.ArgAppend
import Derived.Test.YtbfkbgmkibkbnaaGreatDoorPa09
import Derived.Test.YtbfkbgmkibkbnaaGreatDoorPa08
import Derived.Test.YtbfkbgmkibkbnaaGreatDoorPa00
namespace Go.Proofs.YtbfkbgmkibkbnaaGreatDoor
open Go.RowKit
set_option linter.unusedVariables false
set_option linter.unusedSimpArgs false
theorem OwnI.sl {w : World} {base : Nat} {a : Option Addr} {n c : Nat} {Z : List Int} (h : OwnI w base (.slice a n c) Z) : SlV a n c := by
  rcases h.2 with ⟨hv, h0⟩ | ⟨g, cap, cur, hv, hb, hg, h1, h2, h3, h4⟩
  · injection hv with e1 e2 e3
    subst e1 e2 e3
    exact Or.inl ⟨rfl, rfl, rfl⟩
  · injection hv with e1 e2 e3
    subst e1 e2 e3
    exact Or.inr ⟨g, 0, rfl, h1, h2⟩
/-- How many of the first times are over. -/
def overB (hi tm z : Int) : Bool := decide (hi ≠ -1) && decide (hi < tm - z)
def overTo (hi tm : Int) (Z : List Int) (k : Nat) : Bool := (List.range k).all fun i => overB hi tm (zAt Z i)
set_option maxRecDepth 20000 in
set_option maxHeartbeats 4000000 in
theorem recent_any (lo hi : Int) (Z : List Int) (n : Nat) (hn : Z.length = n) (a : Option Addr) (c : Nat) (hS : SlV a n c) (hl : n ≤ 1000000) (tm : Int) (ht : 0 ≤ tm ∧ tm ≤ 1000000) (hz : ∀ i, i < n → 0 ≤ zAt Z i ∧ zAt Z i ≤ 1000000) (w : World) (hA : ArgI w a Z) :
    Calls Tryz.prog 169 #[kpV lo hi a n c, .int .i64 tm] w fun e w' => ∃ (r : Nat) (a' : Option Addr), e = .returned (.slice a' (n - r) (n - r)) ∧ r ≤ n ∧ overTo hi tm Z r = true ∧ (r < n → overB hi tm (zAt Z r) = false) ∧ SlV a' (n - r) (n - r) ∧ ArgI w' a' (Z.drop r) ∧ (∀ b off, a' = some ⟨b, off, none⟩ → ∃ off', a = some ⟨b, off', none⟩) ∧ Below w.heap.size w w' := by
  have HN := hid hn
  have HU : Hid (∀ lo hi a n c, kpV lo hi a n c = .agg #[.int .i64 lo, .int .i64 hi, .slice a n c]) := fun _ _ _ _ _ => rfl
  obtain ⟨t1, t2⟩ := ht
  have HB0 := hid (below_one' w (kO lo hi a n c))
  have HBX := hid (KBox.new w lo hi a n c 94)
  have HA := hid hA
  have HZ := hid hz
  have HSl := hid hS
  unfold kO at HB0
  rw [HU.out]
  clear hA hz hn hS
  go_enter Tryz.func169, Tryz.ntmps169
  go_wp2_with fail
  go_quiet (fail)
  have HB1 := hid (below_drewN HB0.out nq)
  have HX1 : Hid (KBox ((w.alloc (.cells #[.int .i64 lo, .int .i64 hi, .slice a n c] 94)).drewN nq) w.heap.size lo hi a n c) := ⟨HBX.out.lt, HBX.out.k0, HBX.out.k1, HBX.out.k2⟩
  generalize (w.alloc (.cells #[.int .i64 lo, .int .i64 hi, .slice a n c] 94)).drewN nq = W at *
  go_wp2_with fail
  go_loopw [5] (fun t wr => ∃ k : Nat, k ≤ n ∧ t = .int .i64 k ∧ overTo hi tm Z k = true ∧ Below W.heap.size W wr) (fun t _ => n - (intOf t).toNat)
  case atStart => exact ⟨0, Nat.zero_le _, rfl, rfl, Below.refl _ _⟩
  case round =>
    obtain ⟨k, hk, rfl, hg, hbel⟩ := hrel
    have HG := hid hg
    have HB := hid hbel
    have HBE := hid (HB1.out.trans (hbel.mono HB1.out.size))
    have HXr := hid (HX1.out.on hbel)
    obtain ⟨hq0, k0, k1, k2⟩ := HXr.out
    clear hg hbel
    have HOS : Hid (overTo hi tm Z (k + 1) = (overTo hi tm Z k && overB hi tm (zAt Z k))) := by show overTo _ _ _ _ = _; simp [overTo, List.range_succ]
    have hcase : (k < n ∧ overB hi tm (zAt Z k) = true) ∨ (k < n → overB hi tm (zAt Z k) = false) := by
      by_cases h : k < n
      · rcases Bool.eq_false_or_eq_true (overB hi tm (zAt Z k)) with h' | h'
        · exact Or.inl ⟨h, h'⟩
        · exact Or.inr (fun _ => h')
      · exact Or.inr (fun h' => absurd h' h)
    have HOb : Hid (overB hi tm (zAt Z k) = (decide (hi ≠ -1) && decide (hi < tm - zAt Z k))) := rfl
    rcases hcase with ⟨hlt, hov⟩ | hov
    · have HOv := hid hov
      have hov2 := hov
      rw [HOb.out, Bool.and_eq_true, decide_eq_true_eq, decide_eq_true_eq] at hov2
      obtain ⟨v1, v2⟩ := hov2
      have v1' : (hi != -1) = true := by simpa using v1
      rcases HA.out with h0 | ⟨b, off, rfl, hb, hc⟩
      · have := HN.out; omega
      have d0 := (HBE.out.cell (p := ⟨b, off + k, none⟩) hb).trans (hc k (by have := HN.out; omega))
      obtain ⟨z1, z2⟩ := HZ.out k hlt
      clear hc hov HOb
      generalize zAt Z k = T at *
      go_wp2_with fail
      go_quiet (fail)
      go_wp2_with fail
      go_roundw
      case rel => exact ⟨k + 1, by omega, by go_num, by rw [HOS.out, HG.out, HOv.out]; rfl, below_drewN HB.out _⟩
      case measure => simp [intOf]; omega
    · have HOv := hid hov
      have HEnd : Hid (∀ w' a', Below w.heap.size w w' → (∀ b off, a = some ⟨b, off, none⟩ → a' = some ⟨b, off + k, none⟩) → (a = none → a' = none) → SlV a' (n - k) (n - k) ∧ ArgI w' a' (Z.drop k)) := by
        intro w' a' hb' e1 e2
        rcases HSl.out with ⟨h1, h2, h3⟩ | ⟨b, off, h1, h2, h3⟩
        · refine ⟨Or.inl ⟨e2 h1, by omega, by omega⟩, Or.inl (by rw [List.length_drop, HN.out]; omega)⟩
        · refine ⟨Or.inr ⟨b, off + k, e1 b off h1, Nat.le_refl _, by omega⟩, ?_⟩
          by_cases hkn : k = n
          · exact Or.inl (by rw [List.length_drop, HN.out]; omega)
          · rcases HA.out with h0 | ⟨b', off', e, hb2, hc⟩
            · have := HN.out; omega
            · rw [h1] at e
              injection e with e
              injection e with e3 e4
              subst e3 e4
              refine Or.inr ⟨b, off + k, e1 b off h1, Nat.lt_of_lt_of_le hb2 hb'.size, fun i hi => ?_⟩
              rw [List.length_drop] at hi
              rw [Nat.add_assoc, (hb'.cell (p := ⟨b, off + (k + i), none⟩) hb2).trans (hc (k + i) (by omega))]
              simp [zAt, List.getD]
      have hgd : (hi != -1) = false ∨ ((hi != -1) = true ∧ k = n) ∨ ((hi != -1) = true ∧ k < n ∧ tm - zAt Z k ≤ hi) := by
        rcases Bool.eq_false_or_eq_true (hi != -1) with h | h
        · right
          by_cases hkn : k = n
          · exact Or.inl ⟨h, hkn⟩
          · refine Or.inr ⟨h, by omega, ?_⟩
            have h1 := hov (by omega)
            have h2 : hi ≠ -1 := by simpa using h
            rw [HOb.out] at h1
            simp [h2] at h1
            omega
        · exact Or.inl h
      clear hov HOb
      have HL : Hid (k < n → ∃ b off, a = some ⟨b, off, none⟩ ∧ b < w.heap.size ∧ wr.cell? ⟨b, off + k, none⟩ = some (.int .i64 (zAt Z k)) ∧ 0 ≤ zAt Z k ∧ zAt Z k ≤ 1000000) := by
        intro hlt
        rcases HA.out with h0 | ⟨b, off, e, hb, hc⟩
        · have := HN.out; omega
        · exact ⟨b, off, e, hb, (HBE.out.cell (p := ⟨b, off + k, none⟩) hb).trans (hc k (by have := HN.out; omega)), HZ.out k hlt⟩
      rcases HSl.out with ⟨rfl, rfl, rfl⟩ | ⟨b, off, rfl, hc1, hc2⟩
      · have hk0 : k = 0 := by omega
        subst hk0
        have hg3 : (hi != -1) = false ∨ (hi != -1) = true := by cases (hi != -1) <;> simp
        clear hgd
        rcases hg3 with h | h
        all_goals
          go_wp2_with fail
          go_quiet (fail)
          go_wp2_with fail
          go_ret
          have hbq := below_drewN HBE.out nq
          exact ⟨0, none, rfl, by omega, HG.out, HOv.out, (HEnd.out _ none hbq (fun _ _ e => by cases e) (fun _ => rfl)).1, (HEnd.out _ none hbq (fun _ _ e => by cases e) (fun _ => rfl)).2, (fun _ _ e => by cases e), hbq⟩
      · unfold maxLen at hc2
        by_cases hkn : k = n
        · subst hkn
          have HE2 : Hid (SlV (some ⟨b, off, none⟩) (k - k) (k - k) ∧ ∀ w', ArgI w' (some ⟨b, off, none⟩) (Z.drop k)) := ⟨Or.inr ⟨b, off, rfl, Nat.le_refl _, by unfold maxLen; omega⟩, fun w' => Or.inl (by rw [List.length_drop, HN.out]; omega)⟩
          have hg3 : (hi != -1) = false ∨ (hi != -1) = true := by cases (hi != -1) <;> simp
          clear hgd
          rcases hg3 with h | h
          all_goals
            go_wp2_with fail
            go_quiet (fail)
            go_wp2_with fail
            go_ret
            exact ⟨k, some ⟨b, off, none⟩, by simp, by omega, HG.out, HOv.out, HE2.out.1, HE2.out.2 _, (fun b2 o2 e => ⟨off, by injection e with e; injection e with e3 e4; subst e3; rfl⟩), below_drewN HBE.out nq⟩
        · have hlt : k < n := by omega
          have hnk : ¬ n = k := by omega
          obtain ⟨b', off', e, hb, d0, z1, z2⟩ := HL.out hlt
          injection e with e
          injection e with e3 e4
          subst e3 e4
          have hgd2 : (hi != -1) = false ∨ ((hi != -1) = true ∧ tm - zAt Z k ≤ hi) := by
            rcases hgd with h | ⟨h, h'⟩ | ⟨h, _, h'⟩
            · exact Or.inl h
            · omega
            · exact Or.inr ⟨h, h'⟩
          clear hgd HL
          have HEE := hid (fun w' hb' => HEnd.out w' (some ⟨b, off + k, none⟩) hb' (fun b2 o2 e => by injection e with e; injection e with e3 e4; subst e3 e4; rfl) (fun e => by cases e))
          clear HEnd
          generalize hT : zAt Z k = T at *
          have HT := hid hT
          clear hT
          rcases hgd2 with h | ⟨h, h'⟩
          all_goals
            go_wp2_with fail
            go_quiet (fail)
            go_wp2_with fail
            go_ret
            have hbq := below_drewN HBE.out nq
            exact ⟨k, some ⟨b, off + k, none⟩, rfl, by omega, HG.out, by rw [HT.out]; exact HOv.out, (HEE.out _ hbq).1, (HEE.out _ hbq).2, (fun b2 o2 e => ⟨off, by injection e with e; injection e with e3 e4; subst e3; rfl⟩), hbq⟩
theorem over_keeps {hi tm z : Int} (h : -1 ≤ hi) : keepsB hi tm z = !(overB hi tm z) := by
  by_cases h1 : hi = -1
  · simp [keepsB, overB, h1]
  · have h2 : ¬ hi < 0 := by omega
    by_cases h3 : hi < tm - z
    · simp [keepsB, overB, h1, h2, h3]
    · simp [keepsB, overB, h1, h2, h3]; omega
/-- What is over stands in front: what is left of the rest is what keeps. -/
theorem drop_over {hi tm : Int} {Z : List Int} (h1 : -1 ≤ hi) (hr : riseTo Z Z.length = true) (r : Nat) (hrn : r ≤ Z.length) (ho : overTo hi tm Z r = true) (hn : r < Z.length → overB hi tm (zAt Z r) = false) : Z.drop r = dropI hi tm Z := by
  have key : ∀ i, i < Z.length → (keepsB hi tm (zAt Z i) = decide (r ≤ i)) := by
    intro i hi'
    rw [over_keeps h1]
    by_cases hlt : i < r
    · have : overB hi tm (zAt Z i) = true := by
        simp only [overTo, List.all_eq_true, List.mem_range] at ho
        exact ho i hlt
      simp [this]; omega
    · have h0 := hn (by omega)
      have hle : zAt Z r ≤ zAt Z i := by
        have : ∀ j, r + j < Z.length → zAt Z r ≤ zAt Z (r + j) := by
          intro j
          induction j with
          | zero => intro _; exact Int.le_refl _
          | succ j ih =>
            intro hj
            have h3 := (riseTo_at hr (r + (j + 1)) hj).2.2 (by omega)
            have h4 := ih (by omega)
            have e : r + (j + 1) - 1 = r + j := by omega
            rw [e] at h3
            omega
        have h5 := this (i - r) (by omega)
        rwa [show r + (i - r) = i by omega] at h5
      have : overB hi tm (zAt Z i) = false := by
        simp only [overB, Bool.and_eq_false_iff, decide_eq_false_iff_not] at h0 ⊢
        rcases h0 with h0 | h0
        · exact Or.inl h0
        · right; omega
      simp [this]; omega
  have hZ : Z = (List.range Z.length).map (zAt Z) := by
    apply List.ext_getElem?
    intro i
    by_cases hi' : i < Z.length
    · simp [hi', zAt]
    · simp [hi']
  have h2 : dropI hi tm Z = ((List.range Z.length).filter (fun i => decide (r ≤ i))).map (zAt Z) := by
    unfold dropI dropTo
    rw [List.filter_map]
    congr 1
    apply List.filter_congr
    intro i hi'
    exact key i (by simpa using hi')
  have h3 : ∀ m, r ≤ m → (List.range m).filter (fun i => decide (r ≤ i)) = (List.range m).drop r := by
    intro m
    induction m with
    | zero => intro h; simp
    | succ m ih =>
      intro hm
      rw [List.range_succ, List.filter_append]
      by_cases he : r = m + 1
      · subst he
        have e1 : (List.range m).filter (fun i => decide (m + 1 ≤ i)) = [] := by
          apply List.filter_eq_nil_iff.2
          intro i hi'
          simp at hi' ⊢
          omega
        rw [e1]
        simp
      · rw [ih (by omega), List.drop_append_of_le_length (by simp; omega)]
        congr 1
        simp
        omega
  rw [h2, h3 _ hrn, List.map_drop, ← hZ]
end Go.Proofs.YtbfkbgmkibkbnaaGreatDoor
namespace Go.Proofs.YtbfkbgmkibkbnaaGreatDoor
open Go.RowKit
set_option linter.unusedVariables false
set_option linter.unusedSimpArgs false
set_option maxRecDepth 20000 in
set_option maxHeartbeats 2000000 in
theorem takes_any (lo hi : Int) (h1 : -1 ≤ hi) (Z : List Int) (n : Nat) (hn : Z.length = n) (a : Option Addr) (c : Nat) (hl : n ≤ 1000000) (tm : Int) (v : Bool) (hv : stayB hi tm Z = !v) (w : World) (hA : ArgI w a Z) :
    Calls Tryz.prog 168 #[kpV lo hi a n c, .int .i64 tm] w fun e w' => e = .returned (.bool v) ∧ Below w.heap.size w w' := by
  have HN := hid hn
  unfold kpV
  by_cases h0 : n = 0
  · subst h0
    have HV : Hid (v = true) := by
      show v = true
      have : stayB hi tm Z = false := by simp [stayB, hn]
      rw [this] at hv
      simpa using hv
    clear hv hn hA
    go_enter Tryz.func168, Tryz.ntmps168
    go_wp2_with fail
    go_ret
    exact ⟨ret_bool HV.out.symm, below_one' _ _⟩
  obtain ⟨m, rfl⟩ : ∃ m, n = m + 1 := ⟨n - 1, by omega⟩
  rcases hA with hA | ⟨b, off, rfl, hb, hc⟩
  · omega
  have d0 := hc m (by omega)
  have HV : Hid (v = (decide (hi ≠ -1) && decide (zAt Z m < tm))) := by
    show v = _
    have e : stayB hi tm Z = (decide (hi < 0) || decide (tm ≤ zAt Z m)) := by simp [stayB, hn, lastI_at hn]
    rw [e] at hv
    have : v = !(decide (hi < 0) || decide (tm ≤ zAt Z m)) := by rw [hv]; simp
    rw [this]
    by_cases h2 : hi = -1
    · simp [h2]
    · have h3 : ¬ hi < 0 := by omega
      by_cases h4 : zAt Z m < tm
      · simp [h2, h3, h4] <;> omega
      · simp [h2, h3, h4] <;> omega
  clear hv hn hc h0
  generalize zAt Z m = U at *
  by_cases h2 : hi = -1
  · subst h2
    go_enter Tryz.func168, Tryz.ntmps168
    go_wp2_with fail
    go_ret
    exact ⟨ret_bool (by rw [HV.out]; rfl), below_one' _ _⟩
  · have h2' : (hi != -1) = true := by simpa using h2
    by_cases h4 : U < tm
    all_goals
      go_enter Tryz.func168, Tryz.ntmps168
      go_wp2_with fail
      go_ret
      exact ⟨ret_bool (by rw [HV.out]; simp [h2]; omega), below_one' _ _⟩
theorem argI_cells {W : World} {b off : Nat} {Z : List Int} (h : ArgI W (some ⟨b, off, none⟩) Z) : ∀ j u, (Z.map (Value.int .i64))[j]? = some u → W.cell? ((⟨b, off, none⟩ : Addr).add j) = some u := by
  rcases h with h | ⟨b', off', e, hb, hc⟩
  · intro j u hu
    rw [List.eq_nil_of_length_eq_zero h] at hu
    simp at hu
  · injection e with e
    injection e with e3 e4
    subst e3 e4
    exact ints_cells hc
set_option maxRecDepth 20000 in
set_option maxHeartbeats 2000000 in
theorem own_any (lo hi : Int) (Z : List Int) (n : Nat) (hn : Z.length = n) (a : Option Addr) (c : Nat) (hS : SlV a n c) (hl : n ≤ 1000000) (w : World) (hA : ArgI w a Z) :
    Calls Tryz.prog 170 #[.agg #[.int .i64 lo, .int .i64 hi, .slice a n c]] w fun e w' => ∃ va vc, e = .returned (.agg #[.int .i64 lo, .int .i64 hi, .slice va Z.length vc]) ∧ OwnI w' w.heap.size (.slice va Z.length vc) Z ∧ Below w.heap.size w w' := by
  obtain ⟨i0, hi0, hz0, hz1', hz2⟩ := info_parts Tryz.infoI
  have HB0 := hid (below2 w (kO lo hi a n c) (kO 0 0 none 0 0))
  have HK := hid (KBox2.new w lo hi a n c)
  have HKf := hid HK.out.fr
  have hWz := HK.out.sz
  have HN := hid hn
  unfold kO at HB0 HK HKf hWz
  rcases hS with ⟨rfl, rfl, rfl⟩ | ⟨b, off, rfl, hc1, hc2⟩
  · have HZ : Hid (Z = []) := List.eq_nil_of_length_eq_zero hn
    clear hn hA
    go_enter Tryz.func170, Tryz.ntmps170
    go_wp2_with fail
    obtain ⟨_, r0, r1, r2⟩ := HK.out.r
    obtain ⟨f0, f1, f2⟩ := HKf.out
    refine bodyPost_ret (v := .agg #[.int .i64 lo, .int .i64 hi, .slice none 0 0]) (by simp [results, Tryz.results170, go_sem, r0, r1, r2, f0, f1, f2]) rfl ?_
    rw [HZ.out]
    exact ⟨none, 0, rfl, OwnI.nil _ _, below2 w _ _⟩
  · have HA := hid hA
    clear hn hA
    go_enter Tryz.func170, Tryz.ntmps170
    go_wp2_with (at_builtin; go_loud (refine wpList_append_own_at _ rfl _ _ 82 rfl (w.heap.size + 2) 2 i0 _ 1 8 Tryz.uIs hi0 hz0 hz1' hz2 rfl (by decide) _ 0 [] rfl (World.ownsRow_nil _ _ _ _) ⟨b, off, none⟩ n c (Z.map (Value.int .i64)) rfl (by simp [HN.out]) (argI_cells (HA.out.on HB0.out)) (ints_one Z) (by unfold maxLen; omega) (by omega) (by simp) ?_; intro v5 w5 hown5 hgrow5 _ hat5; have hO5 : OwnI w5 (w.heap.size + 2) v5 Z := (by show w5.ownsRow _ _ _ _ _ _; rw [HN.out]; simpa using hown5); have hs5 : Save _ w5 (fun _ => False) := (Save.refl _ (fun _ => False)).grown hgrow5 (fun k hk h => by simp [Value.ownBlock, Act.eval] at hk); have HB5 := hid (HB0.out.trans (hs5.below (B := w.heap.size) HB0.out.size (fun j h => h.elim))); obtain ⟨_, x0, x1, x2⟩ := HK.out.x.save hs5 (fun h => h); obtain ⟨_, r0, r1, r2⟩ := HK.out.r.save hs5 (fun h => h); obtain ⟨f0, f1, f2⟩ := HKf.out.save hs5 (by simp) (fun h => h); have g2 := (hs5.frozen (p := ⟨w.heap.size, 2, none⟩) (by show w.heap.size < _; simp; omega) (fun h => h)).trans HK.out.g2; obtain ⟨va, vc, rfl, _⟩ := hO5.form; have HO5 := hid hO5; clear hown5 hgrow5 hat5 hO5 hs5))
    rw [HN.out] at HO5 ⊢
    have hne : ¬ w.heap.size + 1 = w.heap.size := by omega
    have hne' : ¬ w.heap.size = w.heap.size + 1 := by omega
    refine bodyPost_ret (v := .agg #[.int .i64 lo, .int .i64 hi, .slice va n vc]) (by simp [results, Tryz.results170, go_sem, x0, x1, x2, g2, r0, r1, r2, f0, f1, f2, hne, hne']) rfl ?_
    have hs1 : Save w5 (w5.setCell ⟨w.heap.size, 2, none⟩ (.slice va n vc)) (fun j => j = w.heap.size) := Save.setCell (S := fun j => j = w.heap.size) (Save.refl w5 _) (p := ⟨w.heap.size, 2, none⟩) (fun _ => rfl) _
    have hs2 := set3 (w5.setCell ⟨w.heap.size, 2, none⟩ (.slice va n vc)) (w.heap.size + 1) lo hi (.slice va n vc)
    have hz5 := HB5.out.size
    have hz6 := hs1.size
    refine ⟨va, vc, rfl, ?_, ?_⟩
    · exact ((HO5.out.save hs1 (fun k e => by have := (HO5.out.lt k e).1; omega)).save hs2 (fun k e => by have := (HO5.out.lt k e).1; omega)).low (by omega)
    · exact (HB5.out.trans (hs1.below (B := w.heap.size) (by omega) (fun j e => by omega))).trans (hs2.below (B := w.heap.size) (by omega) (fun j e => by omega))
end Go.Proofs.YtbfkbgmkibkbnaaGreatDoor
namespace Go.Proofs.YtbfkbgmkibkbnaaGreatDoor
open Go.RowKit
set_option linter.unusedVariables false
set_option linter.unusedSimpArgs false
theorem argI_after {w w2 w3 : World} {a a2 : Option Addr} {Z Y : List Int} (hA : ArgI w a Z) (h2 : ArgI w2 a2 Y) (hl : Z.length = 0 → Y.length = 0) (hab : ∀ b off, a2 = some ⟨b, off, none⟩ → ∃ off', a = some ⟨b, off', none⟩) (hs : Save w2 w3 (fun j => w.heap.size ≤ j)) : ArgI w3 a2 Y := by
  rcases h2 with h | ⟨b, off, e, hb, hc⟩
  · exact Or.inl h
  · obtain ⟨off', e'⟩ := hab b off e
    rcases hA with h0 | ⟨b', off2, e2, hb2, _⟩
    · exact Or.inl (hl h0)
    · rw [e'] at e2
      injection e2 with e2
      injection e2 with e3 e4
      subst e3
      exact Or.inr ⟨b, off, e, Nat.lt_of_lt_of_le hb hs.size, fun i hi => (hs.cell (p := ⟨b, off + i, none⟩) hb (by show ¬ w.heap.size ≤ b; omega)).trans (hc i hi)⟩
set_option maxRecDepth 20000 in
set_option maxHeartbeats 4000000 in
theorem implDrop_any (lo hi : Int) (Z : List Int) (n : Nat) (hn : Z.length = n) (a : Option Addr) (c : Nat) (hS : SlV a n c) (hl : n ≤ 2000000) (tm : Int) (lo' hi' : Int) (Y : List Int) (hY : (if okK lo hi Z tm then (lo, hi, dropI hi tm Z) else (0, 0, [])) = (lo', hi', Y)) (w : World) (hA : ArgI w a Z) :
    Calls Tryz.prog 163 #[kpV lo hi a n c, .int .i64 tm] w fun e w' => ∃ va vc, e = .returned (kpV lo' hi' va Y.length vc) ∧ OwnI w' w.heap.size (.slice va Y.length vc) Y ∧ Below w.heap.size w w' := by
  have HN := hid hn
  have HU : Hid (∀ lo hi a n c, kpV lo hi a n c = .agg #[.int .i64 lo, .int .i64 hi, .slice a n c]) := fun _ _ _ _ _ => rfl
  have HB0 := hid (below2 w (kO lo hi a n c) (kO 0 0 none 0 0))
  have HK := hid (KBox2.new w lo hi a n c)
  have HA := hid hA
  have HKf := hid HK.out.fr
  have hWz := HK.out.sz
  unfold kO at HB0 HK HKf hWz
  rw [HU.out]
  clear hA
  rcases Bool.eq_false_or_eq_true (okK lo hi Z tm) with hok | hok
  · rw [hok, if_pos rfl] at hY
    injection hY with e1 hY
    injection hY with e2 e3
    obtain ⟨hk, ht⟩ := okK_yes hok
    have hl9 := krB_len hk
    have hh1 := (spanB_hi1 (krB_parts hk).1).1
    have HKr : Hid (∀ w, ArgI w a Z → Calls Tryz.prog 100 #[.agg #[.int .i64 lo, .int .i64 hi, .slice a n c]] w fun e w' => e = .returned (.bool true) ∧ Below w.heap.size w w') := fun w h => implKr_is lo hi Z true hk n hn a c (by omega) w h
    have HTm := hid (fun w => timeI_is tm true ht w)
    have HRc : Hid (∀ w, ArgI w a Z → Calls Tryz.prog 169 #[.agg #[.int .i64 lo, .int .i64 hi, .slice a n c], .int .i64 tm] w fun e w' => ∃ a' m, e = .returned (.slice a' m m) ∧ Y.length = m ∧ SlV a' m m ∧ ArgI w' a' Y ∧ (∀ b off, a' = some ⟨b, off, none⟩ → ∃ off', a = some ⟨b, off', none⟩) ∧ Below w.heap.size w w') := fun w h => by
      refine (recent_any lo hi Z n hn a c hS (by omega) tm (timeB_parts ht) (fun i hi' => krB_times hk i (by omega)) w h).mono ?_
      rintro e w' ⟨r, a', rfl, h1, h2, h3, h4, h5, h7, h6⟩
      have hd := drop_over hh1 (krB_parts hk).2.2 r (by omega) h2 (fun h => h3 (by omega))
      rw [hd, e3] at h5
      refine ⟨a', n - r, rfl, ?_, h4, h5, h7, h6⟩
      rw [← e3, ← hd, List.length_drop, hn]
    have hYl : Y.length ≤ 1000000 := by rw [← e3]; have := dropTo_len hi tm Z Z.length; unfold dropI; omega
    have HOw : Hid (∀ w a' m, Y.length = m → SlV a' m m → ArgI w a' Y → Calls Tryz.prog 170 #[.agg #[.int .i64 lo, .int .i64 hi, .slice a' m m]] w fun e w' => ∃ va vc, e = .returned (.agg #[.int .i64 lo', .int .i64 hi', .slice va Y.length vc]) ∧ OwnI w' w.heap.size (.slice va Y.length vc) Y ∧ Below w.heap.size w w') := fun w a' m h1 h2 h3 => by
      subst e1 e2
      exact own_any lo hi Y m h1 a' m h2 (by omega) w h3
    have HLen : Hid (Z.length = 0 → Y.length = 0) := fun h => by rw [← e3]; have := dropTo_len hi tm Z Z.length; unfold dropI; omega
    clear hok hk ht hn e1 e2 e3 hS hh1
    go_enter Tryz.func163, Tryz.ntmps163
    go_wp2_with (first | (go_at_call 100; refine (HKr.out _ (HA.out.on HB0.out)).mono ?_; rintro e w1 ⟨rfl, hb1⟩; have HB1 := hid (HB0.out.trans (hb1.mono HB0.out.size)); have HR1 := hid (HK.out.r.on hb1); have HF1 := hid (HKf.out.on hb1 (by omega)); have HX1 := hid (HK.out.x.on hb1); have hg1 := (hb1.frozen (p := ⟨w.heap.size, 2, none⟩) (by show w.heap.size < _; omega)).trans HK.out.g2; obtain ⟨hq1, x0, x1, x2⟩ := HX1.out; have hz1 := (by have := hb1.size; omega : w.heap.size + 2 ≤ w1.heap.size); clear hb1) | (go_at_call 95; refine (HTm.out _).mono ?_; rintro e w' ⟨rfl, rfl⟩) | (go_at_call 169; refine (HRc.out _ (HA.out.on HB1.out)).mono ?_; rintro e w2 ⟨a2, m2, rfl, hm2, hs2, ha2, hab, hb2⟩; have HM2 := hid hm2; have HS2 := hid hs2; have hst : Save w2 (w2.setCell ⟨w.heap.size, 2, none⟩ (.slice a2 m2 m2)) (fun j => w.heap.size ≤ j) := Save.setCell (S := fun j => w.heap.size ≤ j) (Save.refl w2 _) (p := ⟨w.heap.size, 2, none⟩) (fun _ => Nat.le_refl _) _; have HA2 := hid (argI_after HA.out ha2 HLen.out hab hst); have HB2 := hid (HB1.out.trans (hb2.mono HB1.out.size)); have HR2 := hid (HR1.out.on hb2); have HF2 := hid (HF1.out.on hb2 (by omega)); obtain ⟨hq2, y0, y1, y2⟩ := HX1.out.on hb2; have hg2 := (hb2.frozen (p := ⟨w.heap.size, 2, none⟩) hq1).trans hg1; have hz2 := hb2.size; have hst2 : Save w2 (w2.setCell ⟨w.heap.size, 2, none⟩ (.slice a2 m2 m2)) (fun j => j = w.heap.size) := Save.setCell (S := fun j => j = w.heap.size) (Save.refl w2 _) (p := ⟨w.heap.size, 2, none⟩) (fun _ => rfl) _; have HR3 := hid (HR2.out.save hst2 (by omega)); have HF3 := hid (HF2.out.save hst2 (by omega) (by omega)); have HB3 := hid (HB2.out.trans (hst.below (B := w.heap.size) (by omega) (fun j e => e))); have hz3 := hst.size; clear hb2 hm2 hs2 ha2 hab hst hst2) | (go_at_call 170; refine (HOw.out _ a2 m2 HM2.out HS2.out HA2.out).mono ?_; rintro e w4 ⟨va, vc, rfl, hO4, hb4⟩; have HO4 := hid hO4; have HB4 := hid (HB3.out.trans (hb4.mono HB3.out.size)); obtain ⟨_, r0, r1, r2⟩ := HR3.out.on hb4; obtain ⟨f0, f1, f2⟩ := HF3.out.on hb4 (by omega); have hz4 := hb4.size; clear hO4 hb4))
    refine bodyPost_ret (v := .agg #[.int .i64 lo', .int .i64 hi', .slice va Y.length vc]) (by simp [results, Tryz.results163, go_sem, r0, r1, r2, f0, f1, f2]) rfl ?_
    have hs2 := set3 w4 (w.heap.size + 1) lo' hi' (.slice va Y.length vc)
    have hz5 := HB4.out.size
    exact ⟨va, vc, rfl, (HO4.out.save hs2 (fun k e => by have := (HO4.out.lt k e).1; omega)).low (by omega), HB4.out.trans (hs2.below (B := w.heap.size) (by omega) (fun j e => by omega))⟩
  · rw [hok] at hY
    simp only [Bool.false_eq_true, if_false] at hY
    injection hY with e1 hY
    injection hY with e2 e3
    subst e1 e2 e3
    rcases okK_no hok with hk | ⟨hk, ht⟩
    · have HKr : Hid (∀ w, ArgI w a Z → Calls Tryz.prog 100 #[.agg #[.int .i64 lo, .int .i64 hi, .slice a n c]] w fun e w' => e = .returned (.bool false) ∧ Below w.heap.size w w') := fun w h => implKr_is lo hi Z false hk n hn a c (by omega) w h
      clear hok hk hn hS
      go_enter Tryz.func163, Tryz.ntmps163
      go_wp2_with (first | (go_at_call 100; refine (HKr.out _ (HA.out.on HB0.out)).mono ?_; rintro e w1 ⟨rfl, hb1⟩; have HB1 := hid (HB0.out.trans (hb1.mono HB0.out.size)); obtain ⟨_, r0, r1, r2⟩ := HK.out.r.on hb1; obtain ⟨f0, f1, f2⟩ := HKf.out.on hb1 (by omega); have hz1 := (by have := hb1.size; omega : w.heap.size + 2 ≤ w1.heap.size); clear hb1))
      refine bodyPost_ret (v := .agg #[.int .i64 0, .int .i64 0, .slice none 0 0]) (by simp [results, Tryz.results163, go_sem, r0, r1, r2, f0, f1, f2]) rfl ?_
      have hs2 := set3 w1 (w.heap.size + 1) 0 0 (.slice none 0 0)
      exact ⟨none, 0, rfl, OwnI.nil _ _, HB1.out.trans (hs2.below (B := w.heap.size) (by omega) (fun j e => by omega))⟩
    · have HKr : Hid (∀ w, ArgI w a Z → Calls Tryz.prog 100 #[.agg #[.int .i64 lo, .int .i64 hi, .slice a n c]] w fun e w' => e = .returned (.bool true) ∧ Below w.heap.size w w') := fun w h => implKr_is lo hi Z true hk n hn a c (by omega) w h
      have HTm := hid (fun w => timeI_is tm false ht w)
      clear hok hk hn ht hS
      go_enter Tryz.func163, Tryz.ntmps163
      go_wp2_with (first | (go_at_call 100; refine (HKr.out _ (HA.out.on HB0.out)).mono ?_; rintro e w1 ⟨rfl, hb1⟩; have HB1 := hid (HB0.out.trans (hb1.mono HB0.out.size)); obtain ⟨_, r0, r1, r2⟩ := HK.out.r.on hb1; obtain ⟨f0, f1, f2⟩ := HKf.out.on hb1 (by omega); have hz1 := (by have := hb1.size; omega : w.heap.size + 2 ≤ w1.heap.size); clear hb1) | (go_at_call 95; refine (HTm.out _).mono ?_; rintro e w' ⟨rfl, rfl⟩))
      refine bodyPost_ret (v := .agg #[.int .i64 0, .int .i64 0, .slice none 0 0]) (by simp [results, Tryz.results163, go_sem, r0, r1, r2, f0, f1, f2]) rfl ?_
      have hs2 := set3 w1 (w.heap.size + 1) 0 0 (.slice none 0 0)
      exact ⟨none, 0, rfl, OwnI.nil _ _, HB1.out.trans (hs2.below (B := w.heap.size) (by omega) (fun j e => by omega))⟩
end Go.Proofs.YtbfkbgmkibkbnaaGreatDoor
namespace Go.Proofs.YtbfkbgmkibkbnaaGreatDoor
open Go.RowKit
set_option linter.unusedVariables false
set_option linter.unusedSimpArgs false
theorem argI_cells' {W : World} {a : Option Addr} {n c : Nat} {Z : List Int} (hS : SlV a n c) (h : ArgI W a Z) : ∀ b, a = some b → ∀ j u, (Z.map (Value.int .i64))[j]? = some u → W.cell? (b.add j) = some u := by
  intro b e
  rcases hS with ⟨h1, _, _⟩ | ⟨b', off, h1, _, _⟩
  · rw [h1] at e
    cases e
  · rw [h1] at e h
    injection e with e
    subst e
    exact argI_cells h
theorem slV_none {a : Option Addr} {n c : Nat} (hS : SlV a n c) : a = none → n = 0 ∧ c = 0 := by
  intro e
  rcases hS with ⟨_, h1, h2⟩ | ⟨b', off, h1, _, _⟩
  · exact ⟨h1, h2⟩
  · rw [h1] at e
    cases e
/-- What stands behind the append. -/
theorem put_append {w w2 w5 : World} {lo hi tm : Int} {D Y : List Int} {a : Option Addr} {n c m : Nat} {v5 : Value} (o : Obj) (hY : D ++ [tm] = Y) (hm : D.length = m) (hB : Below w.heap.size w w2) (hX : KBox w2 w.heap.size lo hi a n c) (hR : KBox w2 (w.heap.size + 1) 0 0 none 0 0) (hF : KFree w2 (w.heap.size + 1)) (hg : w2.frozen? ⟨w.heap.size, 2, none⟩ = false)
    (hown : w5.ownsRow (w2.alloc o).heap.size 2 1 v5 (m + 1) (D.map (Value.int .i64) ++ [.int .i64 tm])) (hgr : (w2.alloc o).grownBy w5 none) :
    ∃ va vc, v5 = .slice va Y.length vc ∧ SlV va Y.length vc ∧ KBox w5 w.heap.size lo hi a n c ∧ w5.frozen? ⟨w.heap.size, 2, none⟩ = false ∧ ArgI (w5.setCell ⟨w.heap.size, 2, none⟩ (.slice va Y.length vc)) va Y ∧ KBox (w5.setCell ⟨w.heap.size, 2, none⟩ (.slice va Y.length vc)) (w.heap.size + 1) 0 0 none 0 0 ∧ KFree (w5.setCell ⟨w.heap.size, 2, none⟩ (.slice va Y.length vc)) (w.heap.size + 1) ∧ Below w.heap.size w (w5.setCell ⟨w.heap.size, 2, none⟩ (.slice va Y.length vc)) ∧ w.heap.size + 2 ≤ (w5.setCell ⟨w.heap.size, 2, none⟩ (.slice va Y.length vc)).heap.size := by
  have hq := hR.lt
  have hl : Y.length = m + 1 := by rw [← hY]; simp [hm]
  have hO5 : OwnI w5 (w2.alloc o).heap.size v5 Y := by
    show w5.ownsRow _ _ _ _ _ _
    rw [hl, ← hY]
    simpa using hown
  have hs5 : Save w2 w5 (fun _ => False) := ((Save.refl w2 (fun _ => False)).alloc o).grown hgr (fun k hk h => by cases hk)
  obtain ⟨va, vc, e, hA5, _, hF5⟩ := hO5.form
  subst e
  have hst : Save w5 (w5.setCell ⟨w.heap.size, 2, none⟩ (.slice va Y.length vc)) (fun j => j = w.heap.size) := Save.setCell (S := fun j => j = w.heap.size) (Save.refl w5 _) (p := ⟨w.heap.size, 2, none⟩) (fun _ => rfl) _
  have hz5 := hs5.size
  have hz6 := hst.size
  have hz2 : (w2.alloc o).heap.size = w2.heap.size + 1 := by simp
  refine ⟨va, vc, rfl, hO5.sl, hX.save hs5 (fun h => h), (hs5.frozen (p := ⟨w.heap.size, 2, none⟩) hX.lt (fun h => h)).trans hg, hA5.save hst (fun q e h => by have := hF5 q e; omega), (hR.save hs5 (fun h => h)).save hst (by omega), (hF.save hs5 hq (fun h => h)).save hst (by omega) (by omega), (hB.trans (hs5.below (B := w.heap.size) hB.size (fun j h => h.elim))).trans (hst.below (B := w.heap.size) (by omega) (fun j e => by omega)), by omega⟩
set_option maxRecDepth 20000 in
set_option maxHeartbeats 8000000 in
theorem implPut_any (lo hi : Int) (Z : List Int) (n : Nat) (hn : Z.length = n) (a : Option Addr) (c : Nat) (hS : SlV a n c) (hl : n ≤ 2000000) (tm : Int) (lo' hi' : Int) (Y : List Int) (hY : (if okK lo hi Z tm then (lo, hi, putI hi tm Z) else (0, 0, [])) = (lo', hi', Y)) (w : World) (hA : ArgI w a Z) :
    Calls Tryz.prog 162 #[kpV lo hi a n c, .int .i64 tm] w fun e w' => ∃ va vc, e = .returned (kpV lo' hi' va Y.length vc) ∧ OwnI w' w.heap.size (.slice va Y.length vc) Y ∧ Below w.heap.size w w' := by
  obtain ⟨i0, hi0, hz0, hz1', hz2⟩ := info_parts Tryz.infoI
  have HN := hid hn
  have HU : Hid (∀ lo hi a n c, kpV lo hi a n c = .agg #[.int .i64 lo, .int .i64 hi, .slice a n c]) := fun _ _ _ _ _ => rfl
  have HB0 := hid (below2 w (kO lo hi a n c) (kO 0 0 none 0 0))
  have HK := hid (KBox2.new w lo hi a n c)
  have HA := hid hA
  have HKf := hid HK.out.fr
  have hWz := HK.out.sz
  unfold kO at HB0 HK HKf hWz
  rw [HU.out]
  clear hA
  rcases Bool.eq_false_or_eq_true (okK lo hi Z tm) with hok | hok
  · rw [hok, if_pos rfl] at hY
    injection hY with e1 hY
    injection hY with e2 e3
    obtain ⟨hk, ht⟩ := okK_yes hok
    have hl9 := krB_len hk
    have hh1 := (spanB_hi1 (krB_parts hk).1).1
    have HKr : Hid (∀ w, ArgI w a Z → Calls Tryz.prog 100 #[.agg #[.int .i64 lo, .int .i64 hi, .slice a n c]] w fun e w' => e = .returned (.bool true) ∧ Below w.heap.size w w') := fun w h => implKr_is lo hi Z true hk n hn a c (by omega) w h
    have HTm := hid (fun w => timeI_is tm true ht w)
    have hYl : Y.length ≤ 1000000 + 1 := by rw [← e3]; have := dropTo_len hi tm Z Z.length; unfold putI dropI; split <;> simp <;> omega
    have hYm : Y.length ≤ 1000000 := by have h9 := krB_len hk; rw [← e3]; have := dropTo_len hi tm Z Z.length; unfold putI dropI; split <;> simp <;> omega
    have HOw : Hid (∀ w a' m c', Y.length = m → SlV a' m c' → ArgI w a' Y → Calls Tryz.prog 170 #[.agg #[.int .i64 lo, .int .i64 hi, .slice a' m c']] w fun e w' => ∃ va vc, e = .returned (.agg #[.int .i64 lo', .int .i64 hi', .slice va Y.length vc]) ∧ OwnI w' w.heap.size (.slice va Y.length vc) Y ∧ Below w.heap.size w w') := fun w a' m c' h1 h2 h3 => by
      subst e1 e2
      exact own_any lo hi Y m h1 a' c' h2 (by omega) w h3
    have hKR : ∀ w1 : World, True := fun _ => trivial
    rcases Bool.eq_false_or_eq_true (stayB hi tm Z) with hst | hst
    · have HTk : Hid (∀ w, ArgI w a Z → Calls Tryz.prog 168 #[.agg #[.int .i64 lo, .int .i64 hi, .slice a n c], .int .i64 tm] w fun e w' => e = .returned (.bool false) ∧ Below w.heap.size w w') := fun w h => takes_any lo hi hh1 Z n hn a c (by omega) tm false (by rw [hst]; rfl) w h
      have eY : Z = Y := by rw [← e3]; unfold putI; rw [hst]; rfl
      subst eY
      have HS := hid hS
      clear hok hk ht hn e1 e2 e3 hS hh1 hst hKR
      go_enter Tryz.func162, Tryz.ntmps162
      go_wp2_with (first | (go_at_call 100; refine (HKr.out _ (HA.out.on HB0.out)).mono ?_; rintro e w1 ⟨rfl, hb1⟩; have HB1 := hid (HB0.out.trans (hb1.mono HB0.out.size)); have HR1 := hid (HK.out.r.on hb1); have HF1 := hid (HKf.out.on hb1 (by omega)); have HX1 := hid (HK.out.x.on hb1); obtain ⟨hq1, x0, x1, x2⟩ := HX1.out; have hz1 := (by have := hb1.size; omega : w.heap.size + 2 ≤ w1.heap.size); clear hb1) | (go_at_call 95; refine (HTm.out _).mono ?_; rintro e w' ⟨rfl, rfl⟩) | (go_at_call 168; refine (HTk.out _ (HA.out.on HB1.out)).mono ?_; rintro e w2 ⟨rfl, hb2⟩; have HB2 := hid (HB1.out.trans (hb2.mono HB1.out.size)); have HR2 := hid (HR1.out.on hb2); have HF2 := hid (HF1.out.on hb2 (by omega)); clear x0 x1 x2; obtain ⟨hq2, x0, x1, x2⟩ := HX1.out.on hb2; have hz2' := hb2.size; clear hb2) | (go_at_call 170; refine (HOw.out _ a n c HN.out HS.out (HA.out.on HB2.out)).mono ?_; rintro e w4 ⟨va, vc, rfl, hO4, hb4⟩; have HO4 := hid hO4; have HB4 := hid (HB2.out.trans (hb4.mono HB2.out.size)); obtain ⟨_, r0, r1, r2⟩ := HR2.out.on hb4; obtain ⟨f0, f1, f2⟩ := HF2.out.on hb4 (by omega); have hz4 := hb4.size; clear hO4 hb4))
      refine bodyPost_ret (v := .agg #[.int .i64 lo', .int .i64 hi', .slice va Z.length vc]) (by simp [results, Tryz.results162, go_sem, r0, r1, r2, f0, f1, f2]) rfl ?_
      have hs2 := set3 w4 (w.heap.size + 1) lo' hi' (.slice va Z.length vc)
      have hz5 := HB4.out.size
      exact ⟨va, vc, rfl, (HO4.out.save hs2 (fun k e => by have := (HO4.out.lt k e).1; omega)).low (by omega), HB4.out.trans (hs2.below (B := w.heap.size) (by omega) (fun j e => by omega))⟩
    · have HTk : Hid (∀ w, ArgI w a Z → Calls Tryz.prog 168 #[.agg #[.int .i64 lo, .int .i64 hi, .slice a n c], .int .i64 tm] w fun e w' => e = .returned (.bool true) ∧ Below w.heap.size w w') := fun w h => takes_any lo hi hh1 Z n hn a c (by omega) tm true (by rw [hst]; rfl) w h
      obtain ⟨D, hD⟩ : ∃ D, dropI hi tm Z = D := ⟨_, rfl⟩
      have eY : D ++ [tm] = Y := by rw [← e3]; unfold putI; rw [hst, ← hD]; rfl
      have hDl : D.length ≤ 1000000 := by rw [← hD]; have := dropTo_len hi tm Z Z.length; unfold dropI; omega
      have HRc : Hid (∀ w, ArgI w a Z → Calls Tryz.prog 169 #[.agg #[.int .i64 lo, .int .i64 hi, .slice a n c], .int .i64 tm] w fun e w' => ∃ a' m, e = .returned (.slice a' m m) ∧ D.length = m ∧ SlV a' m m ∧ ArgI w' a' D ∧ Below w.heap.size w w') := fun w h => by
        refine (recent_any lo hi Z n hn a c hS (by omega) tm (timeB_parts ht) (fun i hi' => krB_times hk i (by omega)) w h).mono ?_
        rintro e w' ⟨r, a', rfl, h1, h2, h3, h4, h5, h7, h6⟩
        have hd := drop_over hh1 (krB_parts hk).2.2 r (by omega) h2 (fun h => h3 (by omega))
        rw [hd, hD] at h5
        refine ⟨a', n - r, rfl, ?_, h4, h5, h6⟩
        rw [← hD, ← hd, List.length_drop, hn]
      have HEY := hid eY
      clear hok hk ht hn e1 e2 e3 hS hh1 hst hKR hD eY
      go_enter Tryz.func162, Tryz.ntmps162
      go_wp2_with (first | (go_at_call 100; refine (HKr.out _ (HA.out.on HB0.out)).mono ?_; rintro e w1 ⟨rfl, hb1⟩; have HB1 := hid (HB0.out.trans (hb1.mono HB0.out.size)); have HR1 := hid (HK.out.r.on hb1); have HF1 := hid (HKf.out.on hb1 (by omega)); have HX1 := hid (HK.out.x.on hb1); have hg1 := (hb1.frozen (p := ⟨w.heap.size, 2, none⟩) (by show w.heap.size < _; omega)).trans HK.out.g2; obtain ⟨hq1, x0, x1, x2⟩ := HX1.out; have hz1 := (by have := hb1.size; omega : w.heap.size + 2 ≤ w1.heap.size); clear hb1) | (go_at_call 95; refine (HTm.out _).mono ?_; rintro e w' ⟨rfl, rfl⟩) | (go_at_call 168; refine (HTk.out _ (HA.out.on HB1.out)).mono ?_; rintro e w2 ⟨rfl, hb2⟩; have HB2 := hid (HB1.out.trans (hb2.mono HB1.out.size)); have HR2 := hid (HR1.out.on hb2); have HF2 := hid (HF1.out.on hb2 (by omega)); have HX2 := hid (HX1.out.on hb2); have hg2 := (hb2.frozen (p := ⟨w.heap.size, 2, none⟩) hq1).trans hg1; clear x0 x1 x2; obtain ⟨hq2, x0, x1, x2⟩ := HX2.out; have hz2' := hb2.size; clear hb2) | (go_at_call 169; refine (HRc.out _ (HA.out.on HB2.out)).mono ?_; rintro e w3 ⟨a2, m2, rfl, hm2, hs2, ha2, hb3⟩; have HM2 := hid hm2; have HS2 := hid hs2; have HA3 := hid (ha2.on (below_one' w3 (.cells #[.int .i64 tm] 2))); have HB3 := hid (HB2.out.trans (hb3.mono HB2.out.size)); have HR3 := hid (HR2.out.on hb3); have HF3 := hid (HF2.out.on hb3 (by omega)); have HX3 := hid (HX2.out.on hb3); have hg3 := (hb3.frozen (p := ⟨w.heap.size, 2, none⟩) hq2).trans hg2; clear x0 x1 x2; have hz3 := hb3.size; have hm3 : m2 ≤ 1000000 := (by omega); clear hb3 hm2 hs2 ha2) | (at_builtin; refine wpList_append_grows _ rfl _ _ 82 rfl 2 i0 _ 1 8 Tryz.uIs hi0 hz0 hz1' hz2 rfl (by decide) a2 m2 m2 (D.map (Value.int .i64)) rfl (slV_none HS2.out) (by simp [HM2.out]) (argI_cells' HS2.out HA3.out) ⟨w3.heap.size, 0, none⟩ 1 1 [.int .i64 tm] rfl rfl (cell_one' _ _ rfl _ _) (by simp [Value.oneCell']) (by omega) (by unfold maxLen; omega) (by omega) ?_; intro v5 w5 hown5 hgrow5; obtain ⟨va5, vc5, rfl, hsl5, hx5, hf5, ha5, hr5, hkf5, hb5, hz5⟩ := put_append _ HEY.out HM2.out HB3.out HX3.out HR3.out HF3.out hg3 hown5 hgrow5; have HSL5 := hid hsl5; have HA5 := hid ha5; have HR5 := hid hr5; have HF5 := hid hkf5; have HB5 := hid hb5; obtain ⟨hq5, x0, x1, x2⟩ := hx5; clear hown5 hgrow5 hsl5 ha5 hr5 hkf5 hb5 hg1 hg2 hg3) | (go_at_call 170; refine (HOw.out _ va5 Y.length vc5 rfl HSL5.out HA5.out).mono ?_; rintro e w4 ⟨va, vc, rfl, hO4, hb4⟩; have HO4 := hid hO4; have HB4 := hid (HB5.out.trans (hb4.mono HB5.out.size)); obtain ⟨_, r0, r1, r2⟩ := HR5.out.on hb4; obtain ⟨f0, f1, f2⟩ := HF5.out.on hb4 (by omega); have hz4 := hb4.size; clear hO4 hb4))
      refine bodyPost_ret (v := .agg #[.int .i64 lo', .int .i64 hi', .slice va Y.length vc]) (by simp [results, Tryz.results162, go_sem, r0, r1, r2, f0, f1, f2]) rfl ?_
      have hs2 := set3 w4 (w.heap.size + 1) lo' hi' (.slice va Y.length vc)
      have hz5' := HB4.out.size
      exact ⟨va, vc, rfl, (HO4.out.save hs2 (fun k e => by have := (HO4.out.lt k e).1; omega)).low (by omega), HB4.out.trans (hs2.below (B := w.heap.size) (by omega) (fun j e => by omega))⟩
  · rw [hok] at hY
    simp only [Bool.false_eq_true, if_false] at hY
    injection hY with e1 hY
    injection hY with e2 e3
    subst e1 e2 e3
    rcases okK_no hok with hk | ⟨hk, ht⟩
    · have HKr : Hid (∀ w, ArgI w a Z → Calls Tryz.prog 100 #[.agg #[.int .i64 lo, .int .i64 hi, .slice a n c]] w fun e w' => e = .returned (.bool false) ∧ Below w.heap.size w w') := fun w h => implKr_is lo hi Z false hk n hn a c (by omega) w h
      clear hok hk hn hS
      go_enter Tryz.func162, Tryz.ntmps162
      go_wp2_with (first | (go_at_call 100; refine (HKr.out _ (HA.out.on HB0.out)).mono ?_; rintro e w1 ⟨rfl, hb1⟩; have HB1 := hid (HB0.out.trans (hb1.mono HB0.out.size)); obtain ⟨_, r0, r1, r2⟩ := HK.out.r.on hb1; obtain ⟨f0, f1, f2⟩ := HKf.out.on hb1 (by omega); have hz1 := (by have := hb1.size; omega : w.heap.size + 2 ≤ w1.heap.size); clear hb1))
      refine bodyPost_ret (v := .agg #[.int .i64 0, .int .i64 0, .slice none 0 0]) (by simp [results, Tryz.results162, go_sem, r0, r1, r2, f0, f1, f2]) rfl ?_
      have hs2 := set3 w1 (w.heap.size + 1) 0 0 (.slice none 0 0)
      exact ⟨none, 0, rfl, OwnI.nil _ _, HB1.out.trans (hs2.below (B := w.heap.size) (by omega) (fun j e => by omega))⟩
    · have HKr : Hid (∀ w, ArgI w a Z → Calls Tryz.prog 100 #[.agg #[.int .i64 lo, .int .i64 hi, .slice a n c]] w fun e w' => e = .returned (.bool true) ∧ Below w.heap.size w w') := fun w h => implKr_is lo hi Z true hk n hn a c (by omega) w h
      have HTm := hid (fun w => timeI_is tm false ht w)
      clear hok hk hn ht hS
      go_enter Tryz.func162, Tryz.ntmps162
      go_wp2_with (first | (go_at_call 100; refine (HKr.out _ (HA.out.on HB0.out)).mono ?_; rintro e w1 ⟨rfl, hb1⟩; have HB1 := hid (HB0.out.trans (hb1.mono HB0.out.size)); obtain ⟨_, r0, r1, r2⟩ := HK.out.r.on hb1; obtain ⟨f0, f1, f2⟩ := HKf.out.on hb1 (by omega); have hz1 := (by have := hb1.size; omega : w.heap.size + 2 ≤ w1.heap.size); clear hb1) | (go_at_call 95; refine (HTm.out _).mono ?_; rintro e w' ⟨rfl, rfl⟩))
      refine bodyPost_ret (v := .agg #[.int .i64 0, .int .i64 0, .slice none 0 0]) (by simp [results, Tryz.results162, go_sem, r0, r1, r2, f0, f1, f2]) rfl ?_
      have hs2 := set3 w1 (w.heap.size + 1) 0 0 (.slice none 0 0)
      exact ⟨none, 0, rfl, OwnI.nil _ _, HB1.out.trans (hs2.below (B := w.heap.size) (by omega) (fun j e => by omega))⟩
end Go.Proofs.YtbfkbgmkibkbnaaGreatDoor
namespace Go.Proofs.YtbfkbgmkibkbnaaGreatDoor
open Go.RowKit
set_option linter.unusedVariables false
set_option linter.unusedSimpArgs false
theorem riseTo_of {Z : List Int} {m : Nat} (h : ∀ i, i < m → 0 ≤ zAt Z i ∧ zAt Z i ≤ 1000000 ∧ (0 < i → zAt Z (i - 1) < zAt Z i)) : riseTo Z m = true := by
  simp only [riseTo, List.all_eq_true, List.mem_range, Bool.and_eq_true, Bool.or_eq_true, beq_iff_eq, timeB, decide_eq_true_eq]
  intro i hi
  have := h i hi
  by_cases h0 : i = 0
  · exact ⟨⟨this.1, this.2.1⟩, Or.inl h0⟩
  · exact ⟨⟨this.1, this.2.1⟩, Or.inr (this.2.2 (by omega))⟩
/-- How many of the first times are over. -/
theorem over_some (hi tm : Int) (Z : List Int) : ∀ k, k ≤ Z.length → overTo hi tm Z k = true ∨ ∃ r, r < k ∧ overTo hi tm Z r = true ∧ overB hi tm (zAt Z r) = false := by
  intro k
  induction k with
  | zero => intro _; exact Or.inl rfl
  | succ k ih =>
    intro hk
    rcases ih (by omega) with h | ⟨r, h1, h2, h3⟩
    · rcases Bool.eq_false_or_eq_true (overB hi tm (zAt Z k)) with h' | h'
      · left
        have : overTo hi tm Z (k + 1) = (overTo hi tm Z k && overB hi tm (zAt Z k)) := by simp [overTo, List.range_succ]
        rw [this, h, h']; rfl
      · exact Or.inr ⟨k, by omega, h, h'⟩
    · exact Or.inr ⟨r, by omega, h2, h3⟩
theorem drop_some {hi tm : Int} {Z : List Int} (h1 : -1 ≤ hi) (hr : riseTo Z Z.length = true) : ∃ r, r ≤ Z.length ∧ dropI hi tm Z = Z.drop r ∧ (r < Z.length → overB hi tm (zAt Z r) = false) := by
  rcases over_some hi tm Z Z.length (Nat.le_refl _) with h | ⟨r, h2, h3, h4⟩
  · exact ⟨Z.length, Nat.le_refl _, (drop_over h1 hr _ (Nat.le_refl _) h (fun h => absurd h (by omega))).symm, fun h => absurd h (by omega)⟩
  · exact ⟨r, by omega, (drop_over h1 hr r (by omega) h3 (fun _ => h4)).symm, fun _ => h4⟩
theorem zAt_drop (Z : List Int) (r i : Nat) : zAt (Z.drop r) i = zAt Z (r + i) := by simp [zAt, List.getD]
theorem zAt_snoc (L : List Int) (t : Int) (i : Nat) : zAt (L ++ [t]) i = if i < L.length then zAt L i else if i = L.length then t else 0 := by
  unfold zAt
  by_cases h : i < L.length
  · rw [if_pos h]; simp [List.getD, List.getElem?_append_left h]
  · rw [if_neg h]
    by_cases e : i = L.length
    · subst e; simp [List.getD]
    · rw [if_neg e]
      simp [List.getD, List.getElem?_append_right (show L.length ≤ i by omega)]
      rw [List.getElem?_eq_none (by simp; omega)]
      rfl
theorem rise_drop {Z : List Int} (hr : riseTo Z Z.length = true) (r : Nat) : riseTo (Z.drop r) (Z.drop r).length = true := by
  refine riseTo_of (fun i hi => ?_)
  rw [List.length_drop] at hi
  have h := riseTo_at hr (r + i) (by omega)
  rw [zAt_drop]
  refine ⟨h.1, h.2.1, fun h0 => ?_⟩
  rw [zAt_drop, show r + (i - 1) = r + i - 1 by omega]
  exact h.2.2 (by omega)
theorem rise_gap {Z : List Int} (hr : riseTo Z Z.length = true) : ∀ j, j < Z.length → zAt Z 0 + j ≤ zAt Z j := by
  intro j
  induction j with
  | zero => intro _; simp
  | succ j ih =>
    intro hj
    have h := (riseTo_at hr (j + 1) hj).2.2 (by omega)
    have h2 := ih (by omega)
    simp at h
    push_cast
    omega
/-- What is dropped from a right Keep leaves a right one. -/
theorem kr_drop {lo hi : Int} {Z : List Int} (tm : Int) (h : krB lo hi Z = true) : krB lo hi (dropI hi tm Z) = true := by
  obtain ⟨h1, h2, h3⟩ := krB_parts h
  obtain ⟨r, hr, e, _⟩ := drop_some (tm := tm) (spanB_hi1 h1).1 h3
  rw [e]
  refine krB_yes lo hi _ h1 ?_ (rise_drop h3 r)
  rw [List.length_drop]
  omega
/-- What is put into a right Keep leaves a right one. -/
theorem kr_put {lo hi : Int} {Z : List Int} {tm : Int} (h : krB lo hi Z = true) (ht : timeB tm = true) : krB lo hi (putI hi tm Z) = true := by
  unfold putI
  split
  · exact h
  · next hst =>
    have hst' : stayB hi tm Z = false := by simpa using hst
    obtain ⟨h1, h2, h3⟩ := krB_parts h
    obtain ⟨t1, t2⟩ := timeB_parts ht
    obtain ⟨r, hr, e, hov⟩ := drop_some (tm := tm) (spanB_hi1 h1).1 h3
    rw [e]
    have hrd := rise_drop h3 r
    have hlen : (Z.drop r).length = Z.length - r := List.length_drop
    -- every time that is left is below tm
    have hlast : ∀ i, i < Z.length → zAt Z i < tm := by
      intro i hi'
      rcases stayB_no hst' with h0 | ⟨_, hl⟩
      · omega
      · have hg : ∀ j, i + j < Z.length → zAt Z i + j ≤ zAt Z (i + j) := by
          intro j
          induction j with
          | zero => intro _; simp
          | succ j ih =>
            intro hj
            have h5 := (riseTo_at h3 (i + j + 1) (by omega)).2.2 (by omega)
            have h6 := ih (by omega)
            rw [show i + (j + 1) = i + j + 1 by omega]
            simp at h5
            push_cast
            omega
        have h7 := hg (Z.length - 1 - i) (by omega)
        unfold lastI at hl
        rw [show i + (Z.length - 1 - i) = Z.length - 1 by omega] at h7
        omega
    refine krB_yes lo hi _ h1 ?_ ?_
    · rw [List.length_append, hlen]
      by_cases hrl : r < Z.length
      · have hov' := hov hrl
        rcases stayB_no hst' with h0 | ⟨hp, hl⟩
        · omega
        · have hne : hi ≠ -1 := by omega
          have hle : tm - zAt Z r ≤ hi := by
            simp only [overB, Bool.and_eq_false_iff, decide_eq_false_iff_not] at hov'
            rcases hov' with h5 | h5
            · exact absurd hne h5
            · omega
          have hg := rise_gap hrd (Z.length - r - 1) (by omega)
          rw [zAt_drop, zAt_drop, show r + (Z.length - r - 1) = Z.length - 1 by omega] at hg
          have h8 := hlast (Z.length - 1) (by omega)
          unfold mostI
          rw [if_neg (by omega)]
          simp only [Nat.add_zero] at hg
          simp
          omega
      · have : Z.length - r = 0 := by omega
        rw [this]
        have := spanB_hi1 h1
        unfold mostI
        simp
        split <;> omega
    · refine riseTo_of (fun i hi' => ?_)
      rw [List.length_append, hlen] at hi'
      simp at hi'
      rw [zAt_snoc, zAt_snoc, hlen]
      by_cases hc : i < Z.length - r
      · rw [if_pos hc, if_pos (by omega)]
        exact riseTo_at hrd i (by omega)
      · rw [if_neg hc, if_pos (by omega)]
        refine ⟨t1, t2, fun h0 => ?_⟩
        rw [if_pos (by omega), zAt_drop]
        exact hlast _ (by omega)
end Go.Proofs.YtbfkbgmkibkbnaaGreatDoor
namespace Go.Proofs.YtbfkbgmkibkbnaaGreatDoor
open Go.RowKit
set_option linter.unusedVariables false
set_option linter.unusedSimpArgs false
/-- A cell: a Keep, and Was. -/
structure Cl where
  lo : Int
  hi : Int
  ts : List Int
  was : Bool
def cl0 : Cl := ⟨0, 0, [], false⟩
def clAt (C : List Cl) (i : Nat) : Cl := C.getD i cl0
def ckV (lo hi : Int) (a : Option Addr) (n c : Nat) (was : Bool) : Value := .agg #[.int .i64 lo, .int .i64 hi, .slice a n c, .bool was]
/-- A cell that came in lies at a place. -/
def ArgC (w : World) (b o : Nat) (x : Cl) : Prop := w.cell? ⟨b, o, none⟩ = some (.int .i64 x.lo) ∧ w.cell? ⟨b, o + 1, none⟩ = some (.int .i64 x.hi) ∧ w.cell? ⟨b, o + 3, none⟩ = some (.bool x.was) ∧ ∃ a c, w.cell? ⟨b, o + 2, none⟩ = some (.slice a x.ts.length c) ∧ ArgI w a x.ts
def ArgCs (w : World) (a : Option Addr) (C : List Cl) : Prop := C.length = 0 ∨ ∃ b off, a = some ⟨b, off, none⟩ ∧ b < w.heap.size ∧ ∀ i, i < C.length → ArgC w b (off + i * 4) (clAt C i)
theorem ArgC.below {w w' : World} {b o : Nat} {x : Cl} {B : Nat} (h : ArgC w b o x) (hb : Below B w w') (hB : w.heap.size ≤ B) (hlt : b < w.heap.size) : ArgC w' b o x := by
  obtain ⟨h1, h2, h3, a, c, h4, h5⟩ := h
  exact ⟨(hb.cell (p := ⟨b, _, none⟩) (by show b < B; omega)).trans h1, (hb.cell (p := ⟨b, _, none⟩) (by show b < B; omega)).trans h2, (hb.cell (p := ⟨b, _, none⟩) (by show b < B; omega)).trans h3, a, c, (hb.cell (p := ⟨b, _, none⟩) (by show b < B; omega)).trans h4, h5.below hb hB⟩
theorem ArgCs.below {w w' : World} {a : Option Addr} {C : List Cl} {B : Nat} (h : ArgCs w a C) (hb : Below B w w') (hB : w.heap.size ≤ B) : ArgCs w' a C := by
  rcases h with h | ⟨b, off, e, hlt, hc⟩
  · exact Or.inl h
  · exact Or.inr ⟨b, off, e, Nat.lt_of_lt_of_le hlt hb.size, fun i hi => (hc i hi).below hb hB hlt⟩
/-- A cell of a row that the program has; its slice is one that looks as slices look. -/
def CkAt (w : World) (b o : Nat) (x : Cl) : Prop := w.cell? ⟨b, o, none⟩ = some (.int .i64 x.lo) ∧ w.cell? ⟨b, o + 1, none⟩ = some (.int .i64 x.hi) ∧ w.cell? ⟨b, o + 3, none⟩ = some (.bool x.was) ∧ ∃ a c, w.cell? ⟨b, o + 2, none⟩ = some (.slice a x.ts.length c) ∧ SlV a x.ts.length c ∧ ArgI w a x.ts
def CksAt (w : World) (a : Option Addr) (C : List Cl) : Prop := C.length = 0 ∨ ∃ b off, a = some ⟨b, off, none⟩ ∧ b < w.heap.size ∧ ∀ i, i < C.length → CkAt w b (off + i * 4) (clAt C i)
theorem CkAt.below {w w' : World} {b o : Nat} {x : Cl} {B : Nat} (h : CkAt w b o x) (hb : Below B w w') (hB : w.heap.size ≤ B) (hlt : b < w.heap.size) : CkAt w' b o x := by
  obtain ⟨h1, h2, h3, a, c, h4, h6, h5⟩ := h
  exact ⟨(hb.cell (p := ⟨b, _, none⟩) (by show b < B; omega)).trans h1, (hb.cell (p := ⟨b, _, none⟩) (by show b < B; omega)).trans h2, (hb.cell (p := ⟨b, _, none⟩) (by show b < B; omega)).trans h3, a, c, (hb.cell (p := ⟨b, _, none⟩) (by show b < B; omega)).trans h4, h6, h5.below hb hB⟩
theorem CksAt.below {w w' : World} {a : Option Addr} {C : List Cl} {B : Nat} (h : CksAt w a C) (hb : Below B w w') (hB : w.heap.size ≤ B) : CksAt w' a C := by
  rcases h with h | ⟨b, off, e, hlt, hc⟩
  · exact Or.inl h
  · exact Or.inr ⟨b, off, e, Nat.lt_of_lt_of_le hlt hb.size, fun i hi => (hc i hi).below hb hB hlt⟩
theorem CksAt.on {w w' : World} {a : Option Addr} {C : List Cl} (h : CksAt w a C) (hb : Below w.heap.size w w') : CksAt w' a C := h.below hb (Nat.le_refl _)
theorem CkAt.arg {w : World} {b o : Nat} {x : Cl} (h : CkAt w b o x) : ArgC w b o x := by
  obtain ⟨h1, h2, h3, a, c, h4, h6, h5⟩ := h
  exact ⟨h1, h2, h3, a, c, h4, h5⟩
def ClOk (x : Cl) : Prop := (-9223372036854775808 ≤ x.lo ∧ x.lo ≤ 9223372036854775807) ∧ (-9223372036854775808 ≤ x.hi ∧ x.hi ≤ 9223372036854775807) ∧ x.ts.length ≤ maxLen
/-- What is asked of a row of cells that came in. -/
structure InCs (w : World) (a : Option Addr) (C : List Cl) : Prop where
  arg : ArgCs w a C
  ok : ∀ i, i < C.length → ClOk (clAt C i)
  len : C.length ≤ maxLen
/-- How many times the first k cells have together. -/
def sumT (C : List Cl) : Nat → Nat
  | 0 => 0
  | k + 1 => sumT C k + (clAt C k).ts.length
theorem sumT_mono (C : List Cl) : ∀ {i k}, i ≤ k → sumT C i ≤ sumT C k := by
  intro i k h
  induction h with
  | refl => exact Nat.le_refl _
  | step _ ih => exact Nat.le_trans ih (Nat.le_add_right _ _)
theorem sumT_one (C : List Cl) {i k : Nat} (h : i < k) : (clAt C i).ts.length ≤ sumT C k := by
  have h1 := sumT_mono C (i := i + 1) (k := k) h
  have h2 : sumT C (i + 1) = sumT C i + (clAt C i).ts.length := rfl
  omega
set_option maxRecDepth 20000 in
set_option maxHeartbeats 1000000 in
theorem szCell_any (lo hi : Int) (n : Nat) (a : Option Addr) (cap : Nat) (was : Bool) (hl : n ≤ maxLen) (left : Int) (h1 : 0 ≤ left) (h2 : left ≤ 1048576) (w : World) :
    Calls Tryz.prog 102 #[ckV lo hi a n cap was, .int .i64 left] w fun e w' => ∃ r : Int, e = .returned (.int .i64 r) ∧ -1 ≤ r ∧ r ≤ 1048576 ∧ (0 ≤ r → r + n ≤ left) ∧ Below w.heap.size w w' := by
  unfold ckV
  have HB := hid (below_one' w (.cells #[.int .i64 lo, .int .i64 hi, .slice a n cap, .bool was] 145))
  have HC := hid (fun w => szKeep_any lo hi n a cap hl left h1 h2 w)
  unfold kpV at HC
  clear hl
  go_enter Tryz.func102, Tryz.ntmps102
  go_wp2_with (go_at_call 135; refine (HC.out _).mono ?_; rintro e w1 ⟨r, rfl, q1, q2, q3, hb⟩; have HQ := hid q3; have HB1 := hid (HB.out.trans (hb.mono (by simp))); clear q3 hb)
  · go_ret
    exact ⟨-1, rfl, by omega, by omega, by omega, HB1.out⟩
  · go_ret
    exact ⟨r, rfl, by omega, by omega, HQ.out, HB1.out⟩
set_option maxRecDepth 20000 in
set_option maxHeartbeats 1000000 in
theorem szCellS_any (C : List Cl) (a : Option Addr) (cap : Nat) (hs : ∀ i, i < C.length → ClOk (clAt C i)) (hl : C.length ≤ maxLen) (left : Int) (h1 : 0 ≤ left) (h2 : left ≤ 1048576) (w : World) (hA : ArgCs w a C) :
    Calls Tryz.prog 61 #[.slice a C.length cap, .int .i64 left] w fun e w' => ∃ r : Int, e = .returned (.int .i64 r) ∧ -1 ≤ r ∧ r ≤ 1048576 ∧ (0 ≤ r → C.length ≤ 1048576 ∧ sumT C C.length ≤ 1048576) ∧ Below w.heap.size w w' := by
  unfold maxLen at hl
  have HS := hid hs
  have HA := hid hA
  have HU : Hid (∀ lo hi a n c was, ckV lo hi a n c was = .agg #[.int .i64 lo, .int .i64 hi, .slice a n c, .bool was]) := fun _ _ _ _ _ _ => rfl
  clear hs hA
  by_cases h : left - (C.length : Int) < 0
  · go_enter Tryz.func61, Tryz.ntmps61
    go_wp2
    go_ret
    exact ⟨-1, rfl, by omega, by omega, by omega, Below.refl _ _⟩
  go_enter Tryz.func61, Tryz.ntmps61
  go_wp2_with fail
  go_loopw [1, 5] (fun l t wr => ∃ (k : Nat) (r : Int), k ≤ C.length ∧ t = .int .i64 k ∧ l = .int .i64 r ∧ 0 ≤ r ∧ r ≤ 1048576 ∧ r + sumT C k ≤ 1048576 ∧ Below w.heap.size w wr) (fun _ t _ => C.length - (intOf t).toNat)
  case atStart => exact ⟨0, _, Nat.zero_le _, rfl, rfl, by omega, by omega, by simp [sumT]; omega, Below.refl _ _⟩
  case round =>
    obtain ⟨k, r, hk, rfl, rfl, hr1, hr2, hr3, hbel⟩ := hrel
    have HS1 := hid (show sumT C (k + 1) = sumT C k + (clAt C k).ts.length from rfl)
    have HB := hid hbel
    have HR3 := hid hr3
    clear hbel hr3
    by_cases hlt : k < C.length
    · rcases HA.out with h0 | ⟨b, off, rfl, hb, hc⟩
      · omega
      · obtain ⟨c0, c1, c3, a', c', c2, hT⟩ := (hc k hlt).below HB.out (Nat.le_refl _) hb
        obtain ⟨_, _, ho2⟩ := HS.out k hlt
        have HC := hid (fun w => szCell_any (clAt C k).lo (clAt C k).hi (clAt C k).ts.length a' c' (clAt C k).was ho2 r hr1 hr2 w)
        rw [HU.out] at HC
        clear hc h hT ho2
        go_wp2_with (go_at_call 102; refine (HC.out _).mono ?_; rintro e w1 ⟨r', rfl, q1, q2, q3, hb1⟩; have HB1 : Hid (Below w.heap.size w w1) := HB.out.trans (hb1.mono HB.out.size); have HQ := hid q3; clear q3 hb1)
        · go_ret
          exact ⟨-1, rfl, by omega, by omega, by omega, HB1.out⟩
        · go_roundw
          case rel => exact ⟨k + 1, r', by omega, by go_num, rfl, by omega, q2, by have := HQ.out (by omega); have := HR3.out; rw [HS1.out]; push_cast; omega, HB1.out⟩
          case measure => simp [intOf]; omega
    · go_wp2_with fail
      go_ret
      have hk' : k = C.length := by omega
      exact ⟨r, rfl, by omega, by omega, fun _ => ⟨by omega, by subst hk'; have := HR3.out; omega⟩, HB.out⟩
/-- Cell j of a row of cells of which the first k are laid. -/
def rowC (C : List Cl) (V : Nat → Value) (z : Nat → Value) (k j : Nat) : Value := if j < k * 4 then (if j % 4 = 0 then .int .i64 (clAt C (j / 4)).lo else if j % 4 = 1 then .int .i64 (clAt C (j / 4)).hi else if j % 4 = 2 then V (j / 4) else .bool (clAt C (j / 4)).was) else z j
theorem rowC_step (C : List Cl) (V : Nat → Value) (z : Nat → Value) (k j : Nat) (v : Value) : rowC C (fun i => if i = k then v else V i) z (k + 1) j = if j = k * 4 + 3 then .bool (clAt C k).was else if j = k * 4 + 2 then v else if j = k * 4 + 1 then .int .i64 (clAt C k).hi else if j = k * 4 then .int .i64 (clAt C k).lo else rowC C V z k j := by
  unfold rowC
  by_cases h : j < k * 4
  · have e3 : ¬ j = k * 4 + 3 := by omega
    have e2 : ¬ j = k * 4 + 2 := by omega
    have e1 : ¬ j = k * 4 + 1 := by omega
    have e0 : ¬ j = k * 4 := by omega
    have h' : j < (k + 1) * 4 := by omega
    have hd : ¬ j / 4 = k := by omega
    simp only [e3, e2, e1, e0, h, h', hd, if_true, if_false]
  · by_cases h' : j < (k + 1) * 4
    · have hd : j / 4 = k := by omega
      have hj : j = k * 4 ∨ j = k * 4 + 1 ∨ j = k * 4 + 2 ∨ j = k * 4 + 3 := by omega
      rcases hj with e | e | e | e
      · have hm : j % 4 = 0 := by omega
        rw [if_pos h', if_pos hm, if_neg (by omega), if_neg (by omega), if_neg (by omega), if_pos e, hd]
      · have hm : j % 4 = 1 := by omega
        rw [if_pos h', if_neg (by omega), if_pos hm, if_neg (by omega), if_neg (by omega), if_pos e, hd]
      · have hm : j % 4 = 2 := by omega
        rw [if_pos h', if_neg (by omega), if_neg (by omega), if_pos hm, if_neg (by omega), if_pos e]
        simp [hd]
      · have hm : j % 4 = 3 := by omega
        rw [if_pos h', if_neg (by omega), if_neg (by omega), if_neg (by omega), if_pos e, hd]
    · rw [if_neg h', if_neg (by omega), if_neg (by omega), if_neg (by omega), if_neg (by omega), if_neg h]
def tmV (A : Nat → Nat) (C : List Cl) (i : Nat) : Value := .slice (some ⟨A i, 0, none⟩) (clAt C i).ts.length (clAt C i).ts.length
/-- A row of cells that is wholly owned: k of them are laid, their times each in a block of its own behind. -/
structure CkRow (w : World) (b : Nat) (C : List Cl) (A : Nat → Nat) (z : Nat → Value) (k : Nat) : Prop where
  row : w.rowIs b 96 (C.length * 4) (rowC C (tmV A C) z k)
  times : ∀ i, i < k → RowI w (A i) (clAt C i).ts
  above : ∀ i, i < k → b < A i
  rising : ∀ i j, i < j → j < k → A i < A j
theorem CkRow.at {w : World} {b : Nat} {C : List Cl} {A : Nat → Nat} {z : Nat → Value} (h : CkRow w b C A z C.length) (hl : ∀ i, i < C.length → (clAt C i).ts.length ≤ 1048576) : CksAt w (some ⟨b, 0, none⟩) C := by
  refine Or.inr ⟨b, 0, rfl, h.row.lt, fun i hi => ⟨?_, ?_, ?_, some ⟨A i, 0, none⟩, (clAt C i).ts.length, ?_, slV_made _ _ (hl i hi), RowI.arg (h.times i hi)⟩⟩
  · rw [show 0 + i * 4 = i * 4 by omega, h.row.cell (by omega)]
    unfold rowC
    rw [if_pos (by omega), if_pos (by omega), show i * 4 / 4 = i by omega]
  · rw [show 0 + i * 4 + 1 = i * 4 + 1 by omega, h.row.cell (by omega)]
    unfold rowC
    rw [if_pos (by omega), if_neg (by omega), if_pos (by omega), show (i * 4 + 1) / 4 = i by omega]
  · rw [show 0 + i * 4 + 3 = i * 4 + 3 by omega, h.row.cell (by omega)]
    unfold rowC
    rw [if_pos (by omega), if_neg (by omega), if_neg (by omega), if_neg (by omega), show (i * 4 + 3) / 4 = i by omega]
  · rw [show 0 + i * 4 + 2 = i * 4 + 2 by omega, h.row.cell (by omega)]
    unfold rowC
    rw [if_pos (by omega), if_neg (by omega), if_neg (by omega), if_pos (by omega), show (i * 4 + 2) / 4 = i by omega]
    rfl
theorem CkRow.below {w w' : World} {b : Nat} {C : List Cl} {A : Nat → Nat} {z : Nat → Value} {k : Nat} (h : CkRow w b C A z k) (hb : Below w.heap.size w w') : CkRow w' b C A z k :=
  ⟨h.row.of_block (hb.block b h.row.lt), fun i hi => (h.times i hi).below hb (World.rowIs.lt (h.times i hi)), h.above, h.rising⟩
theorem Tryz.uCks : Tryz.prog.underlying 32 = some (.slice 96) := by kernel_rfl
theorem Tryz.infoCk : (Tryz.prog.info? 96).map (fun i => (i.zero, i.size, i.bytes)) = some (some (.agg #[.int .i64 0, .int .i64 0, .slice none 0 0, .bool false]), 4, 48) := by kernel_rfl
theorem run_makeC (n : Nat) (hn : n ≤ 1048576) : ∃ zc, ∀ w : World, Sem.run Tryz.prog (Instr.makeSlice 32 (.int .i64 n) (.int .i64 n)) w = .ok (.slice (some ⟨w.heap.size, 0, none⟩) n n) (w.alloc (.cells (madeCells zc (n * 4)) 96)) := by
  obtain ⟨i0, hi, hz0, hz1, hz2⟩ := info_parts Tryz.infoCk
  refine ⟨(Value.agg #[.int .i64 0, .int .i64 0, .slice none 0 0, .bool false]).cells, fun w => ?_⟩
  have h := run_make (P := Tryz.prog) w 32 96 i0 _ Tryz.uCks hi hz0 .i64 .i64 n n (by omega) (Int.le_refl _) (by rw [hz2]; omega) (by omega)
  rw [hz1] at h
  simpa using h
set_option maxRecDepth 20000 in
set_option maxHeartbeats 1000000 in
theorem toCell_any (lo hi : Int) (Z : List Int) (a : Option Addr) (cap : Nat) (was : Bool) (hl : Z.length ≤ 1048576) (w : World) (hA : ArgI w a Z) :
    Calls Tryz.prog 106 #[ckV lo hi a Z.length cap was] w fun e w' => ∃ b, e = .returned (ckV lo hi (some ⟨b, 0, none⟩) Z.length Z.length was) ∧ w.heap.size ≤ b ∧ RowI w' b Z ∧ Below w.heap.size w w' := by
  have HC := hid (fun w h => toKeep_any lo hi Z a cap hl w h)
  unfold kpV at HC
  unfold ckV
  have HA := hid hA
  have HB0 := hid ((((Below.refl w.heap.size w).alloc (Nat.le_refl _) (.cells #[.int .i64 lo, .int .i64 hi, .slice a Z.length cap, .bool was] 145)).alloc (by simp) (.cells #[.int .i64 0, .int .i64 0, .slice none 0 0, .bool false] 96)).alloc (by simp; omega) (.cells #[.int .i64 0, .int .i64 0, .slice none 0 0, .bool false] 96))
  clear hA
  go_enter Tryz.func106, Tryz.ntmps106
  go_wp2_with (go_at_call 140; refine (HC.out _ (HA.out.below HB0.out (Nat.le_refl _))).mono ?_; rintro e w1 ⟨b1, rfl, hb1, hR, hb⟩; have HR := hid hR; have HB := hid (HB0.out.trans (hb.mono (by simp; omega))); obtain ⟨hc, hf⟩ := bcell hb; have hz : w.heap.size + 3 ≤ w1.heap.size := (by have := hb.size; simp at this; omega); have hb1' : w.heap.size + 3 ≤ b1 := (by simp at hb1; omega); clear hb hR hb1)
  refine bodyPost_ret (v := .agg #[.int .i64 lo, .int .i64 hi, .slice (some ⟨b1, 0, none⟩) Z.length Z.length, .bool was]) (by simp [results, Tryz.results106, go_sem, hc, hf, hz]) rfl ⟨b1, rfl, by omega, ?_, ?_⟩
  · repeat (refine World.rowIs.setOther ?_ (by show _ ≠ _; simp only; omega) _)
    exact HR.out
  · repeat (refine Below.setCell ?_ (by show _ ≤ _; simp only; omega) _)
    exact HB.out
set_option maxRecDepth 20000 in
set_option maxHeartbeats 2000000 in
theorem toCellS_any (C : List Cl) (a : Option Addr) (cap : Nat) (hl : C.length ≤ 1048576) (hl2 : ∀ i, i < C.length → (clAt C i).ts.length ≤ 1048576) (w : World) (hA : ArgCs w a C) :
    Calls Tryz.prog 65 #[.slice a C.length cap] w fun e w' => ∃ b A z, e = .returned (.slice (some ⟨b, 0, none⟩) C.length C.length) ∧ w.heap.size ≤ b ∧ CkRow w' b C A z C.length ∧ Below w.heap.size w w' := by
  obtain ⟨zc, hmk⟩ := run_makeC C.length hl
  have HA := hid hA
  have HL2 := hid hl2
  have HU : Hid (∀ lo hi a n c was, ckV lo hi a n c was = .agg #[.int .i64 lo, .int .i64 hi, .slice a n c, .bool was]) := fun _ _ _ _ _ _ => rfl
  clear hA hl2
  have hr0 : Hid (∃ z, (w.alloc (.cells (madeCells zc (C.length * 4)) 96)).rowIs w.heap.size 96 (C.length * 4) (rowC C (tmV (fun _ => 0) C) z 0)) := by
    refine ⟨fun j => (madeCells zc (C.length * 4)).getD j undef, ?_⟩
    have := World.rowIs_alloc w (madeCells zc (C.length * 4)) 96 (rowC C (tmV (fun _ => 0) C) (fun j => (madeCells zc (C.length * 4)).getD j undef) 0) (fun i hi => by simp [rowC, hi])
    rwa [size_madeCells] at this
  obtain ⟨z, hr0⟩ := hr0.out
  have HR0 := hid hr0
  clear hr0
  go_enter Tryz.func65, Tryz.ntmps65
  go_wp2_with fail
  go_loopw [4] (fun t wr => ∃ (k : Nat) (A : Nat → Nat), k ≤ C.length ∧ t = .int .i64 k ∧ CkRow wr w.heap.size C A z k ∧ Below w.heap.size w wr) (fun t _ => C.length - (intOf t).toNat)
  case atStart => exact ⟨0, fun _ => 0, Nat.zero_le _, rfl, ⟨HR0.out, fun i h => by omega, fun i h => by omega, fun i j _ h => by omega⟩, (Below.refl _ _).alloc (Nat.le_refl _) _⟩
  case round =>
    clear HR0 hmk
    obtain ⟨k, A, hk, rfl, hrow, hbel⟩ := hrel
    have HB := hid hbel
    have HRow := hid hrow
    have hsz := hrow.row.lt
    clear hrow hbel
    by_cases hlt : k < C.length
    · rcases HA.out with h0 | ⟨b, off, rfl, hb, hc⟩
      · omega
      · obtain ⟨c0, c1, c3, a', c', c2, hT⟩ := (hc k hlt).below HB.out (Nat.le_refl _) hb
        have HT := hid hT
        have hl3 := HL2.out k hlt
        have HC := hid (fun w h => toCell_any (clAt C k).lo (clAt C k).hi (clAt C k).ts a' c' (clAt C k).was hl3 w h)
        simp only [HU.out] at HC
        clear hc hT
        go_wp2_with (go_at_call 106; refine (HC.out _ HT.out).mono ?_; rintro e w1 ⟨b1, rfl, hb1, hR1, hbl1⟩; have HB1 := hid hbl1; have HE1 := hid (HRow.out.below hbl1); have HS1 := hid hR1; have hlt1 := World.rowIs.lt hR1; have d0 := HE1.out.row.cell (i := k * 4) (by omega); have d1 := HE1.out.row.cell (i := k * 4 + 1) (by omega); have d2 := HE1.out.row.cell (i := k * 4 + 2) (by omega); have d3 := HE1.out.row.cell (i := k * 4 + 3) (by omega); have f0 := HE1.out.row.frozen (k * 4); have f1 := HE1.out.row.frozen (k * 4 + 1); have f2 := HE1.out.row.frozen (k * 4 + 2); have f3 := HE1.out.row.frozen (k * 4 + 3); clear hR1 hbl1)
        go_roundw
        case rel =>
          refine ⟨k + 1, fun i => if i = k then b1 else A i, by omega, by go_num, ⟨?_, fun i hi => ?_, fun i hi => ?_, fun i j hij hj => ?_⟩, ((((HB.out.trans (HB1.out.mono HB.out.size)).setCell (Nat.le_refl _) _).setCell (Nat.le_refl _) _).setCell (Nat.le_refl _) _).setCell (Nat.le_refl _) _⟩
          · refine ((((HE1.out.row.set (k * 4) _).set (k * 4 + 1) _).set (k * 4 + 2) _).set (k * 4 + 3) _).congr (fun j hj => ?_)
            have := rowC_step C (tmV A C) z k j (.slice (some ⟨b1, 0, none⟩) (clAt C k).ts.length (clAt C k).ts.length)
            rw [← this]
            congr 1
            funext i
            unfold tmV
            by_cases e : i = k
            · subst e; simp
            · simp [e]
          · show RowI _ (if i = k then b1 else A i) _
            split
            · next e =>
              subst e
              repeat (refine World.rowIs.setOther ?_ (by show _ ≠ _; simp only; omega) _)
              exact HS1.out
            · have h1 := HRow.out.above i (by omega)
              repeat (refine World.rowIs.setOther ?_ (by show _ ≠ _; simp only; omega) _)
              exact HE1.out.times i (by omega)
          · show _ < (if i = k then b1 else A i)
            split
            · omega
            · exact HRow.out.above i (by omega)
          · show (if i = k then b1 else A i) < (if j = k then b1 else A j)
            have := World.rowIs.lt (HRow.out.times i (by omega))
            split
            · omega
            · split
              · omega
              · exact HRow.out.rising i j hij (by omega)
        case measure => simp [intOf]; omega
    · have hk' : k = C.length := by omega
      subst hk'
      go_wp2_with fail
      go_ret
      exact ⟨w.heap.size, A, z, rfl, Nat.le_refl _, HRow.out, HB.out⟩
theorem bbelow2' (w : World) (o1 o2 : Obj) : Below w.heap.size w ((w.alloc o1).alloc o2) := ((Below.refl w.heap.size w).alloc (Nat.le_refl _) o1).alloc (by simp) o2
theorem ArgI.drew {w : World} {a : Option Addr} {Z : List Int} (h : ArgI w a Z) : ArgI w.drew a Z := h
set_option maxRecDepth 20000 in
set_option maxHeartbeats 1000000 in
theorem eqCell_any (lo hi : Int) (Z : List Int) (n : Nat) (hn : Z.length = n) (a1 a2 : Option Addr) (c1 c2 : Nat) (was : Bool) (hl : n ≤ 2000000) (w : World) (h1 : ArgI w a1 Z) (h2 : ArgI w a2 Z) :
    Calls Tryz.prog 107 #[ckV lo hi a1 n c1 was, ckV lo hi a2 n c2 was] w fun e w' => e = .returned (.bool true) ∧ Below w.heap.size w w' := by
  have HC := hid (fun w h1 h2 => eqKeep_any lo hi Z n hn a1 a2 c1 c2 hl w h1 h2)
  unfold kpV at HC
  unfold ckV
  have HB0 := hid (bbelow2' w (.cells #[.int .i64 lo, .int .i64 hi, .slice a1 n c1, .bool was] 96) (.cells #[.int .i64 lo, .int .i64 hi, .slice a2 n c2, .bool was] 96))
  have H1 := hid (h1.on HB0.out)
  have H2 := hid (h2.on HB0.out)
  clear h1 h2 hn
  have e1 : (was != was) = false := by simp
  go_enter Tryz.func107, Tryz.ntmps107
  go_wp2_with (go_at_call 141; refine (HC.out _ H1.out H2.out).mono ?_; rintro e w1 ⟨rfl, hb⟩; have HB1 := hid (HB0.out.trans (hb.mono (by simp; omega))); obtain ⟨hc, hf⟩ := bcell hb; have hz : w.heap.size + 2 ≤ w1.heap.size := (by have := hb.size; simp at this; omega); clear hb)
  go_ret
  exact ⟨rfl, HB1.out⟩
set_option maxRecDepth 20000 in
set_option maxHeartbeats 2000000 in
theorem eqCellS_any (C : List Cl) (n : Nat) (hn : C.length = n) (a1 a2 : Option Addr) (c1 c2 : Nat) (hl : n ≤ 1048576) (hl2 : ∀ i, i < C.length → (clAt C i).ts.length ≤ 2000000) (w : World) (h1 : CksAt w a1 C) (h2 : CksAt w a2 C) :
    Calls Tryz.prog 67 #[.slice a1 n c1, .slice a2 n c2] w fun e w' => e = .returned (.bool true) ∧ Below w.heap.size w w' := by
  subst hn
  have H1 := hid h1
  have H2 := hid h2
  have HL2 := hid hl2
  have HU : Hid (∀ lo hi a n c was, ckV lo hi a n c was = .agg #[.int .i64 lo, .int .i64 hi, .slice a n c, .bool was]) := fun _ _ _ _ _ _ => rfl
  clear h1 h2 hl2
  go_enter Tryz.func67, Tryz.ntmps67
  go_wp2_with fail
  go_loopw [5] (fun t wr => ∃ k : Nat, k ≤ C.length ∧ t = .int .i64 k ∧ Below w.heap.size w wr) (fun t _ => C.length - (intOf t).toNat)
  case atStart => exact ⟨0, Nat.zero_le _, rfl, Below.refl _ _⟩
  case round =>
    obtain ⟨k, hk, rfl, hbel⟩ := hrel
    have HB := hid hbel
    have hsz := hbel.size
    clear hbel
    by_cases hlt : k < C.length
    · rcases H1.out with h0 | ⟨b1, o1, rfl, hb1, hc1⟩
      · omega
      rcases H2.out with h0 | ⟨b2, o2, rfl, hb2, hc2⟩
      · omega
      obtain ⟨d0, d1, d3, x1, y1, d2, _, hT1⟩ := (hc1 k hlt).below HB.out (Nat.le_refl _) hb1
      obtain ⟨e0, e1, e3, x2, y2, e2, _, hT2⟩ := (hc2 k hlt).below HB.out (Nat.le_refl _) hb2
      have HT1 := hid hT1
      have HT2 := hid hT2
      have hl3 := HL2.out k hlt
      have HC := hid (fun w h1 h2 => eqCell_any (clAt C k).lo (clAt C k).hi (clAt C k).ts _ rfl x1 x2 y1 y2 (clAt C k).was hl3 w h1 h2)
      simp only [HU.out] at HC
      clear hc1 hc2 hT1 hT2
      go_wp2_with fail
      go_region_with (go_at_call 107; refine (HC.out _ HT1.out.drew HT2.out.drew).mono ?_; rintro e w1 ⟨rfl, hb1'⟩; have HB1 : Hid (Below w.heap.size w w1) := HB.out.trans (Below.mono ⟨hb1'.os, hb1'.tape, hb1'.output, hb1'.size, hb1'.block⟩ hsz); clear hb1')
      all_goals
        go_wp2_with fail
        go_roundw
        case rel => exact ⟨k + 1, by omega, by go_num, HB1.out⟩
        case measure => simp [intOf]; omega
    · go_wp2_with fail
      go_ret
      exact ⟨rfl, HB.out⟩
end Go.Proofs.YtbfkbgmkibkbnaaGreatDoor
namespace Go.Proofs.YtbfkbgmkibkbnaaGreatDoor
open Go.RowKit
set_option linter.unusedVariables false
set_option linter.unusedSimpArgs false
/-- The node of the marks from k on, and a row of such. -/
def mkNd (k : Nat) : Nd := ⟨k, (k + 1 : Nat), (k + 2 : Nat), (k + 3 : Nat), (k + 4 : Nat), mtS (k + 5)⟩
def markN (k n : Nat) : List Nd := (List.range n).map fun i => mkNd (k + i * 6)
theorem markN_len (k n : Nat) : (markN k n).length = n := by simp [markN]
theorem markN_at (k n i : Nat) (h : i < n) : ndAt (markN k n) i = mkNd (k + i * 6) := by simp [ndAt, markN, h]
set_option maxRecDepth 20000 in
set_option maxHeartbeats 1000000 in
theorem toNodeS_row (f : List Nd) (a : Option Addr) (cap : Nat) (hl : f.length ≤ 1048576) (w : World) (hA : ArgN w a f) :
    Calls Tryz.prog 32 #[.slice a f.length cap] w fun e w' => ∃ b, e = .returned (.slice (some ⟨b, 0, none⟩) f.length f.length) ∧ w.heap.size ≤ b ∧ NodesAt w' b f ∧ (∃ z, w'.rowIs b 81 (f.length * 6) z) ∧ (∀ j, w'.frozen? ⟨b, j, none⟩ = false) ∧ Below w.heap.size w w' := by
  obtain ⟨zc, hmk⟩ := run_makeN f.length hl
  have HA := hid hA
  clear hA
  have hr0 : Hid (∃ z, (w.alloc (.cells (madeCells zc (f.length * 6)) 81)).rowIs w.heap.size 81 (f.length * 6) (rowF f z 0)) := by
    refine ⟨fun j => (madeCells zc (f.length * 6)).getD j undef, ?_⟩
    have := World.rowIs_alloc w (madeCells zc (f.length * 6)) 81 (rowF f (fun j => (madeCells zc (f.length * 6)).getD j undef) 0) (fun i hi => by simp [rowF, hi])
    rwa [size_madeCells] at this
  obtain ⟨z, hr0⟩ := hr0.out
  have HR0 := hid hr0
  clear hr0
  go_enter Tryz.func32, Tryz.ntmps32
  go_wp2_with fail
  go_loopw [4] (fun t wr => ∃ k : Nat, k ≤ f.length ∧ t = .int .i64 k ∧ wr.rowIs w.heap.size 81 (f.length * 6) (rowF f z k) ∧ Below w.heap.size w wr) (fun t _ => f.length - (intOf t).toNat)
  case atStart => exact ⟨0, Nat.zero_le _, rfl, HR0.out, (Below.refl _ _).alloc (Nat.le_refl _) _⟩
  case round =>
    clear HR0 hmk
    obtain ⟨k, hk, rfl, hrow, hbel⟩ := hrel
    have HB := hid hbel
    have HRow := hid hrow
    have hsz := hrow.lt
    clear hrow hbel
    by_cases hlt : k < f.length
    · rcases HA.out with h0 | ⟨b, off, rfl, hb, hc⟩
      · omega
      · obtain ⟨c0, c1, c2, c3, c4, c5⟩ := (hc k hlt).below HB.out hb
        clear hc
        go_wp2_with (go_at_call 74; refine (toNode_any (ndAt f k) _).mono ?_; rintro e w1 ⟨rfl, hb1⟩; have HB1 := hid hb1; have HR1 := hid (HRow.out.of_block (hb1.block _ hsz)); have d0 := HR1.out.cell (i := k * 6) (by omega); have d1 := HR1.out.cell (i := k * 6 + 1) (by omega); have d2 := HR1.out.cell (i := k * 6 + 2) (by omega); have d3 := HR1.out.cell (i := k * 6 + 3) (by omega); have d4 := HR1.out.cell (i := k * 6 + 4) (by omega); have d5 := HR1.out.cell (i := k * 6 + 5) (by omega); have f0 := HR1.out.frozen (k * 6); have f1 := HR1.out.frozen (k * 6 + 1); have f2 := HR1.out.frozen (k * 6 + 2); have f3 := HR1.out.frozen (k * 6 + 3); have f4 := HR1.out.frozen (k * 6 + 4); have f5 := HR1.out.frozen (k * 6 + 5); unfold ndV; clear hb1)
        go_roundw
        case rel => exact ⟨k + 1, by omega, by go_num, store_six HR1.out, ((((((HB.out.trans (HB1.out.mono HB.out.size)).setCell (Nat.le_refl _) _).setCell (Nat.le_refl _) _).setCell (Nat.le_refl _) _).setCell (Nat.le_refl _) _).setCell (Nat.le_refl _) _).setCell (Nat.le_refl _) _⟩
        case measure => simp [intOf]; omega
    · have hk' : k = f.length := by omega
      subst hk'
      go_wp2_with fail
      go_ret
      exact ⟨w.heap.size, rfl, Nat.le_refl _, row_nodes HRow.out, ⟨_, HRow.out⟩, fun j => HRow.out.frozen j, HB.out⟩
set_option maxRecDepth 20000 in
set_option maxHeartbeats 2000000 in
theorem markNodeS_row (n k0 b c : Nat) (z : Nat → Value) (hn : n ≤ 1048576) (hk0 : 0 < k0) (hk1 : k0 ≤ 1000) (w : World) (h : w.rowIs b 81 (n * 6) z) :
    Calls Tryz.prog 37 #[.slice (some ⟨b, 0, none⟩) n c, .int .i64 k0] w fun e w' => e = .returned (.int .i64 (k0 + n * 6 : Nat)) ∧ w'.rowIs b 81 (n * 6) (rowF (markN k0 n) z n) ∧ Save w w' (fun j => j = b) := by
  have HR0 := hid (h.congr (fun j hj => (show z j = rowF (markN k0 n) z 0 j by simp [rowF])))
  have hbl := h.lt
  clear h
  go_enter Tryz.func37, Tryz.ntmps37
  go_wp2_with fail
  go_loopw [1, 5] (fun t s wr => ∃ k : Nat, k ≤ n ∧ t = .int .i64 (k0 + k * 6 : Nat) ∧ s = .int .i64 k ∧ wr.rowIs b 81 (n * 6) (rowF (markN k0 n) z k) ∧ Save w wr (fun j => j = b)) (fun _ s _ => n - (intOf s).toNat)
  case atStart => exact ⟨0, Nat.zero_le _, rfl, rfl, HR0.out, Save.refl _ _⟩
  case round =>
    clear HR0
    obtain ⟨k, hk, rfl, rfl, hrow, hsv⟩ := hrel
    have HS := hid hsv
    have HRow := hid hrow
    have hsz := hrow.lt
    clear hrow hsv
    by_cases hlt : k < n
    · have d0 := HRow.out.cell (i := k * 6) (by omega)
      have d1 := HRow.out.cell (i := k * 6 + 1) (by omega)
      have d2 := HRow.out.cell (i := k * 6 + 2) (by omega)
      have d3 := HRow.out.cell (i := k * 6 + 3) (by omega)
      have d4 := HRow.out.cell (i := k * 6 + 4) (by omega)
      have f0 := HRow.out.frozen
      go_wp2_with fail
      refine (markText_int _ (k0 + k * 6 + 5) (by push_cast; omega) (by omega) (by omega) _).mono ?_
      rintro e w1 ⟨rfl, hb1⟩
      have HR1 := hid ((((((HRow.out.set (k * 6) _).set (k * 6 + 1) _).set (k * 6 + 2) _).set (k * 6 + 3) _).set (k * 6 + 4) _).of_block (hb1.block b (by simpa using hsz)))
      have HS1 := hid ((((((HS.out.setCell (p := ⟨b, k * 6, none⟩) (fun _ => rfl) _).setCell (p := ⟨b, k * 6 + 1, none⟩) (fun _ => rfl) _).setCell (p := ⟨b, k * 6 + 2, none⟩) (fun _ => rfl) _).setCell (p := ⟨b, k * 6 + 3, none⟩) (fun _ => rfl) _).setCell (p := ⟨b, k * 6 + 4, none⟩) (fun _ => rfl) _).trans (Save.of_below hb1 _ (fun j h1 h2 => absurd h1 (by omega))))
      have d5 := HR1.out.cell (i := k * 6 + 5) (by omega)
      have f5 := HR1.out.frozen (k * 6 + 5)
      clear hb1 d0 d1 d2 d3 d4 f0
      go_wp2_with fail
      go_roundw
      case rel =>
        refine ⟨k + 1, by omega, by simp; omega, by go_num, (HR1.out.set (k * 6 + 5) _).congr (fun j hj => ?_), HS1.out.setCell (p := ⟨b, k * 6 + 5, none⟩) (fun _ => rfl) _⟩
        rw [rowF_step, markN_at _ _ _ hlt]
        simp [mkNd, Int.add_assoc, Nd.k, Nd.a, Nd.b, Nd.lo, Nd.hi, Nd.nm]
      case measure => simp [intOf]; omega
    · have hk' : k = n := by omega
      subst hk'
      go_wp2_with fail
      go_ret
      exact ⟨rfl, HRow.out, HS.out⟩
theorem markNodeS_nil (a : Option Addr) (k0 c : Nat) (w : World) :
    Calls Tryz.prog 37 #[.slice a 0 c, .int .i64 k0] w fun e w' => e = .returned (.int .i64 k0) ∧ w = w' := by
  go_enter Tryz.func37, Tryz.ntmps37
  go_wp2_with fail
  go_loopw [1, 5] (fun t s wr => t = .int .i64 k0 ∧ s = .int .i64 0 ∧ w = wr) (fun _ _ _ => 0)
  case atStart => exact ⟨rfl, rfl, rfl⟩
  case round =>
    obtain ⟨rfl, rfl, rfl⟩ := hrel
    go_wp2_with fail
    go_ret
    exact ⟨rfl, rfl⟩
end Go.Proofs.YtbfkbgmkibkbnaaGreatDoor
