/-
  The program's takesTime, ownKeep, KeepDrop and KeepPut, by their contracts.
-/
import Derived.Test.YtlikkjppknbnfaaKpH
namespace Go.Proofs.Ytlikkjppknbnfaa
open Go.RowKit
set_option linter.unusedVariables false
set_option linter.unusedSimpArgs false
set_option maxRecDepth 20000 in
set_option maxHeartbeats 2000000 in
theorem takes_any (lo hi : Int) (h1 : -1 ≤ hi) (Z : List Int) (n : Nat) (hn : Z.length = n) (a : Option Addr) (c : Nat) (hl : n ≤ 1000000) (tm : Int) (v : Bool) (hv : stayB hi tm Z = !v) (w : World) (hA : ArgI w a Z) :
    Calls Try.prog 34 #[kpV lo hi a n c, .int .i64 tm] w fun e w' => e = .returned (.bool v) ∧ Below w.heap.size w w' := by
  have HN := hid hn
  unfold kpV
  by_cases h0 : n = 0
  · subst h0
    have HV : Hid (v = true) := by
      show v = true
      have : stayB hi tm Z = false := by simp [stayB, hn]
      rw [this] at hv
      simpa using hv
    clear hv hn hA
    go_enter Try.func34, Try.ntmps34
    go_wp2_with fail
    go_ret
    exact ⟨ret_bool HV.out.symm, below_one' _ _⟩
  obtain ⟨m, rfl⟩ : ∃ m, n = m + 1 := ⟨n - 1, by omega⟩
  rcases hA with hA | ⟨b, off, rfl, hb, hc⟩
  · omega
  have d0 := hc m (by omega)
  have HV : Hid (v = (decide (hi ≠ -1) && decide (zAt Z m < tm))) := by
    show v = _
    have e : stayB hi tm Z = (decide (hi < 0) || decide (tm ≤ zAt Z m)) := by simp [stayB, hn, lastI_at hn]
    rw [e] at hv
    have : v = !(decide (hi < 0) || decide (tm ≤ zAt Z m)) := by rw [hv]; simp
    rw [this]
    by_cases h2 : hi = -1
    · simp [h2]
    · have h3 : ¬ hi < 0 := by omega
      by_cases h4 : zAt Z m < tm
      · simp [h2, h3, h4] <;> omega
      · simp [h2, h3, h4] <;> omega
  clear hv hn hc h0
  generalize zAt Z m = U at *
  by_cases h2 : hi = -1
  · subst h2
    go_enter Try.func34, Try.ntmps34
    go_wp2_with fail
    go_ret
    exact ⟨ret_bool (by rw [HV.out]; rfl), below_one' _ _⟩
  · have h2' : (hi != -1) = true := by simpa using h2
    by_cases h4 : U < tm
    all_goals
      go_enter Try.func34, Try.ntmps34
      go_wp2_with fail
      go_ret
      exact ⟨ret_bool (by rw [HV.out]; simp [h2]; omega), below_one' _ _⟩
theorem argI_cells {W : World} {b off : Nat} {Z : List Int} (h : ArgI W (some ⟨b, off, none⟩) Z) : ∀ j u, (Z.map (Value.int .i64))[j]? = some u → W.cell? ((⟨b, off, none⟩ : Addr).add j) = some u := by
  rcases h with h | ⟨b', off', e, hb, hc⟩
  · intro j u hu
    rw [List.eq_nil_of_length_eq_zero h] at hu
    simp at hu
  · injection e with e
    injection e with e3 e4
    subst e3 e4
    exact ints_cells hc
set_option maxRecDepth 20000 in
set_option maxHeartbeats 2000000 in
theorem own_any (lo hi : Int) (Z : List Int) (n : Nat) (hn : Z.length = n) (a : Option Addr) (c : Nat) (hS : SlV a n c) (hl : n ≤ 1000000) (w : World) (hA : ArgI w a Z) :
    Calls Try.prog 36 #[.agg #[.int .i64 lo, .int .i64 hi, .slice a n c]] w fun e w' => ∃ va vc, e = .returned (.agg #[.int .i64 lo, .int .i64 hi, .slice va Z.length vc]) ∧ OwnI w' w.heap.size (.slice va Z.length vc) Z ∧ Below w.heap.size w w' := by
  obtain ⟨i0, hi0, hz0, hz1', hz2⟩ := info_parts Try.infoI
  have HB0 := hid (below2 w (kO lo hi a n c) (kO 0 0 none 0 0))
  have HK := hid (KBox2.new w lo hi a n c)
  have HKf := hid HK.out.fr
  have hWz := HK.out.sz
  have HN := hid hn
  unfold kO at HB0 HK HKf hWz
  rcases hS with ⟨rfl, rfl, rfl⟩ | ⟨b, off, rfl, hc1, hc2⟩
  · have HZ : Hid (Z = []) := List.eq_nil_of_length_eq_zero hn
    clear hn hA
    go_enter Try.func36, Try.ntmps36
    go_wp2_with fail
    obtain ⟨_, r0, r1, r2⟩ := HK.out.r
    obtain ⟨f0, f1, f2⟩ := HKf.out
    refine bodyPost_ret (v := .agg #[.int .i64 lo, .int .i64 hi, .slice none 0 0]) (by simp [results, Try.results36, go_sem, r0, r1, r2, f0, f1, f2]) rfl ?_
    rw [HZ.out]
    exact ⟨none, 0, rfl, OwnI.nil _ _, below2 w _ _⟩
  · have HA := hid hA
    clear hn hA
    go_enter Try.func36, Try.ntmps36
    go_wp2_with (at_builtin; go_loud (refine wpList_append_own_at _ rfl _ _ 23 rfl (w.heap.size + 2) 2 i0 _ 1 8 Try.uIs hi0 hz0 hz1' hz2 rfl (by decide) _ 0 [] rfl (World.ownsRow_nil _ _ _ _) ⟨b, off, none⟩ n c (Z.map (Value.int .i64)) rfl (by simp [HN.out]) (argI_cells (HA.out.on HB0.out)) (ints_one Z) (by unfold maxLen; omega) (by omega) (by simp) ?_; intro v5 w5 hown5 hgrow5 _ hat5; have hO5 : OwnI w5 (w.heap.size + 2) v5 Z := (by show w5.ownsRow _ _ _ _ _ _; rw [HN.out]; simpa using hown5); have hs5 : Save _ w5 (fun _ => False) := (Save.refl _ (fun _ => False)).grown hgrow5 (fun k hk h => by simp [Value.ownBlock, Act.eval] at hk); have HB5 := hid (HB0.out.trans (hs5.below (B := w.heap.size) HB0.out.size (fun j h => h.elim))); obtain ⟨_, x0, x1, x2⟩ := HK.out.x.save hs5 (fun h => h); obtain ⟨_, r0, r1, r2⟩ := HK.out.r.save hs5 (fun h => h); obtain ⟨f0, f1, f2⟩ := HKf.out.save hs5 (by simp) (fun h => h); have g2 := (hs5.frozen (p := ⟨w.heap.size, 2, none⟩) (by show w.heap.size < _; simp; omega) (fun h => h)).trans HK.out.g2; obtain ⟨va, vc, rfl, _⟩ := hO5.form; have HO5 := hid hO5; clear hown5 hgrow5 hat5 hO5 hs5))
    rw [HN.out] at HO5 ⊢
    have hne : ¬ w.heap.size + 1 = w.heap.size := by omega
    have hne' : ¬ w.heap.size = w.heap.size + 1 := by omega
    refine bodyPost_ret (v := .agg #[.int .i64 lo, .int .i64 hi, .slice va n vc]) (by simp [results, Try.results36, go_sem, x0, x1, x2, g2, r0, r1, r2, f0, f1, f2, hne, hne']) rfl ?_
    have hs1 : Save w5 (w5.setCell ⟨w.heap.size, 2, none⟩ (.slice va n vc)) (fun j => j = w.heap.size) := Save.setCell (S := fun j => j = w.heap.size) (Save.refl w5 _) (p := ⟨w.heap.size, 2, none⟩) (fun _ => rfl) _
    have hs2 := set3 (w5.setCell ⟨w.heap.size, 2, none⟩ (.slice va n vc)) (w.heap.size + 1) lo hi (.slice va n vc)
    have hz5 := HB5.out.size
    have hz6 := hs1.size
    refine ⟨va, vc, rfl, ?_, ?_⟩
    · exact ((HO5.out.save hs1 (fun k e => by have := (HO5.out.lt k e).1; omega)).save hs2 (fun k e => by have := (HO5.out.lt k e).1; omega)).low (by omega)
    · exact (HB5.out.trans (hs1.below (B := w.heap.size) (by omega) (fun j e => by omega))).trans (hs2.below (B := w.heap.size) (by omega) (fun j e => by omega))
end Go.Proofs.Ytlikkjppknbnfaa
