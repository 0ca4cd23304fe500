/-
  The model's l05Put, KeepPut and KeepDrop, by their contracts.
-/
import Derived.Test.YtbfkbgmkibkbnaaGreatDoorPa09
namespace Go.Proofs.YtbfkbgmkibkbnaaGreatDoor
open Go.RowKit
set_option linter.unusedVariables false
set_option linter.unusedSimpArgs false
def lastI (Z : List Int) : Int := zAt Z (Z.length - 1)
def stayB (hi tm : Int) (Z : List Int) : Bool := decide (0 < Z.length) && (decide (hi < 0) || decide (tm ≤ lastI Z))
def putI (hi tm : Int) (Z : List Int) : List Int := if stayB hi tm Z then Z else dropI hi tm Z ++ [tm]
theorem stayB_yes {hi tm : Int} {Z : List Int} (h : stayB hi tm Z = true) : 0 < Z.length ∧ (hi < 0 ∨ tm ≤ lastI Z) := by simpa [stayB] using h
theorem stayB_no {hi tm : Int} {Z : List Int} (h : stayB hi tm Z = false) : Z.length = 0 ∨ (0 ≤ hi ∧ lastI Z < tm) := by
  by_cases h0 : Z.length = 0
  · exact Or.inl h0
  · right
    have h1 : 0 < Z.length := by omega
    simp only [stayB, h1, decide_true, Bool.true_and, Bool.or_eq_false_iff, decide_eq_false_iff_not] at h
    omega
theorem lastI_at {Z : List Int} {m : Nat} (h : Z.length = m + 1) : lastI Z = zAt Z m := by simp [lastI, h]
theorem ints_one (Z : List Int) : ∀ u ∈ Z.map (Value.int .i64), u.oneCell' = true := by
  intro u hu
  obtain ⟨b, _, rfl⟩ := List.mem_map.1 hu
  rfl
theorem ints_cells {W : World} {b off : Nat} {Z : List Int} (h : ∀ j, j < Z.length → W.cell? ⟨b, off + j, none⟩ = some (.int .i64 (zAt Z j))) : ∀ j u, (Z.map (Value.int .i64))[j]? = some u → W.cell? ((⟨b, off, none⟩ : Addr).add j) = some u := by
  intro j u hu
  have hj : j < Z.length := by simpa using (List.getElem?_eq_some_iff.1 hu).1
  rw [Addr.add_lit, h j hj]
  simp [hj] at hu
  simp [zAt, List.getD, hj, hu]
theorem own_none (w : World) (base : Nat) (hb : base ≤ w.heap.size) : OwnI (w.alloc (.cells #[] 2)) base (.slice (some ⟨w.heap.size, 0, none⟩) 0 0) [] :=
  World.ownsRow_made w #[] 0 hb (by simp [maxLen]) (by simp)
/-- Two boxes of a call over Keeps: the argument's, and the answer's. -/
structure KBox2 (W : World) (q : Nat) (lo hi : Int) (a : Option Addr) (n c : Nat) : Prop where
  sz : W.heap.size = q + 2
  x : KBox W q lo hi a n c
  r : KBox W (q + 1) 0 0 none 0 0
  f0 : W.frozen? ⟨q + 1, 0, none⟩ = false
  f1 : W.frozen? ⟨q + 1, 1, none⟩ = false
  f2 : W.frozen? ⟨q + 1, 2, none⟩ = false
  g2 : W.frozen? ⟨q, 2, none⟩ = false
theorem KBox2.new (w : World) (lo hi : Int) (a : Option Addr) (n c : Nat) : KBox2 ((w.alloc (kO lo hi a n c)).alloc (kO 0 0 none 0 0)) w.heap.size lo hi a n c := by
  unfold kO
  have e1 : w.heap.size + 1 = (w.alloc (.cells #[.int .i64 lo, .int .i64 hi, .slice a n c] 94)).heap.size := by simp
  refine ⟨by simp, ⟨by simp; omega, by simp [go_sem], by simp [go_sem], by simp [go_sem]⟩, ?_, ?_, ?_, ?_, by simp [go_sem]⟩
  · rw [e1]; exact KBox.new _ 0 0 none 0 0 94
  · rw [e1]; simp [go_sem]
  · rw [e1]; simp [go_sem]
  · rw [e1]; simp [go_sem]
theorem below2 (w : World) (o1 o2 : Obj) : Below w.heap.size w ((w.alloc o1).alloc o2) := ((Below.refl w.heap.size w).alloc (Nat.le_refl _) o1).alloc (by simp) o2
structure KFree (W : World) (q : Nat) : Prop where
  f0 : W.frozen? ⟨q, 0, none⟩ = false
  f1 : W.frozen? ⟨q, 1, none⟩ = false
  f2 : W.frozen? ⟨q, 2, none⟩ = false
theorem KFree.save {W W' : World} {q : Nat} {S : Nat → Prop} (h : KFree W q) (hs : Save W W' S) (hq : q < W.heap.size) (h1 : ¬ S q) : KFree W' q :=
  ⟨(hs.frozen (p := ⟨q, _, none⟩) hq h1).trans h.f0, (hs.frozen (p := ⟨q, _, none⟩) hq h1).trans h.f1, (hs.frozen (p := ⟨q, _, none⟩) hq h1).trans h.f2⟩
theorem KFree.on {W W' : World} {q : Nat} (h : KFree W q) (hb : Below W.heap.size W W') (hq : q < W.heap.size) : KFree W' q :=
  h.save (S := fun _ => False) (Save.of_below hb _ (fun j h1 h2 => absurd h1 (by omega))) hq (fun h => h)
theorem KBox2.fr {W : World} {q : Nat} {lo hi : Int} {a : Option Addr} {n c : Nat} (h : KBox2 W q lo hi a n c) : KFree W (q + 1) := ⟨h.f0, h.f1, h.f2⟩
theorem cell_one' (w : World) (q : Nat) (hq : w.heap.size = q) (x : Value) (t : TypeId) : ∀ j u, [x][j]? = some u → (w.alloc (.cells #[x] t)).cell? ((⟨q, 0, none⟩ : Addr).add j) = some u := by
  subst hq; exact cell_one w x t
/-- What stands when the times are appended to. -/
structure PutCells (w5 : World) (p q : Nat) (lo hi : Int) (v : Value) : Prop where
  c0 : w5.cell? ⟨p, 0, none⟩ = some (.int .i64 lo)
  c1 : w5.cell? ⟨p, 1, none⟩ = some (.int .i64 hi)
  c2 : w5.cell? ⟨p, 2, none⟩ = some v
  g2 : w5.frozen? ⟨p, 2, none⟩ = false
  r0 : w5.cell? ⟨q, 0, none⟩ = some (.int .i64 0)
  r1 : w5.cell? ⟨q, 1, none⟩ = some (.int .i64 0)
  r2 : w5.cell? ⟨q, 2, none⟩ = some (.slice none 0 0)
  f0 : w5.frozen? ⟨q, 0, none⟩ = false
  f1 : w5.frozen? ⟨q, 1, none⟩ = false
  f2 : w5.frozen? ⟨q, 2, none⟩ = false
structure PutDone (w w1 w5 : World) (lo hi tm : Int) (D : List Int) (va : Option Addr) (vc : Nat) (v5 : Value) : Prop where
  cells : PutCells w5 w1.heap.size (w.heap.size + 1) lo hi (.slice va D.length vc)
  own : OwnI w5 (w.heap.size + 2) v5 (D ++ [tm])
  low : ∀ k, v5.ownBlock = some k → k ≠ w1.heap.size ∧ k ≠ w.heap.size + 1
  bel : Below w.heap.size w w5
  sz : w1.heap.size < w5.heap.size
structure PutAt (w w1 : World) (lo hi tm : Int) (D : List Int) (va : Option Addr) (vc : Nat) : Prop where
  hz : w.heap.size + 2 ≤ w1.heap.size
  own : OwnI (w1.alloc (kO lo hi va D.length vc)) (w.heap.size + 2) (.slice va D.length vc) D
  after : ∀ {v5 : Value} {w5 : World}, w5.ownsRow (w.heap.size + 2) 2 1 v5 (D.length + 1) (D.map (Value.int .i64) ++ [.int .i64 tm]) → ((w1.alloc (kO lo hi va D.length vc)).alloc (.cells #[.int .i64 tm] 2)).grownBy w5 (Value.slice va D.length vc).ownBlock → (v5.ownBlock = (Value.slice va D.length vc).ownBlock ∨ v5.ownBlock = some ((w1.alloc (kO lo hi va D.length vc)).alloc (.cells #[.int .i64 tm] 2)).heap.size) → PutDone w w1 w5 lo hi tm D va vc v5
theorem put_after (lo hi tm : Int) (D : List Int) (w w1 W : World) (hWz : W.heap.size = w.heap.size + 2) (hB0 : Below w.heap.size w W) (hR : KBox W (w.heap.size + 1) 0 0 none 0 0) (hF : KFree W (w.heap.size + 1)) (hb1 : Below W.heap.size W w1) (va : Option Addr) (vc : Nat) (hO1 : OwnI w1 W.heap.size (.slice va D.length vc) D) : PutAt w w1 lo hi tm D va vc := by
  have hz := hb1.size
  refine ⟨by omega, (hO1.low (by omega)).on (below_one' _ _), fun {v5} {w5} ho hg hat => ?_⟩
  have hlt := hO1.lt
  have hs1 : Save w1 w5 (fun j => (Value.slice va D.length vc).ownBlock = some j) := (((Save.refl w1 (fun j => (Value.slice va D.length vc).ownBlock = some j)).alloc _).alloc _).grown hg (fun k e _ => e)
  have hs2 : Save (w1.alloc (kO lo hi va D.length vc)) w5 (fun j => (Value.slice va D.length vc).ownBlock = some j) := ((Save.refl _ (fun j => (Value.slice va D.length vc).ownBlock = some j)).alloc _).grown hg (fun k e _ => e)
  have hn1 : ¬ (Value.slice va D.length vc).ownBlock = some w1.heap.size := fun e => by have := hlt _ e; omega
  have hn2 : ¬ (Value.slice va D.length vc).ownBlock = some (w.heap.size + 1) := fun e => by have := hlt _ e; omega
  have hp : w1.heap.size < (w1.alloc (kO lo hi va D.length vc)).heap.size := by simp
  have hbx := (KBox.new w1 lo hi va D.length vc 94).save hs2 hn1
  have hr := (hR.on hb1).save hs1 hn2
  have hf := ((hF.on hb1 (by omega)).save hs1 (by omega) hn2)
  refine ⟨⟨hbx.k0, hbx.k1, hbx.k2, (hs2.frozen (p := ⟨w1.heap.size, 2, none⟩) hp hn1).trans (by simp [kO, go_sem]), hr.k0, hr.k1, hr.k2, hf.f0, hf.f1, hf.f2⟩, ?_, ?_, ?_, ?_⟩
  · show w5.ownsRow _ _ _ _ _ _
    simpa using ho
  · intro k e
    rcases hat with h | h
    · have := hlt k (h ▸ e)
      omega
    · have : k = w1.heap.size + 2 := by rw [e] at h; simpa using h
      omega
  · exact (hB0.trans (hb1.mono (by omega))).trans (hs1.below (B := w.heap.size) (by omega) (fun j e => by have := hlt _ e; omega))
  · exact Nat.lt_of_lt_of_le hp hs2.size
set_option maxRecDepth 20000 in
set_option maxHeartbeats 4000000 in
theorem specPutR_any (lo hi : Int) (Z : List Int) (n : Nat) (hn : Z.length = n) (a : Option Addr) (c : Nat) (hl : n ≤ 1000000) (tm : Int) (ht : 0 ≤ tm ∧ tm ≤ 1000000) (hz : ∀ i, i < n → 0 ≤ zAt Z i ∧ zAt Z i ≤ 1000000) (w : World) (hA : ArgI w a Z) :
    Calls Tryz.prog 137 #[kpV lo hi a n c, .int .i64 tm] w fun e w' => ∃ va vc, e = .returned (kpV lo hi va (putI hi tm Z).length vc) ∧ OwnI w' w.heap.size (.slice va (putI hi tm Z).length vc) (putI hi tm Z) ∧ Below w.heap.size w w' := by
  have HN := hid hn
  have HU : Hid (∀ a n c, kpV lo hi a n c = .agg #[.int .i64 lo, .int .i64 hi, .slice a n c]) := fun _ _ _ => rfl
  obtain ⟨i0, hi0, hz0, hz1', hz2⟩ := info_parts Tryz.infoI
  have HB0 := hid (below2 w (kO lo hi a n c) (kO 0 0 none 0 0))
  have HK := hid (KBox2.new w lo hi a n c)
  have HA := hid hA
  have HZ := hid hz
  have HTM := hid ht
  unfold kO at HB0 HK
  rw [HU.out]
  clear hA hz ht
  rcases Bool.eq_false_or_eq_true (stayB hi tm Z) with hs | hs
  · have HP : Hid (putI hi tm Z = Z) := by show putI hi tm Z = Z; simp [putI, hs]
    obtain ⟨h0, hs⟩ := stayB_yes hs
    obtain ⟨m, rfl⟩ : ∃ m, n = m + 1 := ⟨n - 1, by omega⟩
    rw [lastI_at hn] at hs
    rcases HA.out with h1 | ⟨b, off, rfl, hb, hc⟩
    · omega
    have HC := hid hc
    have HL := hid (hc m (by omega))
    have hgd : decide (hi < 0) = true ∨ (decide (hi < 0) = false ∧ decide (tm ≤ zAt Z m) = true) := by
      by_cases h : hi < 0
      · exact Or.inl (by simpa using h)
      · exact Or.inr ⟨by simpa using h, by simp; omega⟩
    clear hc hn h0 hs
    generalize zAt Z m = U at *
    rcases hgd with h | ⟨h, h'⟩
    all_goals
      have hL := HL.out
      go_enter Tryz.func137, Tryz.ntmps137
      go_wp2_with fail
      clear hL
      generalize (w.alloc (.cells #[.int .i64 lo, .int .i64 hi, .slice (some ⟨b, off, none⟩) (m + 1) c] 94)).alloc (.cells #[.int .i64 0, .int .i64 0, .slice none 0 0] 94) = W at *
      have hWz := HK.out.sz
      have hbW : b < W.heap.size := by omega
      have HC2 : Hid (∀ j, j < Z.length → (W.drew.alloc (.cells #[] 2)).cell? ⟨b, off + j, none⟩ = some (.int .i64 (zAt Z j))) := fun j hj => (((Below.refl W.heap.size W.drew).alloc (Nat.le_refl _) _).cell (p := ⟨b, off + j, none⟩) hbW).trans ((HB0.out.cell (p := ⟨b, off + j, none⟩) hb).trans (HC.out j hj))
      have hq1 : w.heap.size + 1 < W.heap.size := by omega
      have hq0 : w.heap.size < W.heap.size := by omega
      have HO0 := hid (own_none W.drew (w.heap.size + 2) (by show w.heap.size + 2 ≤ W.heap.size; omega))
      obtain ⟨_, b0, b1, b2⟩ := HK.out.x
      go_region_law (refine step_append_own rfl (.tmp 31) (.tmp 33) 82 rfl (w.heap.size + 2) 2 i0 _ 1 8 Tryz.uIs hi0 hz0 hz1' hz2 rfl (by decide) (.slice (some ⟨W.heap.size, 0, none⟩) 0 0) 0 [] (by simp [Act.eval, Act.put]) HO0.out ⟨b, off, none⟩ (m + 1) c (Z.map (Value.int .i64)) (by simp [Act.eval, Act.put]) (by simp [HN.out]) (ints_cells HC2.out) (ints_one Z) (by unfold maxLen; omega) (by omega) (by simp; omega) ?_; intro v' w3 hown3 hgrow3 hloc3; have hO3 : OwnI w3 (w.heap.size + 2) v' Z := (by show w3.ownsRow _ _ _ _ _ _; rw [HN.out]; simpa using hown3); have hSv : Save W w3 (fun _ => False) := (((Save.refl W (fun _ => False)).drew.alloc _).grown hgrow3 (fun k hk h => by simp [Value.ownBlock] at hk; omega)); have HSv := hid hSv; have HO3 := hid hO3; obtain ⟨_, s0, s1, s2⟩ := HK.out.r.save hSv (fun h => h); obtain ⟨g0, g1, g2⟩ := HK.out.fr.save hSv hq1 (fun h => h); obtain ⟨_, t0, t1, t2⟩ := HK.out.x.save hSv (fun h => h); obtain ⟨va, vc, rfl, hva⟩ := hO3.form; rw [HN.out] at HO3 ⊢; clear hva hown3 hgrow3 hloc3 hO3 hSv)
      all_goals
        go_wp2_with fail
        refine bodyPost_ret (v := .agg #[.int .i64 lo, .int .i64 hi, .slice va (m + 1) vc]) (by simp [results, Tryz.results137, go_sem, s0, s1, s2, g0, g1, g2]) rfl ?_
        rw [HP.out, HN.out]
        refine ⟨va, vc, rfl, ?_, ?_⟩
        · exact (HO3.out.save (set3 w3 (w.heap.size + 1) lo hi (.slice va (m + 1) vc)) (fun k hk e => by have := (HO3.out.lt k hk).1; omega)).low (by omega)
        · exact (HB0.out.trans (HSv.out.below (B := w.heap.size) (by omega) (fun j h => h.elim))).trans ((set3 w3 (w.heap.size + 1) lo hi (.slice va (m + 1) vc)).below (B := w.heap.size) (by have := HSv.out.size; omega) (fun j h => by omega))
  · have HP : Hid (putI hi tm Z = dropI hi tm Z ++ [tm]) := by show putI hi tm Z = _; simp [putI, hs]
    have hs' := stayB_no hs
    have HDr : Hid (∀ w, ArgI w a Z → Calls Tryz.prog 138 #[.agg #[.int .i64 lo, .int .i64 hi, .slice a n c], .int .i64 tm] w fun e w' => ∃ va vc, e = .returned (kpV lo hi va (dropI hi tm Z).length vc) ∧ OwnI w' w.heap.size (.slice va (dropI hi tm Z).length vc) (dropI hi tm Z) ∧ Below w.heap.size w w') := fun w h => specDropR_any lo hi Z n hn a c (by omega) tm HTM.out HZ.out w h
    have hdl : (dropI hi tm Z).length ≤ 1000000 := by have := dropTo_len hi tm Z Z.length; unfold dropI; omega
    have hgd : n = 0 ∨ ∃ m, n = m + 1 ∧ 0 ≤ hi ∧ zAt Z m < tm := by
      rcases hs' with h | ⟨h1, h2⟩
      · left; omega
      · by_cases h0 : n = 0
        · left; omega
        · right
          obtain ⟨m, rfl⟩ : ∃ m, n = m + 1 := ⟨n - 1, by omega⟩
          rw [lastI_at hn] at h2
          exact ⟨m, rfl, h1, h2⟩
    generalize dropI hi tm Z = D at *
    clear hs hs' hn
    have HL : Hid (∀ m, n = m + 1 → ∃ b off, a = some ⟨b, off, none⟩ ∧ b < w.heap.size ∧ w.cell? ⟨b, off + m, none⟩ = some (.int .i64 (zAt Z m))) := by
      intro m hm
      rcases HA.out with h1 | ⟨b, off, e, hb, hc⟩
      · have := HN.out; omega
      · exact ⟨b, off, e, hb, hc m (by have := HN.out; omega)⟩
    have HK1 : Hid (KFree ((w.alloc (.cells #[.int .i64 lo, .int .i64 hi, .slice a n c] 94)).alloc (.cells #[.int .i64 0, .int .i64 0, .slice none 0 0] 94)) (w.heap.size + 1)) := HK.out.fr
    rcases hgd with rfl | ⟨m, rfl, h1, h2⟩
    rotate_left
    obtain ⟨b, off, rfl, hb, hL⟩ := HL.out m rfl
    have hg1 : decide (hi < 0) = false := by simp; omega
    have hg2 : decide (tm ≤ zAt Z m) = false := by simp; omega
    generalize zAt Z m = U at *
    clear h1 h2 HL
    rotate_left
    clear HL
    all_goals
      go_enter Tryz.func137, Tryz.ntmps137
      go_wp2_with (first | (go_at_call 138; refine (HDr.out _ (HA.out.on HB0.out)).mono ?_; rintro e w1 ⟨va, vc, rfl, hO1, hb1⟩; have HP1 := hid (put_after lo hi tm D w w1 _ (HK.out.sz) HB0.out HK.out.r HK1.out hb1 va vc hO1); have hz1 := HP1.out.hz; rw [HU.out]; clear hO1 hb1) | (at_builtin; refine wpList_append_own_at _ rfl _ _ 82 rfl (w.heap.size + 2) 2 i0 _ 1 8 Tryz.uIs hi0 hz0 hz1' hz2 rfl (by decide) _ _ _ rfl (HP1.out.own.alloc _) ⟨w1.heap.size + 1, 0, none⟩ 1 1 [.int .i64 tm] rfl rfl (cell_one' _ _ (by simp) _ _) (by simp [Value.oneCell']) (by unfold maxLen; omega) (by omega) (by simp; omega) ?_; intro v5 w5 hown5 hgrow5 _ hat5; obtain ⟨gb, cp, rfl, _, _⟩ := World.ownsRow.form hown5 (by omega); have HQ := hid (HP1.out.after hown5 hgrow5 hat5); obtain ⟨c0, c1, c2, g2, r0, r1, r2, f0, f1, f2⟩ := HQ.out.cells; clear hown5 hgrow5 hat5))
      have hne : ¬ w.heap.size + 1 = w1.heap.size := by omega
      refine bodyPost_ret (v := .agg #[.int .i64 lo, .int .i64 hi, .slice (some ⟨gb, 0, none⟩) (D.length + 1) cp]) (by simp [results, Tryz.results137, go_sem, c0, c1, c2, g2, r0, r1, r2, f0, f1, f2, hne]) rfl ?_
      have hl1 : (D ++ [tm]).length = D.length + 1 := by simp
      rw [HP.out, hl1]
      have hs1 : Save w5 (w5.setCell ⟨w1.heap.size, 2, none⟩ (.slice (some ⟨gb, 0, none⟩) (D.length + 1) cp)) (fun j => j = w1.heap.size) := Save.setCell (S := fun j => j = w1.heap.size) (Save.refl w5 _) (p := ⟨w1.heap.size, 2, none⟩) (fun _ => rfl) _
      have hs2 := set3 (w5.setCell ⟨w1.heap.size, 2, none⟩ (.slice (some ⟨gb, 0, none⟩) (D.length + 1) cp)) (w.heap.size + 1) lo hi (.slice (some ⟨gb, 0, none⟩) (D.length + 1) cp)
      have hz5 := HQ.out.bel.size
      have hz6 := hs1.size
      refine ⟨_, _, rfl, ?_, ?_⟩
      · exact ((HQ.out.own.save hs1 (fun k e => (HQ.out.low k e).1)).save hs2 (fun k e => (HQ.out.low k e).2)).low (by omega)
      · exact (HQ.out.bel.trans (hs1.below (B := w.heap.size) (by omega) (fun j e => by omega))).trans (hs2.below (B := w.heap.size) (by omega) (fun j e => by omega))
/-- The answer of KeepPut, and of KeepDrop. -/
def okK (lo hi : Int) (Z : List Int) (tm : Int) : Bool := krB lo hi Z && timeB tm
theorem okK_yes {lo hi : Int} {Z : List Int} {tm : Int} (h : okK lo hi Z tm = true) : krB lo hi Z = true ∧ timeB tm = true := by simpa [okK] using h
theorem okK_no {lo hi : Int} {Z : List Int} {tm : Int} (h : okK lo hi Z tm = false) : krB lo hi Z = false ∨ (krB lo hi Z = true ∧ timeB tm = false) := by
  cases h1 : krB lo hi Z
  · exact Or.inl rfl
  · right; exact ⟨rfl, by simpa [okK, h1] using h⟩
theorem krB_len {lo hi : Int} {Z : List Int} (h : krB lo hi Z = true) : Z.length ≤ 1001 := by
  obtain ⟨h1, h2, _⟩ := krB_parts h
  have := spanB_hi1 h1
  unfold mostI at h2
  split at h2 <;> omega
end Go.Proofs.YtbfkbgmkibkbnaaGreatDoor
