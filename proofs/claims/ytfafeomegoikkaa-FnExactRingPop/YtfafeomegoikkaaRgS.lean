/-
  RingClaim, RingFill, RingPop, the model's; what they tell as plain data.
-/
import Derived.Test.YtfafeomegoikkaaRgE
import Derived.Test.YtfafeomegoikkaaRgX
namespace Go.Proofs.Ytfafeomegoikkaa
open Go.RowKit
set_option linter.unusedVariables false
set_option linter.unusedSimpArgs false
def claimR (cap hd tl : Int) (n : Nat) (Z : List Int) : RO :=
  if ringB cap hd tl n Z = true then (if tl = hd + cap ∨ tl = 1000000 then roIll 9 else ⟨cap, hd, tl + 1, n, Z, tl, 0, 0⟩) else roIll 1
def fillR (cap hd tl : Int) (n : Nat) (Z : List Int) (pos item : Int) : RO :=
  if ringB cap hd tl n Z = true ∧ itemB item = true then
    (if hd ≤ pos ∧ pos < tl then (if sqAt Z cap.toNat pos.toNat = pos then ⟨cap, hd, tl, n, (Z.set (pos.toNat % cap.toNat * 2) (pos + 1)).set (pos.toNat % cap.toNat * 2 + 1) item, 0, 0, 0⟩ else roIll 7) else roIll 6)
  else roIll 1
def popR (cap hd tl : Int) (n : Nat) (Z : List Int) : RO :=
  if ringB cap hd tl n Z = true then
    (if hd = tl then roIll 6 else if sqAt Z cap.toNat hd.toNat = hd then roIll 10 else ⟨cap, hd + 1, tl, n, (Z.set (hd.toNat % cap.toNat * 2) (hd + cap)).set (hd.toNat % cap.toNat * 2 + 1) 0, hd, itAt Z cap.toNat hd.toNat, 0⟩)
  else roIll 1
theorem ringB_16 {cap hd tl : Int} {n : Nat} {Z : List Int} (h : ringB cap hd tl n Z = true) : n ≤ 16 := by
  obtain ⟨C, H, T, rfl, rfl, rfl, e, _, _, _, _, _, _, h16, _⟩ := ringB_parts h
  omega
theorem claimR_ok (cap hd tl : Int) (n : Nat) (Z : List Int) (hn : Z.length = n * 2) : (claimR cap hd tl n Z).ok := by
  unfold claimR
  split
  · next h =>
    split
    · exact roIll_ok 9
    · exact ⟨hn, ringB_16 h⟩
  · exact roIll_ok 1
theorem fillR_ok (cap hd tl : Int) (n : Nat) (Z : List Int) (hn : Z.length = n * 2) (pos item : Int) : (fillR cap hd tl n Z pos item).ok := by
  unfold fillR
  split
  · next h =>
    split
    · split
      · exact ⟨by simpa using hn, ringB_16 h.1⟩
      · exact roIll_ok 7
    · exact roIll_ok 6
  · exact roIll_ok 1
theorem popR_ok (cap hd tl : Int) (n : Nat) (Z : List Int) (hn : Z.length = n * 2) : (popR cap hd tl n Z).ok := by
  unfold popR
  split
  · next h =>
    split
    · exact roIll_ok 6
    · split
      · exact roIll_ok 10
      · exact ⟨by simpa using hn, ringB_16 h⟩
  · exact roIll_ok 1
theorem ill_any (code : Int) (w : World) : Calls Try.prog 49 #[.int .i64 code] w fun e w' => e = .returned (.agg #[.int .i64 0, .int .i64 0, .int .i64 0, .slice none 0 0, .int .i64 0, .int .i64 0, .int .i64 code]) ∧ Below w.heap.size w w' := by
  go_enter Try.func49, Try.ntmps49
  go_wp2
  refine bodyPost_ret (v := .agg #[.int .i64 0, .int .i64 0, .int .i64 0, .slice none 0 0, .int .i64 0, .int .i64 0, .int .i64 code]) (by simp [results, Try.results49, go_sem]) rfl ⟨rfl, ?_⟩
  repeat first
    | exact Below.refl _ _
    | refine Below.setCell ?_ (by show _ ≤ _; first | (simp; done) | (simp; omega)) _
    | refine Below.alloc ?_ (by first | exact Nat.le_refl _ | (simp; done) | (simp; omega)) _
/-- A row of cups that a call made; it may be longer than what is told. -/
def CpM (w : World) (g n : Nat) (Z : List Int) : Prop := Z.length = n * 2 ∧ ∃ m z, n * 2 ≤ m ∧ w.rowIs g 59 m z ∧ ∀ j, j < n * 2 → z j = .int .i64 (zAt Z j)
theorem CpM.lt {w : World} {g n : Nat} {Z : List Int} (h : CpM w g n Z) : g < w.heap.size := by
  obtain ⟨_, m, z, _, hr, _⟩ := h
  exact hr.lt
theorem CpM.on {w w' : World} {g n : Nat} {Z : List Int} (h : CpM w g n Z) (hb : Below w.heap.size w w') : CpM w' g n Z := by
  obtain ⟨hl, m, z, hm, hr, hz⟩ := h
  exact ⟨hl, m, z, hm, hr.of_block (hb.block g hr.lt), hz⟩
theorem CpM.save {w w' : World} {g n : Nat} {Z : List Int} {S : Nat → Prop} (h : CpM w g n Z) (hs : Save w w' S) (hS : ¬ S g) : CpM w' g n Z := by
  obtain ⟨hl, m, z, hm, hr, hz⟩ := h
  exact ⟨hl, m, z, hm, hr.of_block (hs.block g hr.lt hS), hz⟩
theorem CpM.other {w : World} {g n : Nat} {Z : List Int} (h : CpM w g n Z) {a : Addr} (ha : g ≠ a.block) (v : Value) : CpM (w.setCell a v) g n Z := by
  obtain ⟨hl, m, z, hm, hr, hz⟩ := h
  exact ⟨hl, m, z, hm, hr.setOther ha v, hz⟩
theorem CpM.arg {w : World} {g n : Nat} {Z : List Int} (h : CpM w g n Z) : ArgI w (some ⟨g, 0, none⟩) Z := by
  obtain ⟨hl, m, z, hm, hr, hz⟩ := h
  exact Or.inr ⟨g, 0, rfl, hr.lt, fun i hi => by rw [Nat.zero_add, hr.cell (by omega), hz i (by omega)]⟩
theorem CpM.mu {w : World} {g n : Nat} {Z : List Int} (h : CpM w g n Z) : RowC w (some ⟨g, 0, none⟩) n := by
  obtain ⟨hl, m, z, hm, hr, hz⟩ := h
  exact Or.inr ⟨g, z, m, rfl, hm, hr⟩
theorem CpM.cell {w : World} {g n : Nat} {Z : List Int} (h : CpM w g n Z) (j : Nat) (hj : j < n * 2) : w.cell? ⟨g, j, none⟩ = some (.int .i64 (zAt Z j)) ∧ w.frozen? ⟨g, j, none⟩ = false := by
  obtain ⟨hl, m, z, hm, hr, hz⟩ := h
  exact ⟨by rw [hr.cell (by omega), hz j hj], hr.frozen j⟩
theorem CpM.set {w : World} {g n : Nat} {Z : List Int} (h : CpM w g n Z) (j : Nat) (hj : j < n * 2) (x : Int) : CpM (w.setCell ⟨g, j, none⟩ (.int .i64 x)) g n (Z.set j x) := by
  obtain ⟨hl, m, z, hm, hr, hz⟩ := h
  refine ⟨by simpa using hl, m, _, hm, hr.set j (.int .i64 x), fun i hi => ?_⟩
  have e : zAt (Z.set j x) i = if i = j then x else zAt Z i := by
    unfold zAt
    by_cases e : i = j
    · subst e; simp [hl, hj]
    · rw [if_neg e]; simp [List.getD, List.getElem?_set, Ne.symm e]
  rw [e]
  by_cases e' : i = j
  · subst e'; simp
  · simp only [if_neg e']; exact hz i hi
theorem CpM.out {w w' : World} {g n : Nat} {Z : List Int} (h : CpM w' g n Z) (hg : w.heap.size ≤ g) (hb : Below w.heap.size w w') : RgOut w w' (some ⟨g, 0, none⟩) n Z :=
  ⟨h.arg, h.mu, fun q e => by injection e with e; subst e; exact ⟨hg, h.lt⟩, hb⟩
theorem CupI.cp {w : World} {b n : Nat} {Z : List Int} (h : CupI w b Z) (hn : Z.length = n * 2) : CpM w b n Z := ⟨hn, Z.length, _, by omega, h, fun j hj => rfl⟩
theorem own_cp {w : World} {base : Nat} {v : Value} {n : Nat} {Z : List Int} (h : w.ownsRow base 59 2 v n (Z.map (Value.int .i64))) (h0 : 1 ≤ n) : ∃ g c, v = .slice (some ⟨g, 0, none⟩) n c ∧ base ≤ g ∧ CpM w g n Z := by
  have hl : Z.length = n * 2 := by simpa using h.1
  rcases h.2 with ⟨_, h1⟩ | ⟨g, cap, cur, hv, hb, hg, h1, h2, h3, h4⟩
  · omega
  · refine ⟨g, cap, hv, hb, hl, cur.size, fun j => cur.getD j undef, by omega, ⟨cur, hg, rfl, fun i hi => by simp [hi]⟩, fun j hj => ?_⟩
    have h5 := World.ownsRow.cells h (g := g) (by rw [hv]; rfl) j (.int .i64 (zAt Z j)) (by simp [zAt, hl, hj])
    have hrow : w.rowIs g 59 cur.size (fun j => cur.getD j undef) := ⟨cur, hg, rfl, fun i hi => by simp [hi]⟩
    have h6 := hrow.cell (i := j) (by omega)
    rw [Addr.add_lit] at h5
    rw [Nat.zero_add] at h5
    rw [h5] at h6
    exact (Option.some.inj h6).symm
/-- A box not frozen. -/
def OFree (W : World) (q : Nat) : Prop := ∀ i, W.frozen? ⟨q, i, none⟩ = false
theorem OFree.new (w : World) (c : Array Value) (t : TypeId) : OFree (w.alloc (.cells c t)) w.heap.size := fun i => by simp [go_sem]
theorem OFree.below {W W' : World} {q B : Nat} (h : OFree W q) (hb : Below B W W') (hq : q < B) : OFree W' q := fun i => (hb.frozen (p := ⟨q, i, none⟩) hq).trans (h i)
set_option maxRecDepth 20000 in
set_option maxHeartbeats 2000000 in
theorem copy_any (cap hd tl : Int) (n : Nat) (Z : List Int) (hn : Z.length = n * 2) (h0 : 1 ≤ n) (h16 : n ≤ 16) (a : Option Addr) (c : Nat) (w : World) (hA : ArgI w a Z) :
    Calls Try.prog 50 #[.agg #[.int .i64 cap, .int .i64 hd, .int .i64 tl, .slice a n c]] w fun e w' => ∃ g c', e = .returned (.agg #[.int .i64 cap, .int .i64 hd, .int .i64 tl, .slice (some ⟨g, 0, none⟩) n c']) ∧ w.heap.size ≤ g ∧ CpM w' g n Z ∧ Below w.heap.size w w' := by
  obtain ⟨i0, hi0, iz0, iz1, iz2⟩ := info_parts Try.infoCup
  rcases hA with hz | ⟨b, off, rfl, hb, hc⟩
  · omega
  have HB0 := hid (((Below.refl w.heap.size w).alloc (Nat.le_refl _) (.cells #[.int .i64 cap, .int .i64 hd, .int .i64 tl, .slice (some ⟨b, off, none⟩) n c] 25)).alloc (by simp) (.cells #[.int .i64 0, .int .i64 0, .int .i64 0, .slice none 0 0] 25))
  have HB2 := hid (below_one' ((w.alloc (.cells #[.int .i64 cap, .int .i64 hd, .int .i64 tl, .slice (some ⟨b, off, none⟩) n c] 25)).alloc (.cells #[.int .i64 0, .int .i64 0, .int .i64 0, .slice none 0 0] 25)) (.cells #[] 59))
  have HX : Hid (RBox ((w.alloc (.cells #[.int .i64 cap, .int .i64 hd, .int .i64 tl, .slice (some ⟨b, off, none⟩) n c] 25)).alloc (.cells #[.int .i64 0, .int .i64 0, .int .i64 0, .slice none 0 0] 25)) w.heap.size cap hd tl (some ⟨b, off, none⟩) n c) := (RBox.new w cap hd tl (some ⟨b, off, none⟩) n c 25).on (below_one' _ _)
  have HFX : Hid (OFree ((w.alloc (.cells #[.int .i64 cap, .int .i64 hd, .int .i64 tl, .slice (some ⟨b, off, none⟩) n c] 25)).alloc (.cells #[.int .i64 0, .int .i64 0, .int .i64 0, .slice none 0 0] 25)) w.heap.size) := (OFree.new w _ 25).below (below_one' _ _) (by simp)
  have e1 : (w.alloc (.cells #[.int .i64 cap, .int .i64 hd, .int .i64 tl, .slice (some ⟨b, off, none⟩) n c] 25)).heap.size = w.heap.size + 1 := by simp
  have HO : Hid (RBox ((w.alloc (.cells #[.int .i64 cap, .int .i64 hd, .int .i64 tl, .slice (some ⟨b, off, none⟩) n c] 25)).alloc (.cells #[.int .i64 0, .int .i64 0, .int .i64 0, .slice none 0 0] 25)) (w.heap.size + 1) 0 0 0 none 0 0) := by rw [← e1]; exact RBox.new _ _ _ _ _ _ _ _
  have HFO : Hid (OFree ((w.alloc (.cells #[.int .i64 cap, .int .i64 hd, .int .i64 tl, .slice (some ⟨b, off, none⟩) n c] 25)).alloc (.cells #[.int .i64 0, .int .i64 0, .int .i64 0, .slice none 0 0] 25)) (w.heap.size + 1)) := by rw [← e1]; exact OFree.new _ _ _
  have hWz : ((w.alloc (.cells #[.int .i64 cap, .int .i64 hd, .int .i64 tl, .slice (some ⟨b, off, none⟩) n c] 25)).alloc (.cells #[.int .i64 0, .int .i64 0, .int .i64 0, .slice none 0 0] 25)).heap.size = w.heap.size + 1 + 1 := by simp
  have HC : Hid (∀ j, j < n * 2 → w.cell? ⟨b, off + j, none⟩ = some (.int .i64 (zAt Z j))) := fun j hj => hc j (by omega)
  have HN := hid hn
  have hmr : Hid (World.ownsRow (((w.alloc (.cells #[.int .i64 cap, .int .i64 hd, .int .i64 tl, .slice (some ⟨b, off, none⟩) n c] 25)).alloc (.cells #[.int .i64 0, .int .i64 0, .int .i64 0, .slice none 0 0] 25)).alloc (.cells #[] 59)) w.heap.size 59 2 (.slice (some ⟨w.heap.size + 1 + 1, 0, none⟩) 0 0) 0 []) := by
    have h := World.ownsRow_made (base := w.heap.size) (e := 59) (size := 2) ((w.alloc (.cells #[.int .i64 cap, .int .i64 hd, .int .i64 tl, .slice (some ⟨b, off, none⟩) n c] 25)).alloc (.cells #[.int .i64 0, .int .i64 0, .int .i64 0, .slice none 0 0] 25)) #[] 0 (by simp; omega) (by simp [maxLen]) (by simp)
    rw [hWz] at h
    exact h
  clear hc hn
  go_enter Try.func50, Try.ntmps50
  go_wp2_with (at_builtin; go_loud (refine wpList_append_own_at _ rfl _ _ 23 rfl w.heap.size 59 i0 _ 2 16 Try.uCs hi0 iz0 iz1 iz2 rfl (by decide) _ 0 [] rfl hmr.out ⟨b, off, none⟩ n c (Z.map (Value.int .i64)) rfl (by simp [HN.out]) (ints_cells (fun j hj => (HB0.out.trans (HB2.out.mono (by omega))).cell (p := ⟨b, off + j, none⟩) hb |>.trans (HC.out j (by have := HN.out; omega)))) (ints_one Z) (by unfold maxLen; omega) (by omega) (by simp; omega) ?_; intro v5 w5 hown5 hgrow5 _ hat5; have hs5 : Save _ w5 (fun j => w.heap.size + 1 + 1 ≤ j) := ((Save.refl _ (fun j => w.heap.size + 1 + 1 ≤ j)).alloc _).grown hgrow5 (fun k hk h => by simp [Value.ownBlock, Act.eval] at hk; omega); rw [List.nil_append, Nat.zero_add] at hown5; obtain ⟨g, c', rfl, hg, hcp⟩ := own_cp hown5 h0; have hgb : w.heap.size + 1 + 1 ≤ g := (by rcases hat5 with h | h <;> simp [Value.ownBlock, Act.eval] at h <;> omega); have HS5 := hid hs5; have HCP := hid hcp; obtain ⟨hxl, x0, x1, x2, x3⟩ := HX.out.save hs5 (by omega); obtain ⟨hol, o0, o1, o2, o3⟩ := HO.out.save hs5 (by omega); have fx := fun i => (hs5.frozen (p := ⟨w.heap.size, i, none⟩) (by show w.heap.size < _; omega) (by show ¬ _ ≤ w.heap.size; omega)).trans (HFX.out i); have fo := fun i => (hs5.frozen (p := ⟨w.heap.size + 1, i, none⟩) (by show w.heap.size + 1 < _; omega) (by show ¬ _ ≤ w.heap.size + 1; omega)).trans (HFO.out i); have fx3 := fx 3; have fo0 := fo 0; have fo1 := fo 1; have fo2 := fo 2; have fo3 := fo 3; clear hs5 hcp hown5 hgrow5 hat5 fx fo))
  refine bodyPost_ret (v := .agg #[.int .i64 cap, .int .i64 hd, .int .i64 tl, .slice (some ⟨g, 0, none⟩) n c']) (by simp [results, Try.results50, go_sem, o0, o1, o2, o3]) rfl ⟨g, c', rfl, by omega, ?_, ?_⟩
  · exact ((((HCP.out.other (fun e => by have e' : g = w.heap.size := e; omega) _).other (fun e => by have e' : g = w.heap.size + 1 := e; omega) _).other (fun e => by have e' : g = w.heap.size + 1 := e; omega) _).other (fun e => by have e' : g = w.heap.size + 1 := e; omega) _).other (fun e => by have e' : g = w.heap.size + 1 := e; omega) _
  · have hb5 := HS5.out.below (B := w.heap.size) (by omega) (fun j h => by omega)
    exact (((((HB0.out.trans hb5).setCell (by show _ ≤ _; simp) _).setCell (by show _ ≤ _; simp) _).setCell (by show _ ≤ _; simp) _).setCell (by show _ ≤ _; simp) _).setCell (by show _ ≤ _; simp) _
end Go.Proofs.Ytfafeomegoikkaa
