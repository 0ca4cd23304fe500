/-
  The model's maker of nodes: put, l07Lay, by their contracts.
-/
import Derived.Test.YtagklhfejbdkdaaDoorFmP
import Derived.Test.YtagklhfejbdkdaaDoorStore
import Derived.Test.YtagklhfejbdkdaaDoorEql
namespace Go.Proofs.YtagklhfejbdkdaaDoor
open Go.RowKit
set_option linter.unusedVariables false
set_option linter.unusedSimpArgs false
/-- The model's maker lies in a block: its nodes are g. -/
structure MkAt (w : World) (rb base : Nat) (v : Value) (g : List Nd) : Prop where
  lt : rb < base
  ltb : base ≤ w.heap.size
  c0 : w.cell? ⟨rb, 0, none⟩ = some v
  c1 : w.cell? ⟨rb, 1, none⟩ = some (.int .i64 80)
  c2 : w.cell? ⟨rb, 2, none⟩ = some (.bool false)
  fr : w.frozen? ⟨rb, 0, none⟩ = false
  own : OwnsN w base v g
  ok : ∀ i, i < g.length → ndOk (ndAt g i)
def MkB (rb : Nat) (v : Value) (b : Nat) : Prop := b = rb ∨ v.ownBlock = some b
theorem MkAt.save {w w' : World} {rb base : Nat} {v : Value} {g : List Nd} {S : Nat → Prop} (h : MkAt w rb base v g) (hs : Save w w' S) (hS : ∀ b, MkB rb v b → ¬ S b) : MkAt w' rb base v g := by
  have hl := h.lt; have hb := h.ltb
  have e1 : ¬ S rb := hS rb (Or.inl rfl)
  exact ⟨h.lt, Nat.le_trans h.ltb hs.size, (hs.cell (p := ⟨rb, _, none⟩) (by simp only; omega) e1).trans h.c0, (hs.cell (p := ⟨rb, _, none⟩) (by simp only; omega) e1).trans h.c1, (hs.cell (p := ⟨rb, _, none⟩) (by simp only; omega) e1).trans h.c2, (hs.frozen (p := ⟨rb, _, none⟩) (by simp only; omega) e1).trans h.fr, h.own.save hs (fun k hk => hS k (Or.inr hk)), h.ok⟩
theorem MkAt.on {w w' : World} {rb base : Nat} {v : Value} {g : List Nd} (h : MkAt w rb base v g) (hb : Below w.heap.size w w') : MkAt w' rb base v g :=
  h.save (S := fun _ => False) (Save.of_below hb _ (fun j h1 h2 => absurd h1 (by omega))) (fun _ _ h => h)
theorem fone (w : World) (o : Obj) : Below w.heap.size w (w.alloc o) := (Below.refl _ _).alloc (Nat.le_refl _) o
theorem below_dr {B : Nat} {a w : World} (h : Below B a w) : Below B a w.drew := ⟨h.os, h.tape, h.output, h.size, h.block⟩
/-- Behind the append, ahead of the store. -/
structure MkMid (w2 w3 : World) (rb base : Nat) (v v' : Value) (g : List Nd) (x : Nd) : Prop where
  c0 : w3.cell? ⟨rb, 0, none⟩ = some v
  c1 : w3.cell? ⟨rb, 1, none⟩ = some (.int .i64 80)
  c2 : w3.cell? ⟨rb, 2, none⟩ = some (.bool false)
  fr : w3.frozen? ⟨rb, 0, none⟩ = false
  own : OwnsN w3 base v' (g ++ [x])
  save : Save w2 w3 (MkB rb v)
theorem MkAt.mid {w2 W w3 : World} {rb base : Nat} {v v' : Value} {g : List Nd} {x : Nd} (h : MkAt w2 rb base v g) (hW : Save w2 W (fun _ => False)) (hown : w3.ownsRow base 46 6 v' (g.length + 1) (flatN g ++ ndCells x)) (hg : W.grownBy w3 v.ownBlock) : MkMid w2 w3 rb base v v' g x := by
  have hl := h.lt; have hb := h.ltb
  have hs1 : Save w2 w3 (fun b => v.ownBlock = some b) := (hW.mono (fun _ _ h => h.elim)).grown hg (fun k hk _ => hk)
  have e1 : ¬ v.ownBlock = some rb := fun e => by have := (World.ownsRow.lt h.own rb e).1; omega
  exact ⟨(hs1.cell (p := ⟨rb, _, none⟩) (by simp only; omega) e1).trans h.c0, (hs1.cell (p := ⟨rb, _, none⟩) (by simp only; omega) e1).trans h.c1, (hs1.cell (p := ⟨rb, _, none⟩) (by simp only; omega) e1).trans h.c2,
    (hs1.frozen (p := ⟨rb, _, none⟩) (by simp only; omega) e1).trans h.fr, by unfold OwnsN; rw [flatN_snoc, List.length_append]; exact hown, hs1.mono (fun k _ hk => Or.inr hk)⟩
theorem MkMid.fin {w2 w3 : World} {rb base : Nat} {v v' : Value} {g : List Nd} {x : Nd} (h : MkAt w2 rb base v g) (m : MkMid w2 w3 rb base v v' g x) (hx : ndOk x) : MkAt (w3.setCell ⟨rb, 0, none⟩ v') rb base v' (g ++ [x]) ∧ Save w2 (w3.setCell ⟨rb, 0, none⟩ v') (MkB rb v) := by
  have hl := h.lt; have hb := h.ltb; have hz := m.save.size
  refine ⟨⟨hl, by simp; omega, World.cell?_setCell_same' _ _ _ (by rw [m.c0]; rfl), by rw [World.cell?_setCell_other _ _ _ _ (by simp)]; exact m.c1, by rw [World.cell?_setCell_other _ _ _ _ (by simp)]; exact m.c2, by simp [m.fr], ownsRow_setCell_below m.own (by simp only; omega) _, fun i hi => ?_⟩, m.save.setCell (p := ⟨rb, 0, none⟩) (fun _ => Or.inl rfl) v'⟩
  by_cases e : i = g.length
  · subst e; rw [ndAt_last]; exact hx
  · have : i < g.length := by simp at hi; omega
    rw [ndAt_left g x i this]; exact h.ok i this
set_option maxRecDepth 20000 in
set_option maxHeartbeats 4000000 in
theorem put_any (x : Nd) (hx : ndOk x) (g : List Nd) (rb base : Nat) (v : Value) (hlen : g.length < 80) (w : World) (hM : MkAt w rb base v g) :
    Calls Tryd.prog 24 #[.pointer (some ⟨rb, 0, none⟩), ndV x] w fun e w' => e = .returned (.int .i64 (plG g x : Nat)) ∧ ∃ v', MkAt w' rb base v' (putG g x) ∧ Save w w' (MkB rb v) ∧ (∀ k, v'.ownBlock = some k → v.ownBlock = some k ∨ w.heap.size ≤ k) := by
  have HM := hid hM
  have hrb : rb < w.heap.size := Nat.lt_of_lt_of_le hM.lt hM.ltb
  have HBX := hid (box_node w x 46)
  have HB0 := hid (fone w (.cells #[.int .i64 x.k, .int .i64 x.a, .int .i64 x.b, .int .i64 x.lo, .int .i64 x.hi, .string x.nm] 46))
  have HM0 := hid (hM.on HB0.out)
  have HU : Hid (∀ x : Nd, ndV x = .agg #[.int .i64 x.k, .int .i64 x.a, .int .i64 x.b, .int .i64 x.lo, .int .i64 x.hi, .string x.nm]) := fun _ => rfl
  obtain ⟨va, vc, rfl, hvf⟩ := hM.own.form
  clear hM
  rw [HU.out]
  go_enter Tryd.func24, Tryd.ntmps24
  go_wp2_with fail
  have hz0 : w.heap.size < (w.alloc (.cells #[.int .i64 x.k, .int .i64 x.a, .int .i64 x.b, .int .i64 x.lo, .int .i64 x.hi, .string x.nm] 46)).heap.size := by simp
  generalize w.alloc (.cells #[.int .i64 x.k, .int .i64 x.a, .int .i64 x.b, .int .i64 x.lo, .int .i64 x.hi, .string x.nm] 46) = W0 at *
  go_loopw [5] (fun t wr => ∃ k : Nat, k ≤ g.length ∧ t = .int .i64 k ∧ (∀ i, i < k → ndAt g i ≠ x) ∧ Below W0.heap.size W0 wr) (fun t _ => g.length - (intOf t).toNat)
  case atStart => exact ⟨0, Nat.zero_le _, rfl, fun i hi => by omega, Below.refl _ _⟩
  case round =>
    obtain ⟨k, hk, rfl, hne, hbel⟩ := hrel
    have HNe := hid hne
    have HB := hid hbel
    have hszr := hbel.size
    have HMr := hid (HM0.out.on hbel)
    have HNr := hid (show NodeAt wr w.heap.size 0 x from ⟨(hbel.cell (p := ⟨_, _, none⟩) hz0).trans HBX.out.c0, (hbel.cell (p := ⟨_, _, none⟩) hz0).trans HBX.out.c1, (hbel.cell (p := ⟨_, _, none⟩) hz0).trans HBX.out.c2, (hbel.cell (p := ⟨_, _, none⟩) hz0).trans HBX.out.c3, (hbel.cell (p := ⟨_, _, none⟩) hz0).trans HBX.out.c4, (hbel.cell (p := ⟨_, _, none⟩) hz0).trans HBX.out.c5⟩)
    clear hne hbel
    have c0 := HMr.out.c0
    have c1 := HMr.out.c1
    by_cases hlt : k < g.length
    · rcases hvf with rfl | ⟨gb, rfl, hgb, hgl⟩
      · exfalso
        have := HM.out.own.2
        rcases this with ⟨_, h0⟩ | ⟨q, cp, cu, e, _⟩
        · omega
        · cases e
      have hat := HMr.out.own.at
      obtain ⟨n0, n1, n2, n3, n4, n5⟩ := hat.2 k hlt
      obtain ⟨y0, y1, y2, y3, y4, y5⟩ := (show NodeAt wr w.heap.size 0 (x.k, x.a, x.b, x.lo, x.hi, x.nm) from HNr.out).zero
      have hgb' := hat.1
      clear hat
      generalize hY : ndAt g k = Y at *
      have hq := eql_node Y x
      simp only [HU.out] at hq
      by_cases hXY : Y = x
      · have hd : decide (Y = x) = true := by simp [hXY]
        rw [hd] at hq
        have HPl : Hid (plG g x = k) := plG_of hlt (hY.trans hXY) HNe.out
        have HPu : Hid (putG g x = g) := putG_old (by rw [HPl.out]; exact hlt)
        go_wp2_with fail
        go_region
        go_wp2_with fail
        go_ret
        have HMd : MkAt wr.drew rb base (.slice (some ⟨gb, 0, none⟩) g.length vc) g := HMr.out.save (S := fun _ => False) (Save.refl wr _).drew (fun _ _ h => h)
        exact ⟨by rw [HPl.out]; first | rfl | exact ret_int (by push_cast; omega), _, by rw [HPu.out]; exact HMd, (Save.of_below (HB0.out.trans ((below_dr HB.out).mono HB0.out.size)) _ (fun j h1 h2 => absurd h1 (by omega))), fun k hk => Or.inl hk⟩
      · have hd : decide (Y = x) = false := by simp [hXY]
        rw [hd] at hq
        go_wp2_with fail
        go_region
        go_wp2_with fail
        go_roundw
        case rel => exact ⟨k + 1, by omega, by go_num, fun i hi => by
          by_cases e : i = k
          · subst e; rw [hY]; exact hXY
          · exact HNe.out i (by omega), below_dr HB.out⟩
        case measure => simp [intOf]; omega
    · have hk' : k = g.length := by omega
      subst hk'
      have HPl : Hid (plG g x = g.length) := plG_none HNe.out
      have HPu : Hid (putG g x = g ++ [x]) := putG_new (by rw [HPl.out]; omega)
      have hge : ¬ ((80 : Int) ≤ (g.length : Int)) := by omega
      go_wp2_with fail
      go_region
      go_wp2_with fail
      clear c0 c1
      have HMd : Hid (MkAt wr.drew rb base (.slice va g.length vc) g) := HMr.out.save (S := fun _ => False) (Save.refl wr _).drew (fun _ _ h => h)
      have HVd : Hid (Save w wr.drew (MkB rb (.slice va g.length vc))) := Save.of_below (HB0.out.trans ((below_dr HB.out).mono HB0.out.size)) _ (fun j h1 h2 => absurd h1 (by omega))
      have HNd : Hid (NodeAt wr.drew w.heap.size 0 x) := ⟨HNr.out.c0, HNr.out.c1, HNr.out.c2, HNr.out.c3, HNr.out.c4, HNr.out.c5⟩
      have hzd : w.heap.size < wr.drew.heap.size := Nat.lt_of_lt_of_le hz0 hszr
      generalize wr.drew = w2 at *
      have c0 := HMd.out.c0
      have hfr := HMd.out.fr
      obtain ⟨d0, d1, d2, d3, d4, d5⟩ := (show NodeAt w2 w.heap.size 0 (x.k, x.a, x.b, x.lo, x.hi, x.nm) from HNd.out).zero
      obtain ⟨i0, hi, hy0, hy1, hy3⟩ := info_parts Tryd.infoN
      have hsb2 : rb < w2.heap.size := by omega
      have HO := hid HMd.out.own
      have hbs := HMd.out.ltb
      have HMm : Hid (∀ (W w3 : World) (v' : Value), Save w2 W (fun _ => False) → w3.ownsRow base 46 6 v' (g.length + 1) (flatN g ++ ndCells x) → W.grownBy w3 (Value.slice va g.length vc).ownBlock → MkMid w2 w3 rb base (Value.slice va g.length vc) v' g x) := fun W w3 v' h1 h2 h3 => HMd.out.mid h1 h2 h3
      go_region_law (refine step_append_own rfl (.tmp 42) (.tmp 44) 24 rfl base 46 i0 _ 6 56 Tryd.uNs hi hy0 hy1 hy3 rfl (by decide) (.slice va g.length vc) g.length (flatN g) (by simp [Act.eval, Act.put]) (HO.out.alloc _).drew ⟨w2.heap.size, 0, none⟩ 1 1 (ndCells x) (by simp [Act.eval, Act.put]) rfl (cells_six w2 x) (by simp [ndCells, Value.oneCell']) (by unfold maxLen; omega) (by omega) (by simp; omega) ?_; intro v' w3 hown3 hgrow3 hloc3; obtain ⟨gb, cp, rfl, _, _⟩ := World.ownsRow.form hown3 (by omega); have HMid := hid (HMm.out _ _ _ (((Save.refl w2 _).alloc _).drew) hown3 hgrow3); have hc3 := HMid.out.c0; have hf3 := HMid.out.fr; have HL := hid hloc3; clear hown3 hgrow3 hloc3)
      all_goals
        have HF := hid (HMid.out.fin HMd.out hx)
        clear hc3 hf3 d0 d1 d2 d3 d4 d5 c0 hfr
        have c0 := HF.out.1.c0
        go_wp2_with fail
        go_ret
        refine ⟨by rw [HPl.out]; first | rfl | exact ret_int (by push_cast; omega), _, by rw [HPu.out]; exact HF.out.1, HVd.out.trans HF.out.2, fun k hk => ?_⟩
        rcases HL.out with h | h
        · left; rw [← h]; exact hk
        · right
          rw [hk] at h
          have h' := Option.some.inj h
          simp at h'
          omega
end Go.Proofs.YtagklhfejbdkdaaDoor
