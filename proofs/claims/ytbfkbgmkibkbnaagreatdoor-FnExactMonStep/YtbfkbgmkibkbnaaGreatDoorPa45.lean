/-
  The model's l06Step, by its contract: the walk.
-/
import Derived.Test.YtbfkbgmkibkbnaaGreatDoorPa44
import Derived.Deep.RegionHeld3
namespace Go.Proofs.YtbfkbgmkibkbnaaGreatDoor
open Go.RowKit
set_option linter.unusedVariables false
set_option linter.unusedSimpArgs false
theorem NdPost.undrew {w w' : World} {T : Nat → Prop} {cb i : Nat} {d : Cl} (h : NdPost w.drew w' T cb i d) : NdPost w w' T cb i d :=
  ⟨⟨h.sv.os, h.sv.tape, h.sv.output, h.sv.size, h.sv.block⟩, h.ck, h.els, h.fz⟩
/-- A call of a Go function within a region that draws its order, by its contract: the goal as 'go_region_law' leaves it. -/
theorem step_call {P : Program} {ops : Array Oper} {o : Oper} {a : Act} {w : World} {K : Act → World → Prop} {Q : Exit → Act → World → Prop} {E : Prop} (hg : o.guard = none) (F : FuncId) (av : Array Value) {R : Ending → World → Prop} (hc : Calls P F av w R) (hrun : (execOp a.eval o).run P w = .ok (.enter F av) w) (hR : ∀ e w', R e w' → ∃ v, e = .returned v ∧ K (a.put o.dst v) w') :
    if Region.wanted o (yielded ops a.tmps) = true then Oper.wp P o a w K Q else E := by
  have hw : Region.wanted o (yielded ops a.tmps) = true := by simp [Region.wanted, hg]
  rw [if_pos hw]
  unfold Oper.wp
  rw [hrun]
  simp only [Oper.upon]
  refine hc.mono fun e w' h => ?_
  obtain ⟨v, rfl, hk⟩ := hR e w' h
  exact hk
set_option maxRecDepth 20000 in
set_option maxHeartbeats 8000000 in
theorem specStep_any (f : List Nd) (fb fc : Nat) (cnt now : Int) (C : List Cl) (ca : Option Addr) (cc : Nat) (tm : Int) (S : List ByteArray) (na : Option Addr) (nn nc : Nat) (hnn : S.length = nn) (hnl : nn ≤ maxLen) (hm : monB f cnt now C = true) (ht : timeB tm = true) (hle : now ≤ tm) (D : List Cl) (hD : nextC cnt now tm S f C = D) (G : Nat → Bool) (hG : gV cnt now tm S f C = G) (w : World) (hM : MonIn w fb f ca C) (hT : TsAt w na S) :
    Calls Tryz.prog 64 #[.agg #[.slice (some ⟨fb, 0, none⟩) f.length fc, .int .i64 cnt, .int .i64 now, .slice ca C.length cc], .agg #[.int .i64 tm, .slice na nn nc]] w fun e w' => ∃ g gc cb cap ab bc, e = .returned (.agg #[.slice (some ⟨g, 0, none⟩) f.length gc, .int .i64 (cnt + 1), .int .i64 tm, .slice (some ⟨cb, 0, none⟩) f.length cap, .bool (G (f.length - 1)), .slice (some ⟨ab, 0, none⟩) f.length bc, .int .i64 0]) ∧ w.heap.size ≤ g ∧ NodesAt w' g f ∧ w.heap.size ≤ cb ∧ cb < w'.heap.size ∧ (∀ i, i < f.length → CkX w' (fun j => j = cb ∨ j < w.heap.size) cb i (clAt D i)) ∧ w.heap.size ≤ ab ∧ ab < w'.heap.size ∧ (∀ j, j < f.length → w'.cell? ⟨ab, j, none⟩ = some (.bool (G j))) ∧ Below w.heap.size w w' := by
  have hm0 := hm
  simp only [monB, Bool.and_eq_true, decide_eq_true_eq, cellsTo, List.all_eq_true, List.mem_range] at hm0
  obtain ⟨hr, hcl, htc, htn, _, hcells⟩ := hm0
  have hfl : 1 ≤ f.length ∧ f.length ≤ 24 := by have := hr; simp only [rightB, Bool.and_eq_true, decide_eq_true_eq] at this; exact this.1
  have t1 := timeB_parts htc
  have HSt : Hid (∀ i, i < f.length → stB cnt now tm S (ndAt f i) (clAt C i) G = (G i, clAt D i)) := fun i hi => by
    obtain ⟨q1, q2⟩ := right_node hr i hi
    subst hD hG
    rw [nextC_at _ _ _ _ _ _ _ hi]
    exact Prod.ext (gV_eq cnt now tm S f C i q1 q2).symm rfl
  have HCp := hid (fun w hN hC => specCopy_any f fb fc cnt now C ca cc (by omega) (by omega) hcl hM.lt w hN hC)
  rw [hcl] at HCp
  have HX0 := hid (PsBox.new w fb f.length fc cnt now ca C.length cc tm na nn nc)
  rw [hcl] at HX0
  have HB0 := hid (kbelow3 w (.cells #[.slice (some ⟨fb, 0, none⟩) f.length fc, .int .i64 cnt, .int .i64 now, .slice ca f.length cc] 34) (.cells #[.int .i64 tm, .slice na nn nc] 41) (.cells #[.slice none 0 0, .int .i64 0, .int .i64 0, .slice none 0 0, .bool false, .slice none 0 0, .int .i64 0] 36))
  have HM := hid hM
  have HT := hid hT
  have HRt := hid (And.intro hr (And.intro htn (And.intro ht (And.intro hnn hcells))))
  obtain ⟨i0, hi0, hz0, hz1, hz2⟩ := info_parts Tryz.infoBo
  rw [hcl]
  have hw1 : IntKind.i64.wrap (cnt + 1) = cnt + 1 := by
    rw [IntKind.wrap_i64]
    omega
  obtain ⟨m, hmn⟩ : ∃ m, f.length = m + 1 := ⟨f.length - 1, by omega⟩
  have HMn := hid hmn
  clear hm hr hcl hcells hM hT ht htn htc hD hG hnn hmn
  go_enter Tryz.func64, Tryz.ntmps64
  go_wp2_with (go_at_call 104; refine (HCp.out _ (HM.out.on HB0.out).nodes (HM.out.on HB0.out).cells).mono ?_; rintro e w1 ⟨g, gc, cb, cap, rfl, hgg, hgn, hcg, hgc, hcl1, hck, hfz, hb1⟩; have HN1 := hid hgn; have HK1 := hid hck; have HF1 := hid hfz; have HB1 := hid hb1; have HX1 := hid (HX0.out.on hb1); have hz1' := hb1.size; clear hb1 hgn hck hfz)
  have HD0 := hid (StAt.start (n := f.length) (gc := gc) (cap := cap) (cnt := cnt) (now := now) (D := D) (G := G) HN1.out hcl1 HK1.out HF1.out)
  have HB1d := hid (below_one' w1 (.cells #[.slice (some ⟨g, 0, none⟩) f.length gc, .int .i64 cnt, .int .i64 now, .slice (some ⟨cb, 0, none⟩) f.length cap, .bool false, .slice none 0 0, .int .i64 0] 36))
  have hob := HD0.out.box.lt
  have hg1 := HN1.out.1
  have hq3 := HX0.out.o.lt
  generalize w1.alloc (.cells #[.slice (some ⟨g, 0, none⟩) f.length gc, .int .i64 cnt, .int .i64 now, .slice (some ⟨cb, 0, none⟩) f.length cap, .bool false, .slice none 0 0, .int .i64 0] 36) = Wd at *
  generalize ((w.alloc (.cells #[.slice (some ⟨fb, 0, none⟩) f.length fc, .int .i64 cnt, .int .i64 now, .slice ca f.length cc] 34)).alloc (.cells #[.int .i64 tm, .slice na nn nc] 41)).alloc (.cells #[.slice none 0 0, .int .i64 0, .int .i64 0, .slice none 0 0, .bool false, .slice none 0 0, .int .i64 0] 36) = V at *
  go_loopw [6] (fun t wr => ∃ (k : Nat) (aa : Option Addr) (bc : Nat), k ≤ f.length ∧ t = .int .i64 k ∧ StAt V.heap.size Wd wr w1.heap.size g f.length gc cb cap cnt now aa bc f C D G k) (fun t _ => f.length - (intOf t).toNat)
  case atStart => exact ⟨0, none, 0, Nat.zero_le _, rfl, HD0.out⟩
  case round =>
    obtain ⟨k, aa, bc, hk, rfl, hD⟩ := hrel
    have HD := hid hD
    have hsz := hD.sv.size
    have hWd := HB1d.out.size
    have HBV : Hid (Below V.heap.size V wr) := (HB1.out.trans (HB1d.out.mono hz1')).trans (hD.sv.below (B := V.heap.size) (by omega) (fun j e => by omega))
    have HXr := hid (HX0.out.on HBV.out)
    have HBw := hid (HB0.out.trans (HBV.out.mono HB0.out.size))
    obtain ⟨⟨l0, m0, m1, m2, m3⟩, l1, e0, e1, _, _⟩ := HXr.out
    clear hD
    by_cases hlt : k < f.length
    · obtain ⟨ol, o0, o1, o2, o3, o4, o5, o6⟩ := HD.out.box
      obtain ⟨g0, g1, g2, g3, g4, g5, g6⟩ := HD.out.fr
      have HNo := hid (fun W' (hb : Below wr.heap.size wr W') => HD.out.node HBV.out.size rfl hfl.2 hlt (by omega) hg1 hob HRt.out.1 (HRt.out.2.2.2.2 k hlt) HRt.out.2.1 tm HRt.out.2.2.1 S na nn nc HRt.out.2.2.2.1 hnl (HSt.out k hlt) hb ((HT.out.below HBw.out).below hb))
      go_wp2_with fail
      have HSe := hid (fun W' (hs : Save wr W' (fun j => V.heap.size ≤ j)) => (⟨(hs.cell (p := ⟨w.heap.size + 1, 0, none⟩) l1 (by show ¬ V.heap.size ≤ w.heap.size + 1; omega)).trans e0, (hs.cell (p := ⟨w.heap.size + 1, 1, none⟩) l1 (by show ¬ V.heap.size ≤ w.heap.size + 1; omega)).trans e1⟩ : W'.cell? ⟨w.heap.size + 1, 0, none⟩ = some (.int .i64 tm) ∧ W'.cell? ⟨w.heap.size + 1, 1, none⟩ = some (.slice na nn nc)))
      have HSr := hid (Save.refl wr (fun j => V.heap.size ≤ j))
      have hrow := World.ownsRow.lt HD.out.own
      go_region_law (first | (refine step_call rfl 105 _ (HNo.out _ (below_drew (Below.refl _ _))) (by first | rfl | (simp [execOp, resolve, invoke, Act.eval, Act.put]; rfl)) (fun e w2 hh => ?_); obtain ⟨rfl, hp2'⟩ := hh; refine ⟨_, rfl, ?_⟩; have hp2 := hp2'.undrew; clear hp2'; have HP2 := hid hp2; have HO2 := hid (ownBo_save HD.out.own hp2.sv (fun j e e2 => by have := (hrow j e).1; omega)); have hb2 := HD.out.box.save hp2.sv (by omega); have n5 := hb2.o5; have nl := hb2.lt; have ng := (hp2.sv.frozen (p := ⟨w1.heap.size, 5, none⟩) ol (by show ¬ w1.heap.size = cb; omega)).trans g5; have hz2' := hp2.sv.size; clear hp2 hb2) | (refine step_append_own rfl (.tmp 18) (.tmp 25) 27 rfl Wd.heap.size 4 i0 _ 1 1 Tryz.uBos hi0 hz0 hz1 hz2 rfl (by decide) (.slice aa k bc) k (boolL G k) (by simp [Act.eval, Act.put]; done) (ownBo_save HO2.out ((Save.refl w2 (fun _ => False)).alloc _) (fun _ _ h => h)) ⟨w2.heap.size, 0, none⟩ 1 1 [.bool (G k)] (by simp [Act.eval, Act.put]; done) rfl (cell_one' w2 w2.heap.size rfl _ _) (by simp [Value.oneCell']) (by unfold maxLen; omega) (by omega) (by simp; omega) ?_; intro v' w4 hown4 hgrow4 hat4; obtain ⟨gb, cp, rfl, _, _⟩ := World.ownsRow.form hown4 (by omega); have how4 : w4.ownsRow Wd.heap.size 4 1 (.slice (some ⟨gb, 0, none⟩) (k + 1) cp) (k + 1) (boolL G (k + 1)) := (by rw [boolL_succ]; exact hown4); have HPt := hid (HD.out.put hlt hob (by omega) hg1 hgc HP2.out ((Save.refl w2 (fun _ => False)).alloc (.cells #[.bool (G k)] 4)) hgrow4 hat4 how4); have h24 : Save w2 w4 (fun j => (Value.slice aa k bc).ownBlock = some j) := (((Save.refl w2 (fun j => (Value.slice aa k bc).ownBlock = some j)).alloc (.cells #[.bool (G k)] 4)).trans ((Save.refl _ _).grown hgrow4 (fun k e _ => e))); have x5 := (h24.cell (p := ⟨w1.heap.size, 5, none⟩) nl (fun e => by have := (hrow w1.heap.size e).1; omega)).trans n5; have xf := (h24.frozen (p := ⟨w1.heap.size, 5, none⟩) nl (fun e => by have := (hrow w1.heap.size e).1; omega)).trans ng; have xl := Nat.lt_of_lt_of_le nl h24.size; clear hown4 hgrow4 hat4 how4 h24))
      all_goals
        go_wp2_with fail
        go_roundw
        case rel => exact ⟨k + 1, some ⟨gb, 0, none⟩, cp, by omega, by go_num, HPt.out⟩
        case measure => simp [intOf]; omega
    · have hk' : k = f.length := by omega
      subst hk'
      obtain ⟨gb, cp, ev, _, _⟩ := World.ownsRow.form HD.out.own (by omega)
      injection ev with ev1 ev2 ev3
      subst ev1
      have hown := HD.out.own
      have hrow := World.ownsRow.lt hown gb rfl
      have hcl' : ∀ j, j < f.length → wr.cell? ⟨gb, j, none⟩ = some (.bool (G j)) := fun j hj => by
        have := World.ownsRow.cells (g := gb) hown rfl j (.bool (G j)) (boolL_at G _ j hj)
        rwa [Addr.add_lit, Nat.zero_add] at this
      have HCl := hid hcl'
      have am := hcl' m (by have := HMn.out; omega)
      have hnm : (f.length : Int) - 1 = (m : Int) := by have := HMn.out; omega
      have hmf : m < f.length := by have := HMn.out; omega
      obtain ⟨ol, o0, o1, o2, o3, o4, o5, o6⟩ := HD.out.box
      obtain ⟨g0, g1, g2, g3, g4, g5, g6⟩ := HD.out.fr
      obtain ⟨_, r0, r1, r2, r3, r4, r5, r6⟩ := HXr.out.o
      obtain ⟨p0, p1, p2, p3, p4, p5, p6⟩ := HXr.out.g
      have hgbl := hrow.2
      clear hown hcl'
      go_wp2_with fail
      have hQo : w.heap.size + 1 + 1 < w1.heap.size := by omega
      have s3 : Save wr (((wr.setCell ⟨w1.heap.size, 1, none⟩ (.int .i64 (cnt + 1))).setCell ⟨w1.heap.size, 2, none⟩ (.int .i64 tm)).setCell ⟨w1.heap.size, 4, none⟩ (.bool (G m))) (fun j => j = w1.heap.size ∨ j = w.heap.size + 1 + 1) := Save.setCell (Save.setCell (Save.setCell (Save.refl wr _) (p := ⟨w1.heap.size, 1, none⟩) (fun _ => Or.inl rfl) _) (p := ⟨w1.heap.size, 2, none⟩) (fun _ => Or.inl rfl) _) (p := ⟨w1.heap.size, 4, none⟩) (fun _ => Or.inl rfl) _
      refine bodyPost_ret (v := .agg #[.slice (some ⟨g, 0, none⟩) f.length gc, .int .i64 (cnt + 1), .int .i64 tm, .slice (some ⟨cb, 0, none⟩) f.length cap, .bool (G m), .slice (some ⟨gb, 0, none⟩) f.length cp, .int .i64 0]) (by simp [results, Tryz.results64, go_sem, r0, r1, r2, r3, r4, r5, r6, p0, p1, p2, p3, p4, p5, p6]) rfl ?_
      have hsf := s3.trans ((set7 _ (w.heap.size + 1 + 1) (.slice (some ⟨g, 0, none⟩) f.length gc) (.int .i64 (cnt + 1)) (.int .i64 tm) (.slice (some ⟨cb, 0, none⟩) f.length cap) (.bool (G m)) (.slice (some ⟨gb, 0, none⟩) f.length cp) (.int .i64 0)).mono (T := fun j => j = w1.heap.size ∨ j = w.heap.size + 1 + 1) (fun j _ e => Or.inr e))
      have hzf := hsf.size
      have hVs := HB0.out.size
      refine ⟨g, gc, cb, cap, gb, ⟨cp, by rw [show f.length - 1 = m by omega]⟩, by omega, hsf.nodes HD.out.nodes (by omega), by omega, by omega, fun i hi => ?_, by omega, by omega, fun j hj => (hsf.cell (p := ⟨gb, j, none⟩) hgbl (by show ¬ (gb = w1.heap.size ∨ gb = w.heap.size + 1 + 1); omega)).trans (HCl.out j hj), HBw.out.trans (hsf.below (B := w.heap.size) HBw.out.size (fun j e => by omega))⟩
      have hc := HD.out.cks i hi
      rw [if_pos hi] at hc
      exact hc.step hsf (by omega) (by show ¬ (cb = w1.heap.size ∨ cb = w.heap.size + 1 + 1); omega) (fun j _ e => by rcases e with e | e; exact Or.inr (Or.inr (Or.inl e)); exact Or.inl (by omega)) (fun j e => Or.inl (by rcases e with e | e; exact Or.inr (Or.inl e); exact Or.inl (by omega)))
end Go.Proofs.YtbfkbgmkibkbnaaGreatDoor
