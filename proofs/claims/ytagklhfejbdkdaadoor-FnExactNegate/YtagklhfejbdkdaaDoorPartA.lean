/-
  PartOf: the program's partAt and PartOf, by their contracts.
-/
import Derived.Test.YtagklhfejbdkdaaDoorPartI
namespace Go.Proofs.YtagklhfejbdkdaaDoor
open Go.RowKit
set_option linter.unusedVariables false
set_option linter.unusedSimpArgs false
theorem moved_any (x : Nd) (tb n c : Nat) (to : Nat → Int) (w : World) (hR : RowD w tb n to) (hk : isB x.k 1 9 = true) (ha : armsOk x n) (hn : n ≤ 24) :
    Calls Tryd.prog 60 #[ndV x, .slice (some ⟨tb, 0, none⟩) n c] w fun e w' => e = .returned (ndV (movedN to x)) ∧ Below w.heap.size w w' := by
  obtain ⟨k, a, b, lo, hi, nm⟩ := x
  have hk' : k = 1 ∨ k = 2 ∨ k = 3 ∨ k = 4 ∨ k = 5 ∨ k = 6 ∨ k = 7 ∨ k = 8 ∨ k = 9 := by
    have hk2 : isB k 1 9 = true := hk
    simp [isB] at hk2
    omega
  rcases hk' with rfl | rfl | rfl | rfl | rfl | rfl | rfl | rfl | rfl
  · exact moved1 _ _ lo hi nm tb n c to w hR hn
  · exact moved2 _ _ lo hi nm tb n c to w hR hn
  · obtain ⟨na, rfl⟩ := Int.eq_ofNat_of_zero_le (ha.1 (show 0 < armsN 3 by decide)).1; exact moved3 _ _ lo hi nm tb n c to w hR (Int.ofNat_lt.1 (ha.1 (show 0 < armsN 3 by decide)).2) hn
  · obtain ⟨na, rfl⟩ := Int.eq_ofNat_of_zero_le (ha.1 (show 0 < armsN 4 by decide)).1; obtain ⟨nb, rfl⟩ := Int.eq_ofNat_of_zero_le (ha.2 (show 1 < armsN 4 by decide)).1; exact moved4 _ _ lo hi nm tb n c to w hR (Int.ofNat_lt.1 (ha.1 (show 0 < armsN 4 by decide)).2) (Int.ofNat_lt.1 (ha.2 (show 1 < armsN 4 by decide)).2) hn
  · obtain ⟨na, rfl⟩ := Int.eq_ofNat_of_zero_le (ha.1 (show 0 < armsN 5 by decide)).1; obtain ⟨nb, rfl⟩ := Int.eq_ofNat_of_zero_le (ha.2 (show 1 < armsN 5 by decide)).1; exact moved5 _ _ lo hi nm tb n c to w hR (Int.ofNat_lt.1 (ha.1 (show 0 < armsN 5 by decide)).2) (Int.ofNat_lt.1 (ha.2 (show 1 < armsN 5 by decide)).2) hn
  · obtain ⟨na, rfl⟩ := Int.eq_ofNat_of_zero_le (ha.1 (show 0 < armsN 6 by decide)).1; exact moved6 _ _ lo hi nm tb n c to w hR (Int.ofNat_lt.1 (ha.1 (show 0 < armsN 6 by decide)).2) hn
  · obtain ⟨na, rfl⟩ := Int.eq_ofNat_of_zero_le (ha.1 (show 0 < armsN 7 by decide)).1; exact moved7 _ _ lo hi nm tb n c to w hR (Int.ofNat_lt.1 (ha.1 (show 0 < armsN 7 by decide)).2) hn
  · obtain ⟨na, rfl⟩ := Int.eq_ofNat_of_zero_le (ha.1 (show 0 < armsN 8 by decide)).1; exact moved8 _ _ lo hi nm tb n c to w hR (Int.ofNat_lt.1 (ha.1 (show 0 < armsN 8 by decide)).2) hn
  · obtain ⟨na, rfl⟩ := Int.eq_ofNat_of_zero_le (ha.1 (show 0 < armsN 9 by decide)).1; obtain ⟨nb, rfl⟩ := Int.eq_ofNat_of_zero_le (ha.2 (show 1 < armsN 9 by decide)).1; exact moved9 _ _ lo hi nm tb n c to w hR (Int.ofNat_lt.1 (ha.1 (show 0 < armsN 9 by decide)).2) (Int.ofNat_lt.1 (ha.2 (show 1 < armsN 9 by decide)).2) hn
theorem movedN_same (l : List Nat) (k : Nat) (x : Nd) (h : armsOk x (l.getD k 0)) : movedN (toTo l (k + 1)) x = movedN (toTo l k) x := by
  have e : ∀ j, j ≠ l.getD k 0 → toTo l (k + 1) j = toTo l k j := fun j hj => by
    show (if j = l.getD k 0 then (k : Int) else toTo l k j) = _
    rw [if_neg hj]
  unfold movedN
  have h1 : (if 0 < armsN x.k then toTo l (k + 1) x.a.toNat else x.a) = (if 0 < armsN x.k then toTo l k x.a.toNat else x.a) := by
    split
    · next h0 => have := h.1 h0; exact e _ (by omega)
    · rfl
  have h2 : (if 1 < armsN x.k then toTo l (k + 1) x.b.toNat else x.b) = (if 1 < armsN x.k then toTo l k x.b.toNat else x.b) := by
    split
    · next h0 => have := h.2 h0; exact e _ (by omega)
    · rfl
  rw [h1, h2]
theorem armsOk.mono {x : Nd} {i j : Nat} (h : armsOk x i) (hij : i ≤ j) : armsOk x j := ⟨fun a => by have := h.1 a; omega, fun a => by have := h.2 a; omega⟩
theorem goodTo_nm (f : List Nd) (n : Nat) (h : goodTo f n = true) (i : Nat) (hi : i < n) : (ndAt f i).nm.size ≤ 8 := by
  have h1 := (goodTo_at f i n hi h).1
  simp only [nodeB, Bool.and_eq_true] at h1
  have h2 := h1.2.1
  split at h2
  · simp [wordB] at h2
    omega
  · have h3 : (ndAt f i).nm.size = 0 := by
      rw [← emptyB_eq _ h2]
      rfl
    omega
set_option maxRecDepth 20000 in
set_option maxHeartbeats 2000000 in
theorem partAt_good (f : List Nd) (b cap i : Nat) (w : World) (hN : NodesAt w b f) (hg3 : 1 ≤ f.length ∧ f.length ≤ 24 ∧ goodTo f f.length = true) (hif : i < f.length) (hok : ∀ i, i < f.length → ndOk (ndAt f i)) :
    Calls Tryd.prog 59 #[.slice (some ⟨b, 0, none⟩) f.length cap, .int .i64 i] w fun e w' => ∃ pb z, e = .returned (.slice (some ⟨pb, 0, none⟩) (walkF f f.length i []).length (walkF f f.length i []).length) ∧ w.heap.size ≤ pb ∧ w'.rowIs pb 46 ((walkF f f.length i []).length * 6) (rowF (partTo f (walkF f f.length i []) (walkF f f.length i []).length) z (walkF f f.length i []).length) ∧ Below w.heap.size w w' := by
  obtain ⟨hl1, hl2, hgd⟩ := hg3
  have HD : Hid (downTo f f.length) := goodTo_down f _ hgd
  have HK := hid (goodTo_kind f f.length hgd)
  have HNm := hid (goodTo_nm f f.length hgd)
  have HN := hid hN
  have hb := hN.1
  have HOk := hid hok
  clear hN hgd hok
  have HP0 : PlacesOk f [] := ⟨List.nodup_nil, fun j h => by cases h⟩
  have HP := hid (HP0.walk (n := f.length) (i := i) (fun j hj => HD.out j (by omega)) hif hif)
  have hpl := HP.out.len
  clear HP0
  generalize hL : walkF f f.length i [] = l at *
  have HL := hid hL
  clear hL
  have hmk := run_make_row' (P := Tryd.prog) 45 2 (.int .i64 0) 8 Tryd.underlying45 Tryd.infoI rfl .i64 .i64 f.length (by omega) (by omega)
  obtain ⟨zc, hmk2⟩ := run_makeN l.length (by omega)
  go_enter Tryd.func59, Tryd.ntmps59
  go_wp2_with fail
  refine (orderOf_any f b cap i w HN.out hl2 HK.out (fun j hj => HD.out j (by omega)) hif).mono ?_
  rintro e w1 ⟨v, rfl, hO, hb1⟩
  rw [HL.out] at hO
  have HB1 := hid hb1
  have hz1 := hb1.size
  have HN1 := hid (HN.out.below hb1 hb)
  obtain ⟨a, c, rfl, hform⟩ := hO.form
  have HF := hid hform
  clear hb1 hO hform
  go_wp2_with fail
  have HR0 : Hid (∃ z, ((w1.alloc (.cells (madeCells #[.int .i64 0] f.length) 2)).alloc (.cells (madeCells zc (l.length * 6)) 46)).rowIs (w1.heap.size + 1) 46 (l.length * 6) (rowF (partTo f l l.length) z 0)) := by
    refine ⟨fun j => (madeCells zc (l.length * 6)).getD j undef, ?_⟩
    have := World.rowIs_alloc (w1.alloc (.cells (madeCells #[.int .i64 0] f.length) 2)) (madeCells zc (l.length * 6)) 46 (rowF (partTo f l l.length) (fun j => (madeCells zc (l.length * 6)).getD j undef) 0) (fun i hi => by simp [rowF, hi])
    rw [size_madeCells] at this
    simpa using this
  obtain ⟨z, hr0⟩ := HR0.out
  clear HR0
  have HR0 := hid hr0
  clear hr0
  go_loopw [21] (fun t wr => ∃ k : Nat, k ≤ l.length ∧ t = .int .i64 k ∧ wr.rowIs (w1.heap.size + 1) 46 (l.length * 6) (rowF (partTo f l l.length) z k) ∧ RowD wr w1.heap.size f.length (toTo l k) ∧ Below w1.heap.size w1 wr) (fun t _ => l.length - (intOf t).toNat)
  case atStart => exact ⟨0, Nat.zero_le _, rfl, HR0.out, World.rowIs.alloc (World.rowIs_made _ _ _ _) _, ((Below.refl _ _).alloc (Nat.le_refl _) _).alloc (by simp) _⟩
  case round =>
    clear hmk hmk2 HR0
    obtain ⟨k, hk, rfl, hpart, hrow, hbel⟩ := hrel
    have HBr := hid hbel
    have HRow := hid hrow
    have HPart := hid hpart
    have hsz := hbel.size
    clear hbel hrow hpart
    by_cases hlt : k < l.length
    · obtain ⟨g, rfl, hg1, hg2, hg3⟩ := HF.out (by omega)
      have hc := (HBr.out.cell (p := ⟨g, k, none⟩) hg2).trans (hg3 k hlt)
      clear hg3
      have hp := HP.out.lt _ (getD_mem l k hlt)
      have HX := hid (HD.out _ hp)
      have HM : Hid (ndAt (partTo f l l.length) k = movedN (toTo l (k + 1)) (ndAt f (l.getD k 0))) := by rw [partTo_at _ _ _ _ hlt]; exact (movedN_same l k _ HX.out).symm
      have HT : Hid (∀ j, toTo l (k + 1) j = if j = l.getD k 0 then (k : Int) else toTo l k j) := fun j => rfl
      generalize l.getD k 0 = p at *
      obtain ⟨c0, c1, c2, c3, c4, c5⟩ := (HN1.out.2 p hp).below HBr.out HN1.out.1
      have ep := HRow.out.cell (i := p) hp
      have fp := HRow.out.frozen p
      have hnb : ¬ b = w1.heap.size := by omega
      have hnb2 : ¬ b = w1.heap.size + 1 := by omega
      have hrl := HPart.out.lt
      have hgr : g < wr.heap.size := by omega
      have hnm := HNm.out p hp
      go_wp2_with fail
      refine (moved_any (ndAt f p) w1.heap.size f.length f.length (toTo l (k + 1)) _ ((HRow.out.set p k).congr (fun j => (HT.out j).symm)) (HK.out p hp) (HX.out.mono (by omega)) hl2).mono ?_
      rintro e w2 ⟨rfl, hb2⟩
      have hz2 : wr.heap.size ≤ w2.heap.size := by have := hb2.size; simpa using this
      have HB2 : Hid (Below w1.heap.size w1 w2) := (HBr.out.setCell (Nat.le_refl _) _).trans (hb2.mono (by simpa using hsz))
      have HRow2 : Hid (RowD w2 w1.heap.size f.length (toTo l (k + 1))) := World.rowIs.of_block ((HRow.out.set p k).congr (fun j => (HT.out j).symm)) (hb2.block _ (by simp; omega))
      have HPart2 := hid (World.rowIs.of_block (World.rowIs.of_block HPart.out (Below.heap_setCell wr ⟨w1.heap.size, p, none⟩ (.int .i64 k) (w1.heap.size + 1) (by simp))) (hb2.block _ (by simp; omega)))
      have d5 := ((HN1.out.2 p hp).below HB2.out HN1.out.1).c5
      have q0 := HPart2.out.cell (i := k * 6) (by omega)
      have q1 := HPart2.out.cell (i := k * 6 + 1) (by omega)
      have q2 := HPart2.out.cell (i := k * 6 + 2) (by omega)
      have q3 := HPart2.out.cell (i := k * 6 + 3) (by omega)
      have q4 := HPart2.out.cell (i := k * 6 + 4) (by omega)
      have q5 := HPart2.out.cell (i := k * 6 + 5) (by omega)
      have f0 := HPart2.out.frozen
      have HS6 := hid (store_six HPart2.out)
      rw [HM.out] at HS6
      have HY : Hid ((movedN (toTo l (k + 1)) (ndAt f p)).nm = (ndAt f p).nm) := rfl
      generalize movedN (toTo l (k + 1)) (ndAt f p) = y at *
      unfold ndV
      clear hb2 c0 c1 c2 c3 c4 c5 ep fp hc
      go_wp2_with fail
      refine (clone_any (ndAt f p).nm (by omega) _).mono ?_
      rintro e w3 ⟨rfl, hb3⟩
      have HB3 : Hid (Below w1.heap.size w1 w3) := ((((((HB2.out.setCell (Nat.le_succ _) _).setCell (Nat.le_succ _) _).setCell (Nat.le_succ _) _).setCell (Nat.le_succ _) _).setCell (Nat.le_succ _) _).setCell (Nat.le_succ _) _).trans (hb3.mono (by simp; omega))
      have HPart3 := hid (World.rowIs.of_block HS6.out (hb3.block _ HS6.out.lt))
      have q6 := HPart3.out.cell (i := k * 6 + 5) (by omega)
      have f6 := HPart3.out.frozen (k * 6 + 5)
      have HRow3 : Hid (RowD w3 w1.heap.size f.length (toTo l (k + 1))) := World.rowIs.of_block HRow2.out (by
        rw [hb3.block w1.heap.size (by simp; omega)]
        rw [Below.heap_setCell _ _ _ _ (by simp), Below.heap_setCell _ _ _ _ (by simp), Below.heap_setCell _ _ _ _ (by simp), Below.heap_setCell _ _ _ _ (by simp), Below.heap_setCell _ _ _ _ (by simp), Below.heap_setCell _ _ _ _ (by simp)])
      clear hb3 q0 q1 q2 q3 q4 q5 f0 d5
      go_wp2_with fail
      go_roundw
      case rel =>
        refine ⟨k + 1, by omega, by go_num, (HPart3.out.set (k * 6 + 5) _).congr (fun j hj => ?_), World.rowIs.of_block HRow3.out (Below.heap_setCell _ _ _ _ (by simp)), HB3.out.setCell (Nat.le_succ _) _⟩
        by_cases e : j = k * 6 + 5
        · rw [if_pos e, rowF_step, if_pos e, HM.out, HY.out]
        · rw [if_neg e]
      case measure => simp [intOf]; omega
    · have hk' : k = l.length := by omega
      subst hk'
      go_wp2_with fail
      go_ret
      exact ⟨_, z, rfl, by omega, HPart.out, HB1.out.trans (HBr.out.mono hz1)⟩
theorem partAt_any (f : List Nd) (b cap i : Nat) (w : World) (hN : NodesAt w b f) (hr : rightB f = true) (hif : i < f.length) (hok : ∀ i, i < f.length → ndOk (ndAt f i)) :
    Calls Tryd.prog 59 #[.slice (some ⟨b, 0, none⟩) f.length cap, .int .i64 i] w fun e w' => ∃ pb z, e = .returned (.slice (some ⟨pb, 0, none⟩) (walkF f f.length i []).length (walkF f f.length i []).length) ∧ w.heap.size ≤ pb ∧ w'.rowIs pb 46 ((walkF f f.length i []).length * 6) (rowF (partTo f (walkF f f.length i []) (walkF f f.length i []).length) z (walkF f f.length i []).length) ∧ Below w.heap.size w w' :=
  partAt_good f b cap i w hN (rightB_good' f hr) hif hok
/-- What the program's PartOf answers: nothing, or a row of its own. -/
def PartV (w' : World) (base : Nat) (v : Value) (f : List Nd) (i : Int) : Prop :=
  (v = .slice none 0 0 ∧ partB f i = []) ∨ ∃ pb z, v = .slice (some ⟨pb, 0, none⟩) (partB f i).length (partB f i).length ∧ base ≤ pb ∧ w'.rowIs pb 46 ((partB f i).length * 6) (rowF (partB f i) z (partB f i).length)
end Go.Proofs.YtagklhfejbdkdaaDoor
