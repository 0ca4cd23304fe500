/-
  The model's Clamp by its contract. (Written by wip/tools/gen_clamp.py.)
-/
import Derived.Test.YthjnlcjjhklfpaaDoorClE
namespace Go.Proofs.YthjnlcjjhklfpaaDoor
open Go.RowKit
set_option linter.unusedVariables false
set_option linter.unusedSimpArgs false
theorem cell_two (W : World) (n : Nat) (hn : n = W.heap.size) (x y : Value) (t : TypeId) : ∀ j u, [x, y][j]? = some u → (W.alloc (.cells #[x, y] t)).cell? ((⟨n, 0, none⟩ : Addr).add j) = some u := by
  subst hn
  intro j u hu
  match j, hu with
  | 0, hu => simp at hu; subst hu; simp [Addr.add, go_sem]
  | 1, hu => simp at hu; subst hu; simp [Addr.add, go_sem]
theorem Tryd.infoEv2 : (Tryd.prog.info? 38).map (fun i => (i.zero, i.size, i.bytes)) = some (some (.agg #[.int .i64 0, .slice none 0 0]), 2, 32) := by kernel_rfl
theorem below_one (w : World) (o : Obj) : Below w.heap.size w (w.alloc o) := (Below.refl _ _).alloc (Nat.le_refl _) o
/-- New names are in no block of the row. -/
theorem new_apart {w1 w2 : World} {base : Nat} {v : Value} {Q : List EvQ} {a : Option Addr} (h : EvOwn w1 base v Q) (hn : ∀ q, a = some q → w1.heap.size ≤ q.block ∧ q.block < w2.heap.size ∧ q = ⟨q.block, 0, none⟩) : ∀ j, OfT a j → ¬ EvB v Q j := by
  rintro j ⟨q, e, rfl⟩ hb
  have h1 := (h.range hb).2
  have h2 := (hn q e).1
  omega
/-- One event's cells, as they came in. -/
def EvC (w : World) (b o : Nat) (t : Int) (a : Addr) (n : Nat) : Prop := w.cell? ⟨b, o, none⟩ = some (.int .i64 t) ∧ w.cell? ⟨b, o + 1, none⟩ = some (.slice (some a) n n)
theorem EvC.below' {w w' : World} {b o : Nat} {t : Int} {a : Addr} {n : Nat} (h : EvC w b o t a n) (hb : Below w.heap.size w w') (hlt : b < w.heap.size) : EvC w' b o t a n :=
  ⟨(hb.cell (p := ⟨b, o, none⟩) hlt).trans h.1, (hb.cell (p := ⟨b, o + 1, none⟩) hlt).trans h.2⟩
theorem EvRow.c {w : World} {b : Nat} {E : List Evt} {A : Nat → Nat} {z : Nat → Value} (h : EvRow w b E A z E.length) {k : Nat} (hk : k < E.length) : EvC w b (k * 2) (evAt E k).1 ⟨A k, 0, none⟩ (evAt E k).2.length := by
  refine ⟨?_, ?_⟩
  · rw [h.row.cell (by omega)]
    unfold rowE
    rw [if_pos (by omega), if_pos (by omega), show k * 2 / 2 = k by omega]
  · rw [h.row.cell (by omega)]
    unfold rowE
    rw [if_pos (by omega), if_neg (by omega), show (k * 2 + 1) / 2 = k by omega]
    rfl
theorem StrsAt.below {w w' : World} {b : Nat} {S : List ByteArray} (h : StrsAt w b S) (hb : Below w.heap.size w w') : StrsAt w' b S :=
  ⟨Nat.lt_of_lt_of_le h.1 hb.size, fun i hi => (hb.cell (p := ⟨b, i, none⟩) h.1).trans (h.2 i hi)⟩
set_option maxRecDepth 20000 in
set_option maxHeartbeats 4000000 in
theorem specClamp_any (E : List Evt) (b : Nat) (A : Nat → Nat) (z : Nat → Value) (cap : Nat) (hs : ∀ i, i < E.length → EvOk (evAt E i)) (hl : E.length ≤ 1048576) (w : World) (hA : EvRow w b E A z E.length) :
    Calls Tryd.prog 44 #[.slice (some ⟨b, 0, none⟩) E.length cap] w fun e w' => ∃ v Q, e = .returned v ∧ evsOf Q = clampB E ∧ EvOwn w' w.heap.size v Q ∧ Below w.heap.size w w' := by
  have HS := hid hs
  have HA := hid hA
  have hb := hA.row.lt
  clear hs hA
  have HM0 := hid (evOwn_made w w.heap.size (Nat.le_refl _))
  have HBm := hid (below_one w (.cells #[] 38))
  by_cases h8 : 60 < E.length
  · have HN := hid (clampB_long E h8)
    go_enter Tryd.func44, Tryd.ntmps44
    go_wp2_with fail
    go_ret
    exact ⟨_, [], rfl, by rw [HN.out]; rfl, HM0.out, HBm.out⟩
  obtain ⟨i0, hi, hz0, hz1, hz2⟩ := info_parts Tryd.infoEv2
  go_enter Tryd.func44, Tryd.ntmps44
  go_wp2_with fail
  go_loopw [3, 4, 5] (fun v m t wr => ∃ (k : Nat) (Q : List EvQ), k ≤ E.length ∧ t = .int .i64 k ∧ m = .int .i64 (mostTo E k) ∧ evsOf Q = cTo E k ∧ okE E k = true ∧ EvOwn wr w.heap.size v Q ∧ Below w.heap.size w wr) (fun _ _ t _ => E.length - (intOf t).toNat)
  case atStart => exact ⟨0, [], Nat.zero_le _, rfl, rfl, rfl, rfl, HM0.out, HBm.out⟩
  case round =>
    clear HM0 HBm
    obtain ⟨k, Q, hk, rfl, rfl, hQ, hok, hO, hbel⟩ := hrel
    have HQ := hid hQ
    have HOk := hid hok
    have HB := hid hbel
    have HO := hid hO
    have hsz := hbel.size
    have hql : Q.length = k := by have := congrArg List.length hQ; rw [evs_len, cTo_len] at this; exact this
    obtain ⟨va, vc, hva, _⟩ := hO.form
    rw [hql] at hva
    subst hva
    clear hQ hok hbel hO
    by_cases hlt : k < E.length
    · have hbl : b < wr.heap.size := Nat.lt_of_lt_of_le hb hsz
      have HCell := hid ((HA.out.c hlt).below' HB.out hb)
      obtain ⟨d0, d1⟩ := HCell.out
      have HTs := hid ((HA.out.names k hlt).strs.below (HB.out.mono (Nat.le_refl _)))
      have HT : Hid (TsAt wr (some ⟨A k, 0, none⟩) (evAt E k).2) := Or.inr ⟨A k, rfl, HTs.out⟩
      have HX := hid (HS.out k hlt)
      have HNo := hid (clampB_no E k hlt)
      have HCs := hid (cTo_succ E k)
      have HOs := hid (okE_succ E k)
      have HMs : Hid (mostTo E (k + 1) = max (mostTo E k) (evAt E k).1) := rfl
      have HSm := hid (evR_small (evAt E k))
      generalize evAt E k = T at *
      generalize mostTo E k = M at *
      rcases (Bool.eq_false_or_eq_true (evR T)).symm with hw | hw
      · have HW := hid hw
        clear hw
        have hWl : k ≤ 60 := by omega
        go_wp2_with (go_at_call 26; refine (specEvent_is T false HW.out HX.out _ _ _ HT.out).mono ?_; rintro e w1 ⟨rfl, hb1⟩; have HB1 := hid (HB.out.trans (hb1.mono hsz)); have HO1 := hid (HO.out.below hb1); have HT1 := hid (HTs.out.below hb1); have hz1' := HB1.out.size; obtain ⟨p0, p1⟩ := HCell.out.below' hb1 hbl; clear hb1)
        go_ret
        exact ⟨_, [], rfl, by rw [HNo.out HW.out]; rfl, evOwn_made w1 w.heap.size hz1', HB1.out.alloc hz1' _⟩
      · have HW := hid hw
        have hT8 := (HSm.out hw).1
        clear hw
        by_cases hx : T.1 < M
        · have HEq : Hid (max M T.1 = M) := by show max M T.1 = M; omega
          go_wp2_with (first | (go_at_call 26; refine (specEvent_is T true HW.out HX.out _ _ _ HT.out).mono ?_; rintro e w1 ⟨rfl, hb1⟩; have HB1 := hid (HB.out.trans (hb1.mono hsz)); have HO1 := hid (HO.out.below hb1); have HT1 := hid (HTs.out.below hb1); have hz1' := HB1.out.size; obtain ⟨p0, p1⟩ := HCell.out.below' hb1 hbl; clear hb1) | (go_at_call 86; refine (specCopy_any T.1 T.2 (A k) T.2.length (by omega) _ HT1.out).mono ?_; rintro e w2 ⟨v2, rfl, hO2, hb2⟩; obtain ⟨an, cn, rfl, hn1, hn2, hn3⟩ := hO2.form; have HO2 := hid (HO1.out.below hb2); have HB2 := hid (HB1.out.trans (hb2.mono hz1')); have hz2' := hb2.size; have HNew := hid (new_apart HO1.out hn3); have HO4 := hid (HO2.out.below (below_one w2 (.cells #[.int .i64 M, .slice an T.2.length cn] 38))); have HB4 := hid (HB2.out.alloc (by omega) (.cells #[.int .i64 M, .slice an T.2.length cn] 38)); have HN4 : Hid (TsAt (w2.alloc (.cells #[.int .i64 M, .slice an T.2.length cn] 38)) an T.2 ∧ RowTs (w2.alloc (.cells #[.int .i64 M, .slice an T.2.length cn] 38)) an T.2.length ∧ ∀ q, an = some q → w.heap.size ≤ q.block ∧ q.block < (w2.alloc (.cells #[.int .i64 M, .slice an T.2.length cn] 38)).heap.size ∧ q = ⟨q.block, 0, none⟩) := ⟨hn1.below (below_one w2 _), hn2.below (below_one w2 _), fun q e => ⟨by have := hn3 q e; omega, by have := hn3 q e; simp; omega, (hn3 q e).2.2⟩⟩; clear hO2 hb2 hn1 hn2 hn3) | (at_builtin; refine wpList_append_own_at _ rfl _ _ 54 rfl w.heap.size 38 i0 _ 2 32 Tryd.uEvs hi hz0 hz1 hz2 rfl (by decide) _ _ _ rfl (HO4.out.own.alloc _) ⟨w2.heap.size + 1, 0, none⟩ 1 1 [.int .i64 M, .slice an T.2.length cn] rfl rfl (cell_two _ _ (by simp) _ _ _) (by simp [Value.oneCell']) (by unfold maxLen; omega) (by omega) (by simp; omega) ?_; intro v5 w5 hown5 hgrow5 _ hat5; have HO5 := hid (EvOwn.snoc (x := ((M, T.2), an, cn)) HO4.out HN4.out HNew.out _ hown5 hgrow5 hat5); have HB5 := hid ((HB4.out.alloc (by have := HB4.out.size; omega) _).grown hgrow5 (by have := HB4.out.size; simp; omega) (fun q hq => (World.ownsRow.lt HO4.out.own q hq).1)); clear hown5 hgrow5 hat5))
          go_roundw
          case rel => exact ⟨k + 1, Q ++ [((M, T.2), an, cn)], by omega, by go_num, by rw [HMs.out, HEq.out], by rw [HCs.out, HMs.out, HEq.out, ← HQ.out]; simp [evsOf], by rw [HOs.out, HOk.out, HW.out]; rfl, HO5.out, HB5.out⟩
          case measure => simp [intOf]; omega
        · have HEq : Hid (max M T.1 = T.1) := by show max M T.1 = T.1; omega
          go_wp2_with (first | (go_at_call 26; refine (specEvent_is T true HW.out HX.out _ _ _ HT.out).mono ?_; rintro e w1 ⟨rfl, hb1⟩; have HB1 := hid (HB.out.trans (hb1.mono hsz)); have HO1 := hid (HO.out.below hb1); have HT1 := hid (HTs.out.below hb1); have hz1' := HB1.out.size; obtain ⟨p0, p1⟩ := HCell.out.below' hb1 hbl; clear hb1) | (go_at_call 86; refine (specCopy_any T.1 T.2 (A k) T.2.length (by omega) _ HT1.out).mono ?_; rintro e w2 ⟨v2, rfl, hO2, hb2⟩; obtain ⟨an, cn, rfl, hn1, hn2, hn3⟩ := hO2.form; have HO2 := hid (HO1.out.below hb2); have HB2 := hid (HB1.out.trans (hb2.mono hz1')); have hz2' := hb2.size; have HNew := hid (new_apart HO1.out hn3); have HO4 := hid (HO2.out.below (below_one w2 (.cells #[.int .i64 T.1, .slice an T.2.length cn] 38))); have HB4 := hid (HB2.out.alloc (by omega) (.cells #[.int .i64 T.1, .slice an T.2.length cn] 38)); have HN4 : Hid (TsAt (w2.alloc (.cells #[.int .i64 T.1, .slice an T.2.length cn] 38)) an T.2 ∧ RowTs (w2.alloc (.cells #[.int .i64 T.1, .slice an T.2.length cn] 38)) an T.2.length ∧ ∀ q, an = some q → w.heap.size ≤ q.block ∧ q.block < (w2.alloc (.cells #[.int .i64 T.1, .slice an T.2.length cn] 38)).heap.size ∧ q = ⟨q.block, 0, none⟩) := ⟨hn1.below (below_one w2 _), hn2.below (below_one w2 _), fun q e => ⟨by have := hn3 q e; omega, by have := hn3 q e; simp; omega, (hn3 q e).2.2⟩⟩; clear hO2 hb2 hn1 hn2 hn3) | (at_builtin; refine wpList_append_own_at _ rfl _ _ 54 rfl w.heap.size 38 i0 _ 2 32 Tryd.uEvs hi hz0 hz1 hz2 rfl (by decide) _ _ _ rfl (HO4.out.own.alloc _) ⟨w2.heap.size + 1, 0, none⟩ 1 1 [.int .i64 T.1, .slice an T.2.length cn] rfl rfl (cell_two _ _ (by simp) _ _ _) (by simp [Value.oneCell']) (by unfold maxLen; omega) (by omega) (by simp; omega) ?_; intro v5 w5 hown5 hgrow5 _ hat5; have HO5 := hid (EvOwn.snoc (x := ((T.1, T.2), an, cn)) HO4.out HN4.out HNew.out _ hown5 hgrow5 hat5); have HB5 := hid ((HB4.out.alloc (by have := HB4.out.size; omega) _).grown hgrow5 (by have := HB4.out.size; simp; omega) (fun q hq => (World.ownsRow.lt HO4.out.own q hq).1)); clear hown5 hgrow5 hat5))
          go_roundw
          case rel => exact ⟨k + 1, Q ++ [((T.1, T.2), an, cn)], by omega, by go_num, by rw [HMs.out, HEq.out], by rw [HCs.out, HMs.out, HEq.out, ← HQ.out]; simp [evsOf], by rw [HOs.out, HOk.out, HW.out]; rfl, HO5.out, HB5.out⟩
          case measure => simp [intOf]; omega
    · have hk' : k = E.length := by omega
      subst hk'
      have HN := hid (clampB_yes E (by omega) HOk.out)
      generalize mostTo E E.length = M at *
      go_wp2_with fail
      go_ret
      exact ⟨_, Q, rfl, by rw [HN.out]; exact HQ.out, HO.out, HB.out⟩
end Go.Proofs.YthjnlcjjhklfpaaDoor
