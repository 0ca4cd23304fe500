/-
  The program's Clamp by its contract. (Written by wip/tools/gen_clamp.py.)
-/
import Derived.Test.YthjnlcjjhklfpaaDoorClS
namespace Go.Proofs.YthjnlcjjhklfpaaDoor
open Go.RowKit
set_option linter.unusedVariables false
set_option linter.unusedSimpArgs false
set_option maxRecDepth 20000 in
set_option maxHeartbeats 4000000 in
theorem implClamp_any (E : List Evt) (a : Option Addr) (cap : Nat) (hs : ∀ i, i < E.length → EvOk (evAt E i)) (hl : E.length ≤ 1048576) (w : World) (hA : EsAt w a E) (hkw : Kw w) (hgl : 0 < w.heap.size) :
    Calls Tryd.prog 45 #[.slice a E.length cap] w fun e w' => ∃ v Q, e = .returned v ∧ evsOf Q = clampB E ∧ EvOwn w' w.heap.size v Q ∧ Below w.heap.size w w' := by
  have HS := hid hs
  have HA := hid hA
  have HK := hid hkw
  clear hs hA hkw
  have HM0 := hid (evOwn_nil w w.heap.size)
  by_cases h8 : 60 < E.length
  · have HN := hid (clampB_long E h8)
    go_enter Tryd.func45, Tryd.ntmps45
    go_wp2_with fail
    go_ret
    exact ⟨_, [], rfl, by rw [HN.out]; rfl, HM0.out, Below.refl _ _⟩
  obtain ⟨i0, hi, hz0, hz1, hz2⟩ := info_parts Tryd.infoEv2
  go_enter Tryd.func45, Tryd.ntmps45
  go_wp2_with fail
  go_loopw [3, 4, 12] (fun v m t wr => ∃ (k : Nat) (Q : List EvQ), k ≤ E.length ∧ t = .int .i64 k ∧ m = .int .i64 (mostTo E k) ∧ evsOf Q = cTo E k ∧ okE E k = true ∧ EvOwn wr w.heap.size v Q ∧ Below w.heap.size w wr) (fun _ _ t _ => E.length - (intOf t).toNat)
  case atStart => exact ⟨0, [], Nat.zero_le _, rfl, rfl, rfl, rfl, HM0.out, Below.refl _ _⟩
  case round =>
    clear HM0
    obtain ⟨k, Q, hk, rfl, rfl, hQ, hok, hO, hbel⟩ := hrel
    have HQ := hid hQ
    have HOk := hid hok
    have HB := hid hbel
    have HO := hid hO
    have hsz := hbel.size
    have hql : Q.length = k := by have := congrArg List.length hQ; rw [evs_len, cTo_len] at this; exact this
    obtain ⟨va, vc, hva, _⟩ := hO.form
    rw [hql] at hva
    subst hva
    clear hQ hok hbel hO
    by_cases hlt : k < E.length
    · rcases HA.out with h0 | ⟨b, rfl, hb, hc⟩
      · omega
      obtain ⟨d0, a1, c1, d1, hT⟩ := (hc k hlt).below HB.out hb
      have hgr : 0 < wr.heap.size := Nat.lt_of_lt_of_le hgl hsz
      have HK1 := hid (HK.out.below HB.out hgl)
      have HT := hid hT
      clear hT hc
      have HX := hid (HS.out k hlt)
      have HNo := hid (clampB_no E k hlt)
      have HCs := hid (cTo_succ E k)
      have HOs := hid (okE_succ E k)
      have HMs : Hid (mostTo E (k + 1) = max (mostTo E k) (evAt E k).1) := rfl
      have HSm := hid (evR_small (evAt E k))
      generalize evAt E k = T at *
      generalize mostTo E k = M at *
      have HBb := hid (below_one wr (.cells #[.int .i64 T.1, .slice a1 T.2.length c1] 38))
      have HXb := hid (BoxE.new wr T.1 (.slice a1 T.2.length c1) 38)
      have HT2 := hid (HT.out.below HBb.out)
      rcases (Bool.eq_false_or_eq_true (evR T)).symm with hw | hw
      · have HW := hid hw
        clear hw
        go_wp2_with (go_at_call 28; refine (implEvent_is T false HW.out HX.out _ _ _ HT2.out (HK1.out.below HBb.out hgr) (Nat.lt_of_lt_of_le hgr HBb.out.size)).mono ?_; rintro e w1 ⟨rfl, hb1⟩; have HB1 := hid ((HB.out.trans (HBb.out.mono hsz)).trans (hb1.mono (Nat.le_trans hsz HBb.out.size))); have HO1 := hid ((HO.out.below HBb.out).below hb1); have HT1 := hid (HT2.out.below hb1); have hz1' := HB1.out.size; obtain ⟨hq, x0, x1⟩ := HXb.out.below hb1; clear hb1)
        go_ret
        exact ⟨_, [], rfl, by rw [HNo.out HW.out]; rfl, evOwn_nil w1 w.heap.size, HB1.out⟩
      · have HW := hid hw
        have hT8 := (HSm.out hw).1
        have HSz := hid (HSm.out hw).2
        clear hw
        by_cases hx : T.1 < M
        · have HEq : Hid (max M T.1 = M) := by show max M T.1 = M; omega
          have hmx : max M T.1 = M := HEq.out
          go_wp2_with (first | (go_at_call 28; refine (implEvent_is T true HW.out HX.out _ _ _ HT2.out (HK1.out.below HBb.out hgr) (Nat.lt_of_lt_of_le hgr HBb.out.size)).mono ?_; rintro e w1 ⟨rfl, hb1⟩; have HB1 := hid ((HB.out.trans (HBb.out.mono hsz)).trans (hb1.mono (Nat.le_trans hsz HBb.out.size))); have HO1 := hid ((HO.out.below HBb.out).below hb1); have HT1 := hid (HT2.out.below hb1); have hz1' := HB1.out.size; obtain ⟨hq, x0, x1⟩ := HXb.out.below hb1; clear hb1) | (go_at_call 87; refine (copyNames_any T.2 (fun i hi => by have := HSz.out i hi; omega) (by omega) a1 c1 _ HT1.out).mono ?_; rintro e w2 ⟨v2, rfl, hO2, hb2⟩; obtain ⟨an, cn, rfl, hn1, hn2, hn3⟩ := hO2.form; have HO4 := hid (HO1.out.below hb2); have HB4 := hid (HB1.out.trans (hb2.mono hz1')); have hz2' := hb2.size; have HNew := hid (new_apart HO1.out hn3); have HN4 : Hid (TsAt w2 an T.2 ∧ RowTs w2 an T.2.length ∧ ∀ q, an = some q → w.heap.size ≤ q.block ∧ q.block < w2.heap.size ∧ q = ⟨q.block, 0, none⟩) := ⟨hn1, hn2, fun q e => ⟨by have := hn3 q e; omega, (hn3 q e).2.1, (hn3 q e).2.2⟩⟩; clear hO2 hb2 hn1 hn2 hn3) | (at_builtin; refine wpList_append_own_at _ rfl _ _ 54 rfl w.heap.size 38 i0 _ 2 32 Tryd.uEvs hi hz0 hz1 hz2 rfl (by decide) _ _ _ rfl (HO4.out.own.alloc _) ⟨w2.heap.size, 0, none⟩ 1 1 [.int .i64 M, .slice an T.2.length cn] rfl rfl (cell_two _ _ (by simp) _ _ _) (by simp [Value.oneCell']) (by unfold maxLen; omega) (by omega) (by simp; omega) ?_; intro v5 w5 hown5 hgrow5 _ hat5; have HO5 := hid (EvOwn.snoc (x := ((M, T.2), an, cn)) HO4.out HN4.out HNew.out _ hown5 hgrow5 hat5); have HB5 := hid ((HB4.out.alloc (by have := HB4.out.size; omega) _).grown hgrow5 (by have := HB4.out.size; simp; omega) (fun q hq => (World.ownsRow.lt HO4.out.own q hq).1)); clear hown5 hgrow5 hat5))
          go_roundw
          case rel => exact ⟨k + 1, Q ++ [((M, T.2), an, cn)], by omega, by go_num, by rw [HMs.out, HEq.out], by rw [HCs.out, HMs.out, HEq.out, ← HQ.out]; simp [evsOf], by rw [HOs.out, HOk.out, HW.out]; rfl, HO5.out, HB5.out⟩
          case measure => simp [intOf]; omega
        · by_cases hlt2 : M < T.1
          · have HEq : Hid (max M T.1 = T.1) := by show max M T.1 = T.1; omega
            have hmx : max M T.1 = T.1 := HEq.out
            go_wp2_with (first | (go_at_call 28; refine (implEvent_is T true HW.out HX.out _ _ _ HT2.out (HK1.out.below HBb.out hgr) (Nat.lt_of_lt_of_le hgr HBb.out.size)).mono ?_; rintro e w1 ⟨rfl, hb1⟩; have HB1 := hid ((HB.out.trans (HBb.out.mono hsz)).trans (hb1.mono (Nat.le_trans hsz HBb.out.size))); have HO1 := hid ((HO.out.below HBb.out).below hb1); have HT1 := hid (HT2.out.below hb1); have hz1' := HB1.out.size; obtain ⟨hq, x0, x1⟩ := HXb.out.below hb1; clear hb1) | (go_at_call 87; refine (copyNames_any T.2 (fun i hi => by have := HSz.out i hi; omega) (by omega) a1 c1 _ HT1.out).mono ?_; rintro e w2 ⟨v2, rfl, hO2, hb2⟩; obtain ⟨an, cn, rfl, hn1, hn2, hn3⟩ := hO2.form; have HO4 := hid (HO1.out.below hb2); have HB4 := hid (HB1.out.trans (hb2.mono hz1')); have hz2' := hb2.size; have HNew := hid (new_apart HO1.out hn3); have HN4 : Hid (TsAt w2 an T.2 ∧ RowTs w2 an T.2.length ∧ ∀ q, an = some q → w.heap.size ≤ q.block ∧ q.block < w2.heap.size ∧ q = ⟨q.block, 0, none⟩) := ⟨hn1, hn2, fun q e => ⟨by have := hn3 q e; omega, (hn3 q e).2.1, (hn3 q e).2.2⟩⟩; clear hO2 hb2 hn1 hn2 hn3) | (at_builtin; refine wpList_append_own_at _ rfl _ _ 54 rfl w.heap.size 38 i0 _ 2 32 Tryd.uEvs hi hz0 hz1 hz2 rfl (by decide) _ _ _ rfl (HO4.out.own.alloc _) ⟨w2.heap.size, 0, none⟩ 1 1 [.int .i64 T.1, .slice an T.2.length cn] rfl rfl (cell_two _ _ (by simp) _ _ _) (by simp [Value.oneCell']) (by unfold maxLen; omega) (by omega) (by simp; omega) ?_; intro v5 w5 hown5 hgrow5 _ hat5; have HO5 := hid (EvOwn.snoc (x := ((T.1, T.2), an, cn)) HO4.out HN4.out HNew.out _ hown5 hgrow5 hat5); have HB5 := hid ((HB4.out.alloc (by have := HB4.out.size; omega) _).grown hgrow5 (by have := HB4.out.size; simp; omega) (fun q hq => (World.ownsRow.lt HO4.out.own q hq).1)); clear hown5 hgrow5 hat5))
            go_roundw
            case rel => exact ⟨k + 1, Q ++ [((T.1, T.2), an, cn)], by omega, by go_num, by rw [HMs.out, HEq.out], by rw [HCs.out, HMs.out, HEq.out, ← HQ.out]; simp [evsOf], by rw [HOs.out, HOk.out, HW.out]; rfl, HO5.out, HB5.out⟩
            case measure => simp [intOf]; omega
          · have HEq : Hid (max M T.1 = M) := by show max M T.1 = M; omega
            go_wp2_with (first | (go_at_call 28; refine (implEvent_is T true HW.out HX.out _ _ _ HT2.out (HK1.out.below HBb.out hgr) (Nat.lt_of_lt_of_le hgr HBb.out.size)).mono ?_; rintro e w1 ⟨rfl, hb1⟩; have HB1 := hid ((HB.out.trans (HBb.out.mono hsz)).trans (hb1.mono (Nat.le_trans hsz HBb.out.size))); have HO1 := hid ((HO.out.below HBb.out).below hb1); have HT1 := hid (HT2.out.below hb1); have hz1' := HB1.out.size; obtain ⟨hq, x0, x1⟩ := HXb.out.below hb1; clear hb1) | (go_at_call 87; refine (copyNames_any T.2 (fun i hi => by have := HSz.out i hi; omega) (by omega) a1 c1 _ HT1.out).mono ?_; rintro e w2 ⟨v2, rfl, hO2, hb2⟩; obtain ⟨an, cn, rfl, hn1, hn2, hn3⟩ := hO2.form; have HO4 := hid (HO1.out.below hb2); have HB4 := hid (HB1.out.trans (hb2.mono hz1')); have hz2' := hb2.size; have HNew := hid (new_apart HO1.out hn3); have HN4 : Hid (TsAt w2 an T.2 ∧ RowTs w2 an T.2.length ∧ ∀ q, an = some q → w.heap.size ≤ q.block ∧ q.block < w2.heap.size ∧ q = ⟨q.block, 0, none⟩) := ⟨hn1, hn2, fun q e => ⟨by have := hn3 q e; omega, (hn3 q e).2.1, (hn3 q e).2.2⟩⟩; clear hO2 hb2 hn1 hn2 hn3) | (at_builtin; refine wpList_append_own_at _ rfl _ _ 54 rfl w.heap.size 38 i0 _ 2 32 Tryd.uEvs hi hz0 hz1 hz2 rfl (by decide) _ _ _ rfl (HO4.out.own.alloc _) ⟨w2.heap.size, 0, none⟩ 1 1 [.int .i64 M, .slice an T.2.length cn] rfl rfl (cell_two _ _ (by simp) _ _ _) (by simp [Value.oneCell']) (by unfold maxLen; omega) (by omega) (by simp; omega) ?_; intro v5 w5 hown5 hgrow5 _ hat5; have HO5 := hid (EvOwn.snoc (x := ((M, T.2), an, cn)) HO4.out HN4.out HNew.out _ hown5 hgrow5 hat5); have HB5 := hid ((HB4.out.alloc (by have := HB4.out.size; omega) _).grown hgrow5 (by have := HB4.out.size; simp; omega) (fun q hq => (World.ownsRow.lt HO4.out.own q hq).1)); clear hown5 hgrow5 hat5))
            go_roundw
            case rel => exact ⟨k + 1, Q ++ [((M, T.2), an, cn)], by omega, by go_num, by rw [HMs.out, HEq.out], by rw [HCs.out, HMs.out, HEq.out, ← HQ.out]; simp [evsOf], by rw [HOs.out, HOk.out, HW.out]; rfl, HO5.out, HB5.out⟩
            case measure => simp [intOf]; omega
    · have hk' : k = E.length := by omega
      subst hk'
      have HN := hid (clampB_yes E (by omega) HOk.out)
      generalize mostTo E E.length = M at *
      go_wp2_with fail
      go_ret
      exact ⟨_, Q, rfl, by rw [HN.out]; exact HQ.out, HO.out, HB.out⟩
end Go.Proofs.YthjnlcjjhklfpaaDoor
