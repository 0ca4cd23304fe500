/-
  The model's FormulaRight by its contract.
-/
import Derived.Test.YtagklhfejbdkdaaDoorOrder
import Derived.Test.YtagklhfejbdkdaaDoorEql
import Derived.BigQuiet
import Derived.Deep.QuietTactic
namespace Go.Proofs.YtagklhfejbdkdaaDoor
open Go.RowKit
set_option linter.unusedVariables false
set_option linter.unusedSimpArgs false

set_option maxHeartbeats 1000000 in
theorem specNode_bad (k a b lo hi : Int) (nm : ByteArray) (i : Nat) (w : World) (h : isB k 1 9 = false) :
    Calls Tryd.prog 48 #[.agg #[.int .i64 k, .int .i64 a, .int .i64 b, .int .i64 lo, .int .i64 hi, .string nm], .int .i64 i] w fun e w' => e = .returned (.bool false) ∧ Below w.heap.size w w' := by
  go_enter Tryd.func48, Tryd.ntmps48
  go_wp2_with (first | (go_at_call 66; refine (is_any _ _ _ _).mono ?_; rintro e w' ⟨rfl, rfl⟩))
  go_ret
  exact ⟨rfl, (Below.refl _ _).alloc (Nat.le_refl _) _⟩
theorem specNode_any (x : Nd) (hs : x.nm.size ≤ maxLen) (i : Nat) (hi' : i < 1000) (w : World) :
    Calls Tryd.prog 48 #[ndV x, .int .i64 i] w fun e w' => e = .returned (.bool (nodeB x i)) ∧ Below w.heap.size w w' := by
  obtain ⟨k, a, b, lo, hi, nm⟩ := x
  show Calls Tryd.prog 48 #[.agg #[.int .i64 k, .int .i64 a, .int .i64 b, .int .i64 lo, .int .i64 hi, .string nm], .int .i64 i] w _
  rcases Bool.eq_false_or_eq_true (isB k 1 9) with h | h
  · have hk : k = 1 ∨ k = 2 ∨ k = 3 ∨ k = 4 ∨ k = 5 ∨ k = 6 ∨ k = 7 ∨ k = 8 ∨ k = 9 := by simp [isB] at h; omega
    rcases hk with rfl | rfl | rfl | rfl | rfl | rfl | rfl | rfl | rfl
    · exact specNode1 a b lo hi nm hs i hi' w
    · exact specNode2 a b lo hi nm hs i hi' w
    · exact specNode3 a b lo hi nm hs i hi' w
    · exact specNode4 a b lo hi nm hs i hi' w
    · exact specNode5 a b lo hi nm hs i hi' w
    · exact specNode6 a b lo hi nm hs i hi' w
    · exact specNode7 a b lo hi nm hs i hi' w
    · exact specNode8 a b lo hi nm hs i hi' w
    · exact specNode9 a b lo hi nm hs i hi' w
  · rw [node_kind (k, a, b, lo, hi, nm) i h]
    exact specNode_bad k a b lo hi nm i w h

theorem rightB_len (f : List Nd) (h : ¬ (1 ≤ f.length ∧ f.length ≤ 24)) : rightB f = false := by simp [rightB, h]
theorem rightB_good (f : List Nd) (k : Nat) (hk : k < f.length) (h : goodTo f (k + 1) = false) : rightB f = false := by
  simp [rightB, goodTo_false f k f.length hk h]
theorem rightB_eq (f : List Nd) (h1 : 1 ≤ f.length) (h2 : f.length ≤ 24) (h : goodTo f f.length = true) : rightB f = (walkF f f.length (f.length - 1) [] == List.range f.length) := by
  simp [rightB, h1, h2, h]
theorem goodTo_node (f : List Nd) (k : Nat) (h : nodeB (ndAt f k) k = false) : goodTo f (k + 1) = false := by
  rw [goodTo_succ, h]; simp
theorem goodTo_alike (f : List Nd) (k j : Nat) (hj : j < k) (h : ndAt f j = ndAt f k) : goodTo f (k + 1) = false := by
  rw [goodTo_succ]
  have : ((List.range k).all fun j => decide (ndAt f j ≠ ndAt f k)) = false := by
    simp only [List.all_eq_false, List.mem_range]
    exact ⟨j, hj, by simp [h]⟩
  rw [this]; simp
theorem goodTo_step (f : List Nd) (k : Nat) (h : goodTo f k = true) (hn : nodeB (ndAt f k) k = true) (hd : ∀ j, j < k → ndAt f j ≠ ndAt f k) : goodTo f (k + 1) = true := by
  rw [goodTo_succ, h, hn]
  simp only [Bool.true_and, List.all_eq_true, List.mem_range]
  intro j hj
  simp [hd j hj]
theorem range_false (l : List Nat) (n j : Nat) (hj : j < l.length) (h : l.getD j 0 ≠ j) : (l == List.range n) = false := by
  rw [beq_eq_false_iff_ne]
  intro e
  subst e
  simp at hj
  simp [List.getD, hj] at h
theorem range_true (l : List Nat) (n : Nat) (h : ∀ j, j < l.length → l.getD j 0 = j) : (l == List.range n) = ((l.length : Int) == (n : Int)) := by
  have hl : l = List.range l.length := by
    apply List.ext_getElem (by simp)
    intro j h1 h2
    have := h j h1
    simp [List.getD, h1] at this
    simp [this]
  rw [Bool.eq_iff_iff]
  simp only [beq_iff_eq]
  constructor
  · intro e; rw [e]; simp
  · intro e
    have : l.length = n := by omega
    rw [hl, this]

set_option maxRecDepth 20000 in
set_option maxHeartbeats 4000000 in
theorem specRight_any (f : List Nd) (b cap : Nat) (w : World) (hN : NodesAt w b f) (hs : ∀ i, i < f.length → (ndAt f i).nm.size ≤ maxLen) (hlen : f.length ≤ maxLen) :
    Calls Tryd.prog 23 #[.slice (some ⟨b, 0, none⟩) f.length cap] w fun e w' => e = .returned (.bool (rightB f)) ∧ Below w.heap.size w w' := by
  unfold maxLen at hlen
  by_cases h1 : f.length < 1
  · have HR : Hid (rightB f = false) := rightB_len f (by omega)
    clear hN hs
    go_enter Tryd.func23, Tryd.ntmps23
    go_wp2
    go_ret
    exact ⟨ret_bool HR.out.symm, Below.refl _ _⟩
  by_cases h2 : 24 < f.length
  · have HR : Hid (rightB f = false) := rightB_len f (by omega)
    clear hN hs
    go_enter Tryd.func23, Tryd.ntmps23
    go_wp2
    go_ret
    exact ⟨ret_bool HR.out.symm, Below.refl _ _⟩
  have HN := hide hN
  have HS := hide hs
  have hb := hN.1
  clear hN hs
  go_enter Tryd.func23, Tryd.ntmps23
  go_wp2_with fail
  go_loopw [3] (fun t wr => ∃ k : Nat, k ≤ f.length ∧ t = .int .i64 k ∧ goodTo f k = true ∧ Below w.heap.size w wr) (fun t _ => f.length - (intOf t).toNat)
  case atStart => exact ⟨0, Nat.zero_le _, rfl, rfl, Below.refl _ _⟩
  case round =>
    obtain ⟨k, hk, rfl, hg, hbel⟩ := hrel
    have HG := hide hg
    have HB := hide hbel
    have hsz := hbel.size
    clear hg
    have hNr := HN.out.below hbel hb
    clear hbel
    by_cases hlt : k < f.length
    · obtain ⟨c0, c1, c2, c3, c4, c5⟩ := hNr.2 k hlt
      have HNr := hide hNr
      clear hNr
      rcases Bool.eq_false_or_eq_true (nodeB (ndAt f k) k) with hn | hn
      · go_wp2_with (go_at_call 48; refine (specNode_any (ndAt f k) (unhide HS k hlt) k (by omega) _).mono ?_; rintro e w1 ⟨rfl, hb1⟩; have HNk := hide ((unhide HNr).below hb1 (by omega)); have HB1 := hide hb1; clear hb1)
        go_loopw [4] (fun t wj => ∃ j : Nat, j ≤ k ∧ t = .int .i64 j ∧ (∀ q, q < j → ndAt f q ≠ ndAt f k) ∧ ∃ nd, wj = w1.drewN nd) (fun t _ => k - (intOf t).toNat)
        case atStart => exact ⟨0, Nat.zero_le _, rfl, fun q h => by omega, 0, rfl⟩
        case round =>
          obtain ⟨j, hj, rfl, hq, nd, rfl⟩ := hrel
          have HQ := hide hq
          clear hq c0 c1 c2 c3 c4 c5
          by_cases hjk : j < k
          · obtain ⟨d0, d1, d2, d3, d4, d5⟩ := HNk.out.2 j (by omega)
            obtain ⟨e0, e1, e2, e3, e4, e5⟩ := HNk.out.2 k (by omega)
            by_cases hxy : ndAt f j = ndAt f k
            · have HR := hide (rightB_good f k hlt (goodTo_alike f k j hjk hxy))
              have heq : ∀ w', Sem.run Tryd.prog (binOp .eql 46 (.agg #[.int .i64 (ndAt f j).k, .int .i64 (ndAt f j).a, .int .i64 (ndAt f j).b, .int .i64 (ndAt f j).lo, .int .i64 (ndAt f j).hi, .string (ndAt f j).nm]) (.agg #[.int .i64 (ndAt f k).k, .int .i64 (ndAt f k).a, .int .i64 (ndAt f k).b, .int .i64 (ndAt f k).lo, .int .i64 (ndAt f k).hi, .string (ndAt f k).nm])) w' = .ok (.bool true) w' := fun w' => by
                have := eql_node (ndAt f j) (ndAt f k) w'
                simpa [ndV, hxy] using this
              clear hxy
              go_wp2
              go_quiet (fail)
              go_wp2
              go_ret
              exact ⟨ret_bool HR.out.symm, below_drewN (below_drewN (HB.out.trans (HB1.out.mono hsz)) _) _⟩
            · have HX := hide hxy
              have heq : ∀ w', Sem.run Tryd.prog (binOp .eql 46 (.agg #[.int .i64 (ndAt f j).k, .int .i64 (ndAt f j).a, .int .i64 (ndAt f j).b, .int .i64 (ndAt f j).lo, .int .i64 (ndAt f j).hi, .string (ndAt f j).nm]) (.agg #[.int .i64 (ndAt f k).k, .int .i64 (ndAt f k).a, .int .i64 (ndAt f k).b, .int .i64 (ndAt f k).lo, .int .i64 (ndAt f k).hi, .string (ndAt f k).nm])) w' = .ok (.bool false) w' := fun w' => by
                have := eql_node (ndAt f j) (ndAt f k) w'
                rw [decide_eq_false hxy] at this
                exact this
              clear hxy
              go_wp2
              go_quiet (fail)
              go_wp2
              go_roundw
              case rel => exact ⟨j + 1, by omega, by go_num, fun q hq => by
                by_cases e : q = j
                · subst e; exact HX.out
                · exact HQ.out q (by omega), _, rfl⟩
              case measure => simp [intOf]; omega
          · have hjk' : j = k := by omega
            subst hjk'
            have HG1 := hide (goodTo_step f j HG.out hn HQ.out)
            clear HQ HG hn
            go_wp2_with fail
            go_roundw
            case rel => exact ⟨j + 1, by omega, by go_num, HG1.out, below_drewN (HB.out.trans (HB1.out.mono hsz)) _⟩
            case measure => simp [intOf]; omega
      · have HR := hide (rightB_good f k hlt (goodTo_node f k hn))
        go_wp2_with (go_at_call 48; refine (specNode_any (ndAt f k) (unhide HS k hlt) k (by omega) _).mono ?_; rintro e w1 ⟨rfl, hb1⟩; have HB1 := hide hb1; clear hb1)
        go_ret
        exact ⟨ret_bool HR.out.symm, HB.out.trans (HB1.out.mono hsz)⟩
    · have hk' : k = f.length := by omega
      subst hk'
      have HR := hide (rightB_eq f (by omega) (by omega) HG.out)
      have HD : Hid (downTo f f.length) := goodTo_down f _ HG.out
      have HP : Hid (PlacesOk f []) := ⟨List.nodup_nil, fun j h => by cases h⟩
      have HP1 : Hid (PlacesOk f (walkF f f.length (f.length - 1) [])) := HP.out.walk (fun j hj => HD.out j (by omega)) (by omega) (by omega)
      have hwl := HP1.out.len
      clear HG
      have HNr := hide hNr
      clear hNr
      have hcast : ((f.length : Nat) : Int) - 1 = ((f.length - 1 : Nat) : Int) := by omega
      go_wp2_with fail
      refine (walk_any f b cap wr.heap.size (by omega) (by omega) f.length (f.length - 1) [] _ _ (by omega) (by omega) (fun j hj => HD.out j (by omega)) HNr.out (Nat.le_refl _) HP.out (World.ownsRow_nil _ _ _ _)).mono ?_
      rintro e w1 ⟨v1, rfl, hO1, hb1⟩
      generalize walkF f f.length (f.length - 1) [] = l at *
      obtain ⟨a, c, rfl, hform⟩ := hO1.form
      have HF := hide hform
      have HB1 := hide hb1
      clear hO1 hform hb1 hcast
      go_wp2_with fail
      go_loop [6] (fun t => ∃ j : Nat, j ≤ l.length ∧ t = .int .i64 j ∧ ∀ q, q < j → l.getD q 0 = q) (fun t => l.length - (intOf t).toNat)
      case atStart => exact ⟨0, Nat.zero_le _, rfl, fun q h => by omega⟩
      case round =>
        obtain ⟨j, hj, rfl, hq⟩ := hrel
        have HQ := hide hq
        clear hq
        by_cases hjl : j < l.length
        · obtain ⟨g, rfl, hg1, hg2, hg3⟩ := HF.out (by omega)
          have hc := hg3 j hjl
          clear hg3
          generalize hx : l.getD j 0 = x at hc
          have HX := hide hx
          clear hx
          by_cases hxj : x = j
          · subst hxj
            go_wp2_with fail
            go_round
            case rel => exact ⟨x + 1, by omega, by go_num, fun q hq => by
              by_cases e : q = x
              · subst e; exact HX.out
              · exact HQ.out q (by omega)⟩
            case measure => simp [intOf]; omega
          · have hne : ((x : Int) != (j : Int)) = true := by simp; omega
            have HR2 := hide (range_false l f.length j hjl (by rw [HX.out]; exact hxj))
            go_wp2_with fail
            go_ret
            exact ⟨ret_bool (by rw [HR.out, HR2.out]), HB.out.trans (HB1.out.mono hsz)⟩
        · have hjl' : j = l.length := by omega
          have HR2 := hide (range_true l f.length (hjl' ▸ HQ.out))
          go_wp2_with fail
          go_ret
          exact ⟨ret_bool (by rw [HR.out, HR2.out]), HB.out.trans (HB1.out.mono hsz)⟩
end Go.Proofs.YtagklhfejbdkdaaDoor
