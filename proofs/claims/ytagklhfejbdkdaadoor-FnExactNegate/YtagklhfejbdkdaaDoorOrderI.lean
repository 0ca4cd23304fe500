/-
  The program's visit, orderOf and the library's IsSorted over places, by their contracts.
-/
import Derived.Test.YtagklhfejbdkdaaDoorVisA
import Derived.Test.YtagklhfejbdkdaaDoorVisB
import Derived.Test.YtagklhfejbdkdaaDoorVisC
import Derived.Deep.OwnRows
namespace Go.Proofs.YtagklhfejbdkdaaDoor
open Go.RowKit
set_option linter.unusedVariables false
set_option linter.unusedSimpArgs false
set_option maxRecDepth 20000 in
set_option maxHeartbeats 2000000 in
theorem visit_in (f : List Nd) (wb sn b cap base : Nat) (i : Nat) (l : List Nat) (S : Nat → Bool) (v : Value) (w : World) (hif : i < f.length) (hW : WalkAt w wb sn b cap base f v l S) (hA : Ag S l i) (hm : i ∈ l) :
    Calls Tryd.prog 77 #[.pointer (some ⟨wb, 0, none⟩), .int .i64 i] w fun e w' => e = .returned (.tuple #[]) ∧ w = w' := by
  have c1 := hW.c1
  have cs := hW.seen i hif
  rw [hA i (Nat.le_refl _), decide_eq_true hm] at cs
  clear hW hA hm
  go_enter Tryd.func77, Tryd.ntmps77
  go_wp2
  exact bodyPost_ret (v := .tuple #[]) (by simp [results, Tryd.results77, go_sem]) rfl ⟨rfl, rfl⟩
theorem visit_any (f : List Nd) (wb sn b cap base : Nat) (hfl : f.length ≤ 24) (hk : ∀ i, i < f.length → isB (ndAt f i).k 1 9 = true) : ∀ n, VisitC f wb sn b cap base n := by
  intro n
  induction n with
  | zero => intro i l S v w h; omega
  | succ n ih =>
    intro i l S v w hin hif hd hW hA
    by_cases hm : i ∈ l
    · refine (visit_in f wb sn b cap base i l S v w hif hW hA hm).mono ?_
      rintro e w' ⟨rfl, rfl⟩
      rw [walkF_in f n i l hm]
      exact ⟨rfl, v, S, hW, hA, fun _ _ => rfl, Save.refl _ _, fun k hk => Or.inl hk⟩
    · have hk' : (ndAt f i).k = 1 ∨ (ndAt f i).k = 2 ∨ (ndAt f i).k = 3 ∨ (ndAt f i).k = 4 ∨ (ndAt f i).k = 5 ∨ (ndAt f i).k = 6 ∨ (ndAt f i).k = 7 ∨ (ndAt f i).k = 8 ∨ (ndAt f i).k = 9 := by
        have := hk i hif
        simp [isB] at this
        omega
      rcases hk' with h | h | h | h | h | h | h | h | h
      · exact visit1 f wb sn b cap base n ih hfl i l S v w hin hif hd hW hA hm h
      · exact visit2 f wb sn b cap base n ih hfl i l S v w hin hif hd hW hA hm h
      · exact visit3 f wb sn b cap base n ih hfl i l S v w hin hif hd hW hA hm h
      · exact visit4 f wb sn b cap base n ih hfl i l S v w hin hif hd hW hA hm h
      · exact visit5 f wb sn b cap base n ih hfl i l S v w hin hif hd hW hA hm h
      · exact visit6 f wb sn b cap base n ih hfl i l S v w hin hif hd hW hA hm h
      · exact visit7 f wb sn b cap base n ih hfl i l S v w hin hif hd hW hA hm h
      · exact visit8 f wb sn b cap base n ih hfl i l S v w hin hif hd hW hA hm h
      · exact visit9 f wb sn b cap base n ih hfl i l S v w hin hif hd hW hA hm h
theorem Tryd.infoB : (Tryd.prog.info? 4).map (fun i => (i.zero, i.size, i.bytes)) = some (some (.bool false), 1, 1) := by kernel_rfl
theorem made_cell (w : World) (n : Nat) (o : Obj) (j : Nat) (hj : j < n) : ((w.alloc (.cells (madeCells #[.bool false] n) 4)).alloc o).cell? ⟨w.heap.size, j, none⟩ = some (.bool false) ∧ ((w.alloc (.cells (madeCells #[.bool false] n) 4)).alloc o).frozen? ⟨w.heap.size, j, none⟩ = false := by
  have h := (World.rowIs_made w (.bool false) n 4).alloc o
  exact ⟨h.cell hj, h.frozen j⟩
theorem WalkAt.start (w : World) (f : List Nd) (b cap : Nat) (hN : NodesAt w b f) : WalkAt ((w.alloc (.cells (madeCells #[.bool false] f.length) 4)).alloc (.cells #[.slice (some ⟨b, 0, none⟩) f.length cap, .slice (some ⟨w.heap.size, 0, none⟩) f.length f.length, .slice none 0 0] 106)) (w.heap.size + 1) w.heap.size b cap (w.heap.size + 2) f (.slice none 0 0) [] (fun _ => false) := by
  have hb := hN.1
  have hs : Below w.heap.size w ((w.alloc (.cells (madeCells #[.bool false] f.length) 4)).alloc (.cells #[.slice (some ⟨b, 0, none⟩) f.length cap, .slice (some ⟨w.heap.size, 0, none⟩) f.length f.length, .slice none 0 0] 106)) := ((Below.refl _ _).alloc (Nat.le_refl _) _).alloc (by simp) _
  exact ⟨by omega, by omega, by omega, by omega, by omega, by omega, by simp, by simp [go_sem], by simp [go_sem], by simp [go_sem], by simp [go_sem], fun j hj => (made_cell w _ _ j hj).1, fun j hj => (made_cell w _ _ j hj).2, hN.below hs hb, World.ownsRow_nil _ _ _ _, ⟨List.nodup_nil, fun j h => by cases h⟩⟩
theorem OwnsP.mono {w : World} {base base' : Nat} {v : Value} {l : List Nat} (h : OwnsP w base v l) (hb : base' ≤ base) : OwnsP w base' v l :=
  ⟨h.1, h.2.imp id (fun ⟨g, cap, cur, a, b, c⟩ => ⟨g, cap, cur, a, Nat.le_trans hb b, c⟩)⟩
set_option maxRecDepth 20000 in
set_option maxHeartbeats 2000000 in
theorem orderOf_any (f : List Nd) (b cap i : Nat) (w : World) (hN : NodesAt w b f) (hfl : f.length ≤ 24) (hk : ∀ i, i < f.length → isB (ndAt f i).k 1 9 = true) (hd : downTo f (i + 1)) (hif : i < f.length) :
    Calls Tryd.prog 69 #[.slice (some ⟨b, 0, none⟩) f.length cap, .int .i64 i] w fun e w' => ∃ v, e = .returned v ∧ OwnsP w' w.heap.size v (walkF f f.length i []) ∧ Below w.heap.size w w' := by
  have hmk := run_make_row' (P := Tryd.prog) 104 4 (.bool false) 1 Tryd.underlying104 Tryd.infoB rfl .i64 .i64 f.length (by omega) (by omega)
  have HN := hid hN
  have hb := hN.1
  clear hN
  go_enter Tryd.func69, Tryd.ntmps69
  go_wp2_with fail
  refine (visit_any f (w.heap.size + 1) w.heap.size b cap (w.heap.size + 2) hfl hk f.length i [] (fun _ => false) (.slice none 0 0) _ hif hif hd (WalkAt.start w f b cap HN.out) (fun j _ => by simp)).mono ?_
  rintro e w1 ⟨rfl, v1, S1, q1, q2, q3, q4, q5⟩
  have c2 := q1.c2
  have HO : Hid (OwnsP w1 w.heap.size v1 (walkF f f.length i [])) := q1.own.mono (by omega)
  have HB : Hid (Below w.heap.size w w1) := (((Below.refl _ _).alloc (Nat.le_refl _) _).alloc (by simp) _).trans (q4.below (by simp; omega) (fun j h => by
    rcases h with rfl | rfl | h
    · omega
    · omega
    · simp [Value.ownBlock] at h))
  obtain ⟨va, vc, hv, _⟩ := q1.own.form
  rw [hv] at c2 HO
  clear q1 q2 q3 q4 q5 hmk hk hd hv
  go_wp2_with fail
  go_ret
  exact ⟨_, rfl, HO.out, HB.out⟩

/-! ### The library's IsSorted -/
theorem less_any (x y : Int) (w : World) :
    Calls Tryd.prog 78 #[.int .i64 x, .int .i64 y] w fun e w' => e = .returned (.bool (decide (x < y))) ∧ w' = w := by
  rcases Bool.eq_false_or_eq_true (decide (x < y)) with h | h
  all_goals
    go_enter Tryd.func78, Tryd.ntmps78
    go_wp2
    go_ret
    exact ⟨by first | rfl | simp [h], rfl⟩
/-- Adjacent places do not fall, from i on. -/
def upFrom (l : List Nat) (i : Nat) : Prop := ∀ j, i ≤ j → j + 1 < l.length → l.getD j 0 ≤ l.getD (j + 1) 0
set_option maxRecDepth 20000 in
set_option maxHeartbeats 2000000 in
theorem isSorted_any (l : List Nat) (base : Nat) (v : Value) (w : World) (hO : OwnsP w base v l) (hl : l.length ≤ 24) :
    Calls Tryd.prog 70 #[v] w fun e w' => ∃ r : Bool, e = .returned (.bool r) ∧ (r = true ↔ upFrom l 0) ∧ Below w.heap.size w w' := by
  obtain ⟨a, c, rfl, hform⟩ := hO.form
  have HF := hid hform
  clear hO hform
  go_enter Tryd.func70, Tryd.ntmps70
  go_wp2_with fail
  go_loopw [3] (fun t wr => (∃ k : Nat, k < l.length ∧ t = .int .i64 k ∧ upFrom l k ∧ Below w.heap.size w wr) ∨ (l.length = 0 ∧ t = .int .i64 (-1) ∧ Below w.heap.size w wr)) (fun t _ => (intOf t).toNat)
  case atStart =>
    by_cases h0 : l.length = 0
    · exact Or.inr ⟨h0, by rw [h0]; rfl, Below.refl _ _⟩
    · exact Or.inl ⟨l.length - 1, by omega, by go_num, fun j h1 h2 => by omega, Below.refl _ _⟩
  case round =>
    rcases hrel with ⟨k, hk, rfl, hup, hbel⟩ | ⟨h0, rfl, hbel⟩
    · have HU := hid hup
      have HBL := hid hbel
      clear hup hbel
      by_cases hk0 : k = 0
      · subst hk0
        go_wp2_with fail
        go_ret
        exact ⟨true, rfl, ⟨fun _ => HU.out, fun _ => rfl⟩, HBL.out⟩
      · obtain ⟨g, rfl, hg1, hg2, hg3⟩ := HF.out (by omega)
        obtain ⟨q, hq⟩ : ∃ q, k = q + 1 := ⟨k - 1, by omega⟩
        have e1 := (HBL.out.cell (p := ⟨g, k, none⟩) hg2).trans (hg3 k hk)
        have e2 := (HBL.out.cell (p := ⟨g, q, none⟩) hg2).trans (hg3 q (by omega))
        have hkp : (k : Int) - 1 = (q : Int) := by omega
        have hw1 : IntKind.i64.wrap (q : Int) = (q : Int) := by rw [IntKind.wrap_i64]; omega
        have hw2 : wrap64 (q : Int) = (q : Int) := by unfold wrap64; omega
        have hql : q < l.length := by omega
        have HQ := hid hq
        clear hq
        clear hg3
        generalize hx : l.getD k 0 = x at e1
        generalize hy : l.getD q 0 = y at e2
        have HX := hid hx
        have HY := hid hy
        clear hx hy
        go_wp2_with fail
        go_quiet ((go_at_call 78; exact Calls.quiet_of_same (less_any _ _ _)))
        go_wp2_with fail
        · go_ret
          exact ⟨false, rfl, ⟨fun h => Bool.noConfusion h, fun h => by
            exfalso
            have h1 := h q (Nat.zero_le _) (by have := HQ.out; omega)
            rw [← HQ.out, HX.out, HY.out] at h1
            omega⟩, below_drewN HBL.out _⟩
        · go_roundw
          case rel => exact Or.inl ⟨q, by omega, by go_num, fun j h1 h2 => by
            by_cases e : j = q
            · subst e; rw [← HQ.out, HX.out, HY.out]; omega
            · exact HU.out j (by have := HQ.out; omega) h2, below_drewN HBL.out _⟩
          case measure => have := HQ.out; simp [intOf]; omega
    · have HBL := hid hbel
      clear hbel
      go_wp2_with fail
      go_ret
      exact ⟨true, rfl, ⟨fun _ j _ h => by omega, fun _ => rfl⟩, HBL.out⟩
end Go.Proofs.YtagklhfejbdkdaaDoor
