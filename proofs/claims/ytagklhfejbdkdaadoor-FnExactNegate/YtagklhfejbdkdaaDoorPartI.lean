/-
  PartOf: the program's moved, partAt and PartOf, by their contracts.
-/
import Derived.Test.YtagklhfejbdkdaaDoorPartS
namespace Go.Proofs.YtagklhfejbdkdaaDoor
open Go.RowKit
set_option linter.unusedVariables false
set_option linter.unusedSimpArgs false
/-- The two boxes of moved: its argument's and its answer's. -/
structure TwoBox (w : World) (b : Nat) (x y : Nd) : Prop where
  lt : b + 1 < w.heap.size
  one : NodeAt w b 0 x
  two : NodeAt w (b + 1) 0 y
  fz1 : ∀ j, w.frozen? ⟨b, j, none⟩ = false
  fz2 : ∀ j, w.frozen? ⟨b + 1, j, none⟩ = false
theorem TwoBox.below {w w' : World} {b B : Nat} {x y : Nd} (h : TwoBox w b x y) (hb : Below B w w') (hB : b + 1 < B) : TwoBox w' b x y :=
  ⟨Nat.lt_of_lt_of_le h.lt hb.size, h.one.below hb (by omega), h.two.below hb hB, fun j => (hb.frozen (p := ⟨b, j, none⟩) (by simp only; omega)).trans (h.fz1 j), fun j => (hb.frozen (p := ⟨b + 1, j, none⟩) hB).trans (h.fz2 j)⟩
theorem box_two (w : World) (x y : Nd) : TwoBox ((w.alloc (.cells #[.int .i64 x.k, .int .i64 x.a, .int .i64 x.b, .int .i64 x.lo, .int .i64 x.hi, .string x.nm] 46)).alloc (.cells #[.int .i64 y.k, .int .i64 y.a, .int .i64 y.b, .int .i64 y.lo, .int .i64 y.hi, .string y.nm] 46)) w.heap.size x y :=
  ⟨by simp, ⟨by simp [go_sem], by simp [go_sem], by simp [go_sem], by simp [go_sem], by simp [go_sem], by simp [go_sem]⟩, ⟨by simp [go_sem], by simp [go_sem], by simp [go_sem], by simp [go_sem], by simp [go_sem], by simp [go_sem]⟩, fun j => by simp [go_sem], fun j => by simp [go_sem]⟩
set_option maxRecDepth 20000 in
set_option maxHeartbeats 2000000 in
theorem moved1 (a : Int) (b : Int) (lo hi : Int) (nm : ByteArray) (tb n c : Nat) (to : Nat → Int) (w : World) (hR : RowD w tb n to) (hn : n ≤ 24) :
    Calls Tryd.prog 60 #[.agg #[.int .i64 1, .int .i64 a, .int .i64 b, .int .i64 lo, .int .i64 hi, .string nm], .slice (some ⟨tb, 0, none⟩) n c] w fun e w' => e = .returned (.agg #[.int .i64 1, .int .i64 a, .int .i64 b, .int .i64 lo, .int .i64 hi, .string nm]) ∧ Below w.heap.size w w' := by
  have HR := hid hR
  have htb := hR.lt
  clear hR
  have hpm := pmeth1 a b lo hi nm
  have hnt : ¬ tb = w.heap.size := by omega
  have hnt2 : ¬ w.heap.size = tb := by omega
  have HBX := hide (box_two w ((1, a, b, lo, hi, nm) : Nd) ((0, 0, 0, 0, 0, ⟨#[]⟩) : Nd))
  go_enter Tryd.func60, Tryd.ntmps60
  go_wp2_with fail
  go_at_call 72
  refine (form1 _ _ _ _ _ _).mono ?_
  rintro e w1 ⟨rfl, hb1⟩
  have HX1 := hide (HBX.out.below hb1 (by simp))
  have HB1 : Hid (Below w.heap.size w w1) := (((Below.refl _ _).alloc (Nat.le_refl _) _).alloc (by simp) _).trans (hb1.mono (by simp; omega))
  clear hb1
  go_wp2_with fail
  go_at_call 98
  refine (parts0 _).mono ?_
  rintro e w3 ⟨rfl, hb3⟩
  have HX3 := hide (HX1.out.below hb3 HX1.out.lt)
  have HB3 : Hid (Below w.heap.size w w3) := HB1.out.trans (hb3.mono HB1.out.size)
  have hz3 := HX3.out.lt
  obtain ⟨d0, d1, d2, d3, d4, d5⟩ := HX3.out.one.zero
  obtain ⟨e0, e1, e2, e3, e4, e5⟩ := HX3.out.two.zero
  have fz1 := HX3.out.fz1 1
  have fz2 := HX3.out.fz1 2
  have g0 := HX3.out.fz2 0
  have g1 := HX3.out.fz2 1
  have g2 := HX3.out.fz2 2
  have g3 := HX3.out.fz2 3
  have g4 := HX3.out.fz2 4
  have g5 := HX3.out.fz2 5
  clear hb3
  go_wp2_with fail
  refine bodyPost_ret (v := .agg #[.int .i64 1, .int .i64 a, .int .i64 b, .int .i64 lo, .int .i64 hi, .string nm]) (by simp [results, Tryd.results60, go_sem, d0, d1, d2, d3, d4, d5, e0, e1, e2, e3, e4, e5]) rfl ⟨rfl, ((((((HB3.out.setCell (Nat.le_succ _) _).setCell (Nat.le_succ _) _).setCell (Nat.le_succ _) _).setCell (Nat.le_succ _) _).setCell (Nat.le_succ _) _).setCell (Nat.le_succ _) _)⟩
set_option maxRecDepth 20000 in
set_option maxHeartbeats 2000000 in
theorem moved2 (a : Int) (b : Int) (lo hi : Int) (nm : ByteArray) (tb n c : Nat) (to : Nat → Int) (w : World) (hR : RowD w tb n to) (hn : n ≤ 24) :
    Calls Tryd.prog 60 #[.agg #[.int .i64 2, .int .i64 a, .int .i64 b, .int .i64 lo, .int .i64 hi, .string nm], .slice (some ⟨tb, 0, none⟩) n c] w fun e w' => e = .returned (.agg #[.int .i64 2, .int .i64 a, .int .i64 b, .int .i64 lo, .int .i64 hi, .string nm]) ∧ Below w.heap.size w w' := by
  have HR := hid hR
  have htb := hR.lt
  clear hR
  have hpm := pmeth2 a b lo hi nm
  have hnt : ¬ tb = w.heap.size := by omega
  have hnt2 : ¬ w.heap.size = tb := by omega
  have HBX := hide (box_two w ((2, a, b, lo, hi, nm) : Nd) ((0, 0, 0, 0, 0, ⟨#[]⟩) : Nd))
  go_enter Tryd.func60, Tryd.ntmps60
  go_wp2_with fail
  go_at_call 72
  refine (form2 _ _ _ _ _ _).mono ?_
  rintro e w1 ⟨rfl, hb1⟩
  have HX1 := hide (HBX.out.below hb1 (by simp))
  have HB1 : Hid (Below w.heap.size w w1) := (((Below.refl _ _).alloc (Nat.le_refl _) _).alloc (by simp) _).trans (hb1.mono (by simp; omega))
  clear hb1
  go_wp2_with fail
  go_at_call 98
  refine (parts0 _).mono ?_
  rintro e w3 ⟨rfl, hb3⟩
  have HX3 := hide (HX1.out.below hb3 HX1.out.lt)
  have HB3 : Hid (Below w.heap.size w w3) := HB1.out.trans (hb3.mono HB1.out.size)
  have hz3 := HX3.out.lt
  obtain ⟨d0, d1, d2, d3, d4, d5⟩ := HX3.out.one.zero
  obtain ⟨e0, e1, e2, e3, e4, e5⟩ := HX3.out.two.zero
  have fz1 := HX3.out.fz1 1
  have fz2 := HX3.out.fz1 2
  have g0 := HX3.out.fz2 0
  have g1 := HX3.out.fz2 1
  have g2 := HX3.out.fz2 2
  have g3 := HX3.out.fz2 3
  have g4 := HX3.out.fz2 4
  have g5 := HX3.out.fz2 5
  clear hb3
  go_wp2_with fail
  refine bodyPost_ret (v := .agg #[.int .i64 2, .int .i64 a, .int .i64 b, .int .i64 lo, .int .i64 hi, .string nm]) (by simp [results, Tryd.results60, go_sem, d0, d1, d2, d3, d4, d5, e0, e1, e2, e3, e4, e5]) rfl ⟨rfl, ((((((HB3.out.setCell (Nat.le_succ _) _).setCell (Nat.le_succ _) _).setCell (Nat.le_succ _) _).setCell (Nat.le_succ _) _).setCell (Nat.le_succ _) _).setCell (Nat.le_succ _) _)⟩
set_option maxRecDepth 20000 in
set_option maxHeartbeats 2000000 in
theorem moved3 (na : Nat) (b : Int) (lo hi : Int) (nm : ByteArray) (tb n c : Nat) (to : Nat → Int) (w : World) (hR : RowD w tb n to) (hna : na < n) (hn : n ≤ 24) :
    Calls Tryd.prog 60 #[.agg #[.int .i64 3, .int .i64 na, .int .i64 b, .int .i64 lo, .int .i64 hi, .string nm], .slice (some ⟨tb, 0, none⟩) n c] w fun e w' => e = .returned (.agg #[.int .i64 3, .int .i64 (to na), .int .i64 b, .int .i64 lo, .int .i64 hi, .string nm]) ∧ Below w.heap.size w w' := by
  have HR := hid hR
  have htb := hR.lt
  clear hR
  have hpm := pmeth3 na b lo hi nm
  have hnt : ¬ tb = w.heap.size := by omega
  have hnt2 : ¬ w.heap.size = tb := by omega
  have HBX := hide (box_two w ((3, na, b, lo, hi, nm) : Nd) ((0, 0, 0, 0, 0, ⟨#[]⟩) : Nd))
  go_enter Tryd.func60, Tryd.ntmps60
  go_wp2_with fail
  go_at_call 72
  refine (form3 _ _ _ _ _ _).mono ?_
  rintro e w1 ⟨rfl, hb1⟩
  have HX1 := hide (HBX.out.below hb1 (by simp))
  have HB1 : Hid (Below w.heap.size w w1) := (((Below.refl _ _).alloc (Nat.le_refl _) _).alloc (by simp) _).trans (hb1.mono (by simp; omega))
  clear hb1
  go_wp2_with fail
  go_at_call 96
  refine (parts1 _ _).mono ?_
  rintro e w3 ⟨g, rfl, hg1, hg2, hg3, hb3⟩
  have HX3 := hide (HX1.out.below hb3 HX1.out.lt)
  have HB3 : Hid (Below w.heap.size w w3) := HB1.out.trans (hb3.mono HB1.out.size)
  have hz3 := HX3.out.lt
  obtain ⟨d0, d1, d2, d3, d4, d5⟩ := HX3.out.one.zero
  obtain ⟨e0, e1, e2, e3, e4, e5⟩ := HX3.out.two.zero
  have fz1 := HX3.out.fz1 1
  have fz2 := HX3.out.fz1 2
  have g0 := HX3.out.fz2 0
  have g1 := HX3.out.fz2 1
  have g2 := HX3.out.fz2 2
  have g3 := HX3.out.fz2 3
  have g4 := HX3.out.fz2 4
  have g5 := HX3.out.fz2 5
  clear hb3
  have ea := (World.rowIs.of_block HR.out (HB3.out.block _ htb)).cell (i := na) hna
  go_wp2_with fail
  refine bodyPost_ret (v := .agg #[.int .i64 3, .int .i64 (to na), .int .i64 b, .int .i64 lo, .int .i64 hi, .string nm]) (by simp [results, Tryd.results60, go_sem, d0, d1, d2, d3, d4, d5, e0, e1, e2, e3, e4, e5]) rfl ⟨rfl, (((((((HB3.out.setCell (Nat.le_refl _) _).setCell (Nat.le_succ _) _).setCell (Nat.le_succ _) _).setCell (Nat.le_succ _) _).setCell (Nat.le_succ _) _).setCell (Nat.le_succ _) _).setCell (Nat.le_succ _) _)⟩
set_option maxRecDepth 20000 in
set_option maxHeartbeats 2000000 in
theorem moved4 (na : Nat) (nb : Nat) (lo hi : Int) (nm : ByteArray) (tb n c : Nat) (to : Nat → Int) (w : World) (hR : RowD w tb n to) (hna : na < n) (hnb : nb < n) (hn : n ≤ 24) :
    Calls Tryd.prog 60 #[.agg #[.int .i64 4, .int .i64 na, .int .i64 nb, .int .i64 lo, .int .i64 hi, .string nm], .slice (some ⟨tb, 0, none⟩) n c] w fun e w' => e = .returned (.agg #[.int .i64 4, .int .i64 (to na), .int .i64 (to nb), .int .i64 lo, .int .i64 hi, .string nm]) ∧ Below w.heap.size w w' := by
  have HR := hid hR
  have htb := hR.lt
  clear hR
  have hpm := pmeth4 na nb lo hi nm
  have hnt : ¬ tb = w.heap.size := by omega
  have hnt2 : ¬ w.heap.size = tb := by omega
  have HBX := hide (box_two w ((4, na, nb, lo, hi, nm) : Nd) ((0, 0, 0, 0, 0, ⟨#[]⟩) : Nd))
  go_enter Tryd.func60, Tryd.ntmps60
  go_wp2_with fail
  go_at_call 72
  refine (form4 _ _ _ _ _ _).mono ?_
  rintro e w1 ⟨rfl, hb1⟩
  have HX1 := hide (HBX.out.below hb1 (by simp))
  have HB1 : Hid (Below w.heap.size w w1) := (((Below.refl _ _).alloc (Nat.le_refl _) _).alloc (by simp) _).trans (hb1.mono (by simp; omega))
  clear hb1
  go_wp2_with fail
  go_at_call 97
  refine (parts2 _ _ _).mono ?_
  rintro e w3 ⟨g, rfl, hg1, hg2, hg3, hg4, hb3⟩
  have HX3 := hide (HX1.out.below hb3 HX1.out.lt)
  have HB3 : Hid (Below w.heap.size w w3) := HB1.out.trans (hb3.mono HB1.out.size)
  have hz3 := HX3.out.lt
  obtain ⟨d0, d1, d2, d3, d4, d5⟩ := HX3.out.one.zero
  obtain ⟨e0, e1, e2, e3, e4, e5⟩ := HX3.out.two.zero
  have fz1 := HX3.out.fz1 1
  have fz2 := HX3.out.fz1 2
  have g0 := HX3.out.fz2 0
  have g1 := HX3.out.fz2 1
  have g2 := HX3.out.fz2 2
  have g3 := HX3.out.fz2 3
  have g4 := HX3.out.fz2 4
  have g5 := HX3.out.fz2 5
  clear hb3
  have ea := (World.rowIs.of_block HR.out (HB3.out.block _ htb)).cell (i := na) hna
  have eb := (World.rowIs.of_block HR.out (HB3.out.block _ htb)).cell (i := nb) hnb
  go_wp2_with fail
  refine bodyPost_ret (v := .agg #[.int .i64 4, .int .i64 (to na), .int .i64 (to nb), .int .i64 lo, .int .i64 hi, .string nm]) (by simp [results, Tryd.results60, go_sem, d0, d1, d2, d3, d4, d5, e0, e1, e2, e3, e4, e5]) rfl ⟨rfl, ((((((((HB3.out.setCell (Nat.le_refl _) _).setCell (Nat.le_refl _) _).setCell (Nat.le_succ _) _).setCell (Nat.le_succ _) _).setCell (Nat.le_succ _) _).setCell (Nat.le_succ _) _).setCell (Nat.le_succ _) _).setCell (Nat.le_succ _) _)⟩
set_option maxRecDepth 20000 in
set_option maxHeartbeats 2000000 in
theorem moved5 (na : Nat) (nb : Nat) (lo hi : Int) (nm : ByteArray) (tb n c : Nat) (to : Nat → Int) (w : World) (hR : RowD w tb n to) (hna : na < n) (hnb : nb < n) (hn : n ≤ 24) :
    Calls Tryd.prog 60 #[.agg #[.int .i64 5, .int .i64 na, .int .i64 nb, .int .i64 lo, .int .i64 hi, .string nm], .slice (some ⟨tb, 0, none⟩) n c] w fun e w' => e = .returned (.agg #[.int .i64 5, .int .i64 (to na), .int .i64 (to nb), .int .i64 lo, .int .i64 hi, .string nm]) ∧ Below w.heap.size w w' := by
  have HR := hid hR
  have htb := hR.lt
  clear hR
  have hpm := pmeth5 na nb lo hi nm
  have hnt : ¬ tb = w.heap.size := by omega
  have hnt2 : ¬ w.heap.size = tb := by omega
  have HBX := hide (box_two w ((5, na, nb, lo, hi, nm) : Nd) ((0, 0, 0, 0, 0, ⟨#[]⟩) : Nd))
  go_enter Tryd.func60, Tryd.ntmps60
  go_wp2_with fail
  go_at_call 72
  refine (form5 _ _ _ _ _ _).mono ?_
  rintro e w1 ⟨rfl, hb1⟩
  have HX1 := hide (HBX.out.below hb1 (by simp))
  have HB1 : Hid (Below w.heap.size w w1) := (((Below.refl _ _).alloc (Nat.le_refl _) _).alloc (by simp) _).trans (hb1.mono (by simp; omega))
  clear hb1
  go_wp2_with fail
  go_at_call 97
  refine (parts2 _ _ _).mono ?_
  rintro e w3 ⟨g, rfl, hg1, hg2, hg3, hg4, hb3⟩
  have HX3 := hide (HX1.out.below hb3 HX1.out.lt)
  have HB3 : Hid (Below w.heap.size w w3) := HB1.out.trans (hb3.mono HB1.out.size)
  have hz3 := HX3.out.lt
  obtain ⟨d0, d1, d2, d3, d4, d5⟩ := HX3.out.one.zero
  obtain ⟨e0, e1, e2, e3, e4, e5⟩ := HX3.out.two.zero
  have fz1 := HX3.out.fz1 1
  have fz2 := HX3.out.fz1 2
  have g0 := HX3.out.fz2 0
  have g1 := HX3.out.fz2 1
  have g2 := HX3.out.fz2 2
  have g3 := HX3.out.fz2 3
  have g4 := HX3.out.fz2 4
  have g5 := HX3.out.fz2 5
  clear hb3
  have ea := (World.rowIs.of_block HR.out (HB3.out.block _ htb)).cell (i := na) hna
  have eb := (World.rowIs.of_block HR.out (HB3.out.block _ htb)).cell (i := nb) hnb
  go_wp2_with fail
  refine bodyPost_ret (v := .agg #[.int .i64 5, .int .i64 (to na), .int .i64 (to nb), .int .i64 lo, .int .i64 hi, .string nm]) (by simp [results, Tryd.results60, go_sem, d0, d1, d2, d3, d4, d5, e0, e1, e2, e3, e4, e5]) rfl ⟨rfl, ((((((((HB3.out.setCell (Nat.le_refl _) _).setCell (Nat.le_refl _) _).setCell (Nat.le_succ _) _).setCell (Nat.le_succ _) _).setCell (Nat.le_succ _) _).setCell (Nat.le_succ _) _).setCell (Nat.le_succ _) _).setCell (Nat.le_succ _) _)⟩
set_option maxRecDepth 20000 in
set_option maxHeartbeats 2000000 in
theorem moved6 (na : Nat) (b : Int) (lo hi : Int) (nm : ByteArray) (tb n c : Nat) (to : Nat → Int) (w : World) (hR : RowD w tb n to) (hna : na < n) (hn : n ≤ 24) :
    Calls Tryd.prog 60 #[.agg #[.int .i64 6, .int .i64 na, .int .i64 b, .int .i64 lo, .int .i64 hi, .string nm], .slice (some ⟨tb, 0, none⟩) n c] w fun e w' => e = .returned (.agg #[.int .i64 6, .int .i64 (to na), .int .i64 b, .int .i64 lo, .int .i64 hi, .string nm]) ∧ Below w.heap.size w w' := by
  have HR := hid hR
  have htb := hR.lt
  clear hR
  have hpm := pmeth6 na b lo hi nm
  have hnt : ¬ tb = w.heap.size := by omega
  have hnt2 : ¬ w.heap.size = tb := by omega
  have HBX := hide (box_two w ((6, na, b, lo, hi, nm) : Nd) ((0, 0, 0, 0, 0, ⟨#[]⟩) : Nd))
  go_enter Tryd.func60, Tryd.ntmps60
  go_wp2_with fail
  go_at_call 72
  refine (form6 _ _ _ _ _ _).mono ?_
  rintro e w1 ⟨rfl, hb1⟩
  have HX1 := hide (HBX.out.below hb1 (by simp))
  have HB1 : Hid (Below w.heap.size w w1) := (((Below.refl _ _).alloc (Nat.le_refl _) _).alloc (by simp) _).trans (hb1.mono (by simp; omega))
  clear hb1
  go_wp2_with fail
  go_at_call 96
  refine (parts1 _ _).mono ?_
  rintro e w3 ⟨g, rfl, hg1, hg2, hg3, hb3⟩
  have HX3 := hide (HX1.out.below hb3 HX1.out.lt)
  have HB3 : Hid (Below w.heap.size w w3) := HB1.out.trans (hb3.mono HB1.out.size)
  have hz3 := HX3.out.lt
  obtain ⟨d0, d1, d2, d3, d4, d5⟩ := HX3.out.one.zero
  obtain ⟨e0, e1, e2, e3, e4, e5⟩ := HX3.out.two.zero
  have fz1 := HX3.out.fz1 1
  have fz2 := HX3.out.fz1 2
  have g0 := HX3.out.fz2 0
  have g1 := HX3.out.fz2 1
  have g2 := HX3.out.fz2 2
  have g3 := HX3.out.fz2 3
  have g4 := HX3.out.fz2 4
  have g5 := HX3.out.fz2 5
  clear hb3
  have ea := (World.rowIs.of_block HR.out (HB3.out.block _ htb)).cell (i := na) hna
  go_wp2_with fail
  refine bodyPost_ret (v := .agg #[.int .i64 6, .int .i64 (to na), .int .i64 b, .int .i64 lo, .int .i64 hi, .string nm]) (by simp [results, Tryd.results60, go_sem, d0, d1, d2, d3, d4, d5, e0, e1, e2, e3, e4, e5]) rfl ⟨rfl, (((((((HB3.out.setCell (Nat.le_refl _) _).setCell (Nat.le_succ _) _).setCell (Nat.le_succ _) _).setCell (Nat.le_succ _) _).setCell (Nat.le_succ _) _).setCell (Nat.le_succ _) _).setCell (Nat.le_succ _) _)⟩
set_option maxRecDepth 20000 in
set_option maxHeartbeats 2000000 in
theorem moved7 (na : Nat) (b : Int) (lo hi : Int) (nm : ByteArray) (tb n c : Nat) (to : Nat → Int) (w : World) (hR : RowD w tb n to) (hna : na < n) (hn : n ≤ 24) :
    Calls Tryd.prog 60 #[.agg #[.int .i64 7, .int .i64 na, .int .i64 b, .int .i64 lo, .int .i64 hi, .string nm], .slice (some ⟨tb, 0, none⟩) n c] w fun e w' => e = .returned (.agg #[.int .i64 7, .int .i64 (to na), .int .i64 b, .int .i64 lo, .int .i64 hi, .string nm]) ∧ Below w.heap.size w w' := by
  have HR := hid hR
  have htb := hR.lt
  clear hR
  have hpm := pmeth7 na b lo hi nm
  have hnt : ¬ tb = w.heap.size := by omega
  have hnt2 : ¬ w.heap.size = tb := by omega
  have HBX := hide (box_two w ((7, na, b, lo, hi, nm) : Nd) ((0, 0, 0, 0, 0, ⟨#[]⟩) : Nd))
  go_enter Tryd.func60, Tryd.ntmps60
  go_wp2_with fail
  go_at_call 72
  refine (form7 _ _ _ _ _ _).mono ?_
  rintro e w1 ⟨rfl, hb1⟩
  have HX1 := hide (HBX.out.below hb1 (by simp))
  have HB1 : Hid (Below w.heap.size w w1) := (((Below.refl _ _).alloc (Nat.le_refl _) _).alloc (by simp) _).trans (hb1.mono (by simp; omega))
  clear hb1
  go_wp2_with fail
  go_at_call 96
  refine (parts1 _ _).mono ?_
  rintro e w3 ⟨g, rfl, hg1, hg2, hg3, hb3⟩
  have HX3 := hide (HX1.out.below hb3 HX1.out.lt)
  have HB3 : Hid (Below w.heap.size w w3) := HB1.out.trans (hb3.mono HB1.out.size)
  have hz3 := HX3.out.lt
  obtain ⟨d0, d1, d2, d3, d4, d5⟩ := HX3.out.one.zero
  obtain ⟨e0, e1, e2, e3, e4, e5⟩ := HX3.out.two.zero
  have fz1 := HX3.out.fz1 1
  have fz2 := HX3.out.fz1 2
  have g0 := HX3.out.fz2 0
  have g1 := HX3.out.fz2 1
  have g2 := HX3.out.fz2 2
  have g3 := HX3.out.fz2 3
  have g4 := HX3.out.fz2 4
  have g5 := HX3.out.fz2 5
  clear hb3
  have ea := (World.rowIs.of_block HR.out (HB3.out.block _ htb)).cell (i := na) hna
  go_wp2_with fail
  refine bodyPost_ret (v := .agg #[.int .i64 7, .int .i64 (to na), .int .i64 b, .int .i64 lo, .int .i64 hi, .string nm]) (by simp [results, Tryd.results60, go_sem, d0, d1, d2, d3, d4, d5, e0, e1, e2, e3, e4, e5]) rfl ⟨rfl, (((((((HB3.out.setCell (Nat.le_refl _) _).setCell (Nat.le_succ _) _).setCell (Nat.le_succ _) _).setCell (Nat.le_succ _) _).setCell (Nat.le_succ _) _).setCell (Nat.le_succ _) _).setCell (Nat.le_succ _) _)⟩
set_option maxRecDepth 20000 in
set_option maxHeartbeats 2000000 in
theorem moved8 (na : Nat) (b : Int) (lo hi : Int) (nm : ByteArray) (tb n c : Nat) (to : Nat → Int) (w : World) (hR : RowD w tb n to) (hna : na < n) (hn : n ≤ 24) :
    Calls Tryd.prog 60 #[.agg #[.int .i64 8, .int .i64 na, .int .i64 b, .int .i64 lo, .int .i64 hi, .string nm], .slice (some ⟨tb, 0, none⟩) n c] w fun e w' => e = .returned (.agg #[.int .i64 8, .int .i64 (to na), .int .i64 b, .int .i64 lo, .int .i64 hi, .string nm]) ∧ Below w.heap.size w w' := by
  have HR := hid hR
  have htb := hR.lt
  clear hR
  have hpm := pmeth8 na b lo hi nm
  have hnt : ¬ tb = w.heap.size := by omega
  have hnt2 : ¬ w.heap.size = tb := by omega
  have HBX := hide (box_two w ((8, na, b, lo, hi, nm) : Nd) ((0, 0, 0, 0, 0, ⟨#[]⟩) : Nd))
  go_enter Tryd.func60, Tryd.ntmps60
  go_wp2_with fail
  go_at_call 72
  refine (form8 _ _ _ _ _ _).mono ?_
  rintro e w1 ⟨rfl, hb1⟩
  have HX1 := hide (HBX.out.below hb1 (by simp))
  have HB1 : Hid (Below w.heap.size w w1) := (((Below.refl _ _).alloc (Nat.le_refl _) _).alloc (by simp) _).trans (hb1.mono (by simp; omega))
  clear hb1
  go_wp2_with fail
  go_at_call 96
  refine (parts1 _ _).mono ?_
  rintro e w3 ⟨g, rfl, hg1, hg2, hg3, hb3⟩
  have HX3 := hide (HX1.out.below hb3 HX1.out.lt)
  have HB3 : Hid (Below w.heap.size w w3) := HB1.out.trans (hb3.mono HB1.out.size)
  have hz3 := HX3.out.lt
  obtain ⟨d0, d1, d2, d3, d4, d5⟩ := HX3.out.one.zero
  obtain ⟨e0, e1, e2, e3, e4, e5⟩ := HX3.out.two.zero
  have fz1 := HX3.out.fz1 1
  have fz2 := HX3.out.fz1 2
  have g0 := HX3.out.fz2 0
  have g1 := HX3.out.fz2 1
  have g2 := HX3.out.fz2 2
  have g3 := HX3.out.fz2 3
  have g4 := HX3.out.fz2 4
  have g5 := HX3.out.fz2 5
  clear hb3
  have ea := (World.rowIs.of_block HR.out (HB3.out.block _ htb)).cell (i := na) hna
  go_wp2_with fail
  refine bodyPost_ret (v := .agg #[.int .i64 8, .int .i64 (to na), .int .i64 b, .int .i64 lo, .int .i64 hi, .string nm]) (by simp [results, Tryd.results60, go_sem, d0, d1, d2, d3, d4, d5, e0, e1, e2, e3, e4, e5]) rfl ⟨rfl, (((((((HB3.out.setCell (Nat.le_refl _) _).setCell (Nat.le_succ _) _).setCell (Nat.le_succ _) _).setCell (Nat.le_succ _) _).setCell (Nat.le_succ _) _).setCell (Nat.le_succ _) _).setCell (Nat.le_succ _) _)⟩
set_option maxRecDepth 20000 in
set_option maxHeartbeats 2000000 in
theorem moved9 (na : Nat) (nb : Nat) (lo hi : Int) (nm : ByteArray) (tb n c : Nat) (to : Nat → Int) (w : World) (hR : RowD w tb n to) (hna : na < n) (hnb : nb < n) (hn : n ≤ 24) :
    Calls Tryd.prog 60 #[.agg #[.int .i64 9, .int .i64 na, .int .i64 nb, .int .i64 lo, .int .i64 hi, .string nm], .slice (some ⟨tb, 0, none⟩) n c] w fun e w' => e = .returned (.agg #[.int .i64 9, .int .i64 (to na), .int .i64 (to nb), .int .i64 lo, .int .i64 hi, .string nm]) ∧ Below w.heap.size w w' := by
  have HR := hid hR
  have htb := hR.lt
  clear hR
  have hpm := pmeth9 na nb lo hi nm
  have hnt : ¬ tb = w.heap.size := by omega
  have hnt2 : ¬ w.heap.size = tb := by omega
  have HBX := hide (box_two w ((9, na, nb, lo, hi, nm) : Nd) ((0, 0, 0, 0, 0, ⟨#[]⟩) : Nd))
  go_enter Tryd.func60, Tryd.ntmps60
  go_wp2_with fail
  go_at_call 72
  refine (form9 _ _ _ _ _ _).mono ?_
  rintro e w1 ⟨rfl, hb1⟩
  have HX1 := hide (HBX.out.below hb1 (by simp))
  have HB1 : Hid (Below w.heap.size w w1) := (((Below.refl _ _).alloc (Nat.le_refl _) _).alloc (by simp) _).trans (hb1.mono (by simp; omega))
  clear hb1
  go_wp2_with fail
  go_at_call 97
  refine (parts2 _ _ _).mono ?_
  rintro e w3 ⟨g, rfl, hg1, hg2, hg3, hg4, hb3⟩
  have HX3 := hide (HX1.out.below hb3 HX1.out.lt)
  have HB3 : Hid (Below w.heap.size w w3) := HB1.out.trans (hb3.mono HB1.out.size)
  have hz3 := HX3.out.lt
  obtain ⟨d0, d1, d2, d3, d4, d5⟩ := HX3.out.one.zero
  obtain ⟨e0, e1, e2, e3, e4, e5⟩ := HX3.out.two.zero
  have fz1 := HX3.out.fz1 1
  have fz2 := HX3.out.fz1 2
  have g0 := HX3.out.fz2 0
  have g1 := HX3.out.fz2 1
  have g2 := HX3.out.fz2 2
  have g3 := HX3.out.fz2 3
  have g4 := HX3.out.fz2 4
  have g5 := HX3.out.fz2 5
  clear hb3
  have ea := (World.rowIs.of_block HR.out (HB3.out.block _ htb)).cell (i := na) hna
  have eb := (World.rowIs.of_block HR.out (HB3.out.block _ htb)).cell (i := nb) hnb
  go_wp2_with fail
  refine bodyPost_ret (v := .agg #[.int .i64 9, .int .i64 (to na), .int .i64 (to nb), .int .i64 lo, .int .i64 hi, .string nm]) (by simp [results, Tryd.results60, go_sem, d0, d1, d2, d3, d4, d5, e0, e1, e2, e3, e4, e5]) rfl ⟨rfl, ((((((((HB3.out.setCell (Nat.le_refl _) _).setCell (Nat.le_refl _) _).setCell (Nat.le_succ _) _).setCell (Nat.le_succ _) _).setCell (Nat.le_succ _) _).setCell (Nat.le_succ _) _).setCell (Nat.le_succ _) _).setCell (Nat.le_succ _) _)⟩
end Go.Proofs.YtagklhfejbdkdaaDoor
