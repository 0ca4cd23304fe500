/-
  Rows of cells of monitors: plain facts; the laws' own helpers over them: szCellS, toCellS, eqCellS, by their contracts.
-/
import Derived.Test.YtljhokoojodjnaaGreatDoorKpE0
namespace Go.Proofs.YtljhokoojodjnaaGreatDoor
open Go.RowKit
set_option linter.unusedVariables false
set_option linter.unusedSimpArgs false
/-- A cell: a Keep, and Was. -/
structure Cl where
  lo : Int
  hi : Int
  ts : List Int
  was : Bool
def cl0 : Cl := ⟨0, 0, [], false⟩
def clAt (C : List Cl) (i : Nat) : Cl := C.getD i cl0
def ckV (lo hi : Int) (a : Option Addr) (n c : Nat) (was : Bool) : Value := .agg #[.int .i64 lo, .int .i64 hi, .slice a n c, .bool was]
/-- A cell that came in lies at a place. -/
def ArgC (w : World) (b o : Nat) (x : Cl) : Prop := w.cell? ⟨b, o, none⟩ = some (.int .i64 x.lo) ∧ w.cell? ⟨b, o + 1, none⟩ = some (.int .i64 x.hi) ∧ w.cell? ⟨b, o + 3, none⟩ = some (.bool x.was) ∧ ∃ a c, w.cell? ⟨b, o + 2, none⟩ = some (.slice a x.ts.length c) ∧ ArgI w a x.ts
def ArgCs (w : World) (a : Option Addr) (C : List Cl) : Prop := C.length = 0 ∨ ∃ b off, a = some ⟨b, off, none⟩ ∧ b < w.heap.size ∧ ∀ i, i < C.length → ArgC w b (off + i * 4) (clAt C i)
theorem ArgC.below {w w' : World} {b o : Nat} {x : Cl} {B : Nat} (h : ArgC w b o x) (hb : Below B w w') (hB : w.heap.size ≤ B) (hlt : b < w.heap.size) : ArgC w' b o x := by
  obtain ⟨h1, h2, h3, a, c, h4, h5⟩ := h
  exact ⟨(hb.cell (p := ⟨b, _, none⟩) (by show b < B; omega)).trans h1, (hb.cell (p := ⟨b, _, none⟩) (by show b < B; omega)).trans h2, (hb.cell (p := ⟨b, _, none⟩) (by show b < B; omega)).trans h3, a, c, (hb.cell (p := ⟨b, _, none⟩) (by show b < B; omega)).trans h4, h5.below hb hB⟩
theorem ArgCs.below {w w' : World} {a : Option Addr} {C : List Cl} {B : Nat} (h : ArgCs w a C) (hb : Below B w w') (hB : w.heap.size ≤ B) : ArgCs w' a C := by
  rcases h with h | ⟨b, off, e, hlt, hc⟩
  · exact Or.inl h
  · exact Or.inr ⟨b, off, e, Nat.lt_of_lt_of_le hlt hb.size, fun i hi => (hc i hi).below hb hB hlt⟩
/-- A cell of a row that the program has; its slice is one that looks as slices look. -/
def CkAt (w : World) (b o : Nat) (x : Cl) : Prop := w.cell? ⟨b, o, none⟩ = some (.int .i64 x.lo) ∧ w.cell? ⟨b, o + 1, none⟩ = some (.int .i64 x.hi) ∧ w.cell? ⟨b, o + 3, none⟩ = some (.bool x.was) ∧ ∃ a c, w.cell? ⟨b, o + 2, none⟩ = some (.slice a x.ts.length c) ∧ SlV a x.ts.length c ∧ ArgI w a x.ts
def CksAt (w : World) (a : Option Addr) (C : List Cl) : Prop := C.length = 0 ∨ ∃ b off, a = some ⟨b, off, none⟩ ∧ b < w.heap.size ∧ ∀ i, i < C.length → CkAt w b (off + i * 4) (clAt C i)
theorem CkAt.below {w w' : World} {b o : Nat} {x : Cl} {B : Nat} (h : CkAt w b o x) (hb : Below B w w') (hB : w.heap.size ≤ B) (hlt : b < w.heap.size) : CkAt w' b o x := by
  obtain ⟨h1, h2, h3, a, c, h4, h6, h5⟩ := h
  exact ⟨(hb.cell (p := ⟨b, _, none⟩) (by show b < B; omega)).trans h1, (hb.cell (p := ⟨b, _, none⟩) (by show b < B; omega)).trans h2, (hb.cell (p := ⟨b, _, none⟩) (by show b < B; omega)).trans h3, a, c, (hb.cell (p := ⟨b, _, none⟩) (by show b < B; omega)).trans h4, h6, h5.below hb hB⟩
theorem CksAt.below {w w' : World} {a : Option Addr} {C : List Cl} {B : Nat} (h : CksAt w a C) (hb : Below B w w') (hB : w.heap.size ≤ B) : CksAt w' a C := by
  rcases h with h | ⟨b, off, e, hlt, hc⟩
  · exact Or.inl h
  · exact Or.inr ⟨b, off, e, Nat.lt_of_lt_of_le hlt hb.size, fun i hi => (hc i hi).below hb hB hlt⟩
theorem CksAt.on {w w' : World} {a : Option Addr} {C : List Cl} (h : CksAt w a C) (hb : Below w.heap.size w w') : CksAt w' a C := h.below hb (Nat.le_refl _)
theorem CkAt.arg {w : World} {b o : Nat} {x : Cl} (h : CkAt w b o x) : ArgC w b o x := by
  obtain ⟨h1, h2, h3, a, c, h4, h6, h5⟩ := h
  exact ⟨h1, h2, h3, a, c, h4, h5⟩
def ClOk (x : Cl) : Prop := (-9223372036854775808 ≤ x.lo ∧ x.lo ≤ 9223372036854775807) ∧ (-9223372036854775808 ≤ x.hi ∧ x.hi ≤ 9223372036854775807) ∧ x.ts.length ≤ maxLen
/-- What is asked of a row of cells that came in. -/
structure InCs (w : World) (a : Option Addr) (C : List Cl) : Prop where
  arg : ArgCs w a C
  ok : ∀ i, i < C.length → ClOk (clAt C i)
  len : C.length ≤ maxLen
/-- How many times the first k cells have together. -/
def sumT (C : List Cl) : Nat → Nat
  | 0 => 0
  | k + 1 => sumT C k + (clAt C k).ts.length
theorem sumT_mono (C : List Cl) : ∀ {i k}, i ≤ k → sumT C i ≤ sumT C k := by
  intro i k h
  induction h with
  | refl => exact Nat.le_refl _
  | step _ ih => exact Nat.le_trans ih (Nat.le_add_right _ _)
theorem sumT_one (C : List Cl) {i k : Nat} (h : i < k) : (clAt C i).ts.length ≤ sumT C k := by
  have h1 := sumT_mono C (i := i + 1) (k := k) h
  have h2 : sumT C (i + 1) = sumT C i + (clAt C i).ts.length := rfl
  omega
set_option maxRecDepth 20000 in
set_option maxHeartbeats 1000000 in
theorem szCell_any (lo hi : Int) (n : Nat) (a : Option Addr) (cap : Nat) (was : Bool) (hl : n ≤ maxLen) (left : Int) (h1 : 0 ≤ left) (h2 : left ≤ 1048576) (w : World) :
    Calls Tryz.prog 203 #[ckV lo hi a n cap was, .int .i64 left] w fun e w' => ∃ r : Int, e = .returned (.int .i64 r) ∧ -1 ≤ r ∧ r ≤ 1048576 ∧ (0 ≤ r → r + n ≤ left) ∧ Below w.heap.size w w' := by
  unfold ckV
  have HB := hid (below_one' w (.cells #[.int .i64 lo, .int .i64 hi, .slice a n cap, .bool was] 266))
  have HC := hid (fun w => szKeep_any lo hi n a cap hl left h1 h2 w)
  unfold kpV at HC
  clear hl
  go_enter Tryz.func203, Tryz.ntmps203
  go_wp2_with (go_at_call 219; refine (HC.out _).mono ?_; rintro e w1 ⟨r, rfl, q1, q2, q3, hb⟩; have HQ := hid q3; have HB1 := hid (HB.out.trans (hb.mono (by simp))); clear q3 hb)
  · go_ret
    exact ⟨-1, rfl, by omega, by omega, by omega, HB1.out⟩
  · go_ret
    exact ⟨r, rfl, by omega, by omega, HQ.out, HB1.out⟩
set_option maxRecDepth 20000 in
set_option maxHeartbeats 1000000 in
theorem szCellS_any (C : List Cl) (a : Option Addr) (cap : Nat) (hs : ∀ i, i < C.length → ClOk (clAt C i)) (hl : C.length ≤ maxLen) (left : Int) (h1 : 0 ≤ left) (h2 : left ≤ 1048576) (w : World) (hA : ArgCs w a C) :
    Calls Tryz.prog 179 #[.slice a C.length cap, .int .i64 left] w fun e w' => ∃ r : Int, e = .returned (.int .i64 r) ∧ -1 ≤ r ∧ r ≤ 1048576 ∧ (0 ≤ r → C.length ≤ 1048576 ∧ sumT C C.length ≤ 1048576) ∧ Below w.heap.size w w' := by
  unfold maxLen at hl
  have HS := hid hs
  have HA := hid hA
  have HU : Hid (∀ lo hi a n c was, ckV lo hi a n c was = .agg #[.int .i64 lo, .int .i64 hi, .slice a n c, .bool was]) := fun _ _ _ _ _ _ => rfl
  clear hs hA
  by_cases h : left - (C.length : Int) < 0
  · go_enter Tryz.func179, Tryz.ntmps179
    go_wp2
    go_ret
    exact ⟨-1, rfl, by omega, by omega, by omega, Below.refl _ _⟩
  go_enter Tryz.func179, Tryz.ntmps179
  go_wp2_with fail
  go_loopw [1, 5] (fun l t wr => ∃ (k : Nat) (r : Int), k ≤ C.length ∧ t = .int .i64 k ∧ l = .int .i64 r ∧ 0 ≤ r ∧ r ≤ 1048576 ∧ r + sumT C k ≤ 1048576 ∧ Below w.heap.size w wr) (fun _ t _ => C.length - (intOf t).toNat)
  case atStart => exact ⟨0, _, Nat.zero_le _, rfl, rfl, by omega, by omega, by simp [sumT]; omega, Below.refl _ _⟩
  case round =>
    obtain ⟨k, r, hk, rfl, rfl, hr1, hr2, hr3, hbel⟩ := hrel
    have HS1 := hid (show sumT C (k + 1) = sumT C k + (clAt C k).ts.length from rfl)
    have HB := hid hbel
    have HR3 := hid hr3
    clear hbel hr3
    by_cases hlt : k < C.length
    · rcases HA.out with h0 | ⟨b, off, rfl, hb, hc⟩
      · omega
      · obtain ⟨c0, c1, c3, a', c', c2, hT⟩ := (hc k hlt).below HB.out (Nat.le_refl _) hb
        obtain ⟨_, _, ho2⟩ := HS.out k hlt
        have HC := hid (fun w => szCell_any (clAt C k).lo (clAt C k).hi (clAt C k).ts.length a' c' (clAt C k).was ho2 r hr1 hr2 w)
        rw [HU.out] at HC
        clear hc h hT ho2
        go_wp2_with (go_at_call 203; refine (HC.out _).mono ?_; rintro e w1 ⟨r', rfl, q1, q2, q3, hb1⟩; have HB1 : Hid (Below w.heap.size w w1) := HB.out.trans (hb1.mono HB.out.size); have HQ := hid q3; clear q3 hb1)
        · go_ret
          exact ⟨-1, rfl, by omega, by omega, by omega, HB1.out⟩
        · go_roundw
          case rel => exact ⟨k + 1, r', by omega, by go_num, rfl, by omega, q2, by have := HQ.out (by omega); have := HR3.out; rw [HS1.out]; push_cast; omega, HB1.out⟩
          case measure => simp [intOf]; omega
    · go_wp2_with fail
      go_ret
      have hk' : k = C.length := by omega
      exact ⟨r, rfl, by omega, by omega, fun _ => ⟨by omega, by subst hk'; have := HR3.out; omega⟩, HB.out⟩
/-- Cell j of a row of cells of which the first k are laid. -/
def rowC (C : List Cl) (V : Nat → Value) (z : Nat → Value) (k j : Nat) : Value := if j < k * 4 then (if j % 4 = 0 then .int .i64 (clAt C (j / 4)).lo else if j % 4 = 1 then .int .i64 (clAt C (j / 4)).hi else if j % 4 = 2 then V (j / 4) else .bool (clAt C (j / 4)).was) else z j
theorem rowC_step (C : List Cl) (V : Nat → Value) (z : Nat → Value) (k j : Nat) (v : Value) : rowC C (fun i => if i = k then v else V i) z (k + 1) j = if j = k * 4 + 3 then .bool (clAt C k).was else if j = k * 4 + 2 then v else if j = k * 4 + 1 then .int .i64 (clAt C k).hi else if j = k * 4 then .int .i64 (clAt C k).lo else rowC C V z k j := by
  unfold rowC
  by_cases h : j < k * 4
  · have e3 : ¬ j = k * 4 + 3 := by omega
    have e2 : ¬ j = k * 4 + 2 := by omega
    have e1 : ¬ j = k * 4 + 1 := by omega
    have e0 : ¬ j = k * 4 := by omega
    have h' : j < (k + 1) * 4 := by omega
    have hd : ¬ j / 4 = k := by omega
    simp only [e3, e2, e1, e0, h, h', hd, if_true, if_false]
  · by_cases h' : j < (k + 1) * 4
    · have hd : j / 4 = k := by omega
      have hj : j = k * 4 ∨ j = k * 4 + 1 ∨ j = k * 4 + 2 ∨ j = k * 4 + 3 := by omega
      rcases hj with e | e | e | e
      · have hm : j % 4 = 0 := by omega
        rw [if_pos h', if_pos hm, if_neg (by omega), if_neg (by omega), if_neg (by omega), if_pos e, hd]
      · have hm : j % 4 = 1 := by omega
        rw [if_pos h', if_neg (by omega), if_pos hm, if_neg (by omega), if_neg (by omega), if_pos e, hd]
      · have hm : j % 4 = 2 := by omega
        rw [if_pos h', if_neg (by omega), if_neg (by omega), if_pos hm, if_neg (by omega), if_pos e]
        simp [hd]
      · have hm : j % 4 = 3 := by omega
        rw [if_pos h', if_neg (by omega), if_neg (by omega), if_neg (by omega), if_pos e, hd]
    · rw [if_neg h', if_neg (by omega), if_neg (by omega), if_neg (by omega), if_neg (by omega), if_neg h]
def tmV (A : Nat → Nat) (C : List Cl) (i : Nat) : Value := .slice (some ⟨A i, 0, none⟩) (clAt C i).ts.length (clAt C i).ts.length
/-- A row of cells that is wholly owned: k of them are laid, their times each in a block of its own behind. -/
structure CkRow (w : World) (b : Nat) (C : List Cl) (A : Nat → Nat) (z : Nat → Value) (k : Nat) : Prop where
  row : w.rowIs b 105 (C.length * 4) (rowC C (tmV A C) z k)
  times : ∀ i, i < k → RowI w (A i) (clAt C i).ts
  above : ∀ i, i < k → b < A i
  rising : ∀ i j, i < j → j < k → A i < A j
theorem CkRow.at {w : World} {b : Nat} {C : List Cl} {A : Nat → Nat} {z : Nat → Value} (h : CkRow w b C A z C.length) (hl : ∀ i, i < C.length → (clAt C i).ts.length ≤ 1048576) : CksAt w (some ⟨b, 0, none⟩) C := by
  refine Or.inr ⟨b, 0, rfl, h.row.lt, fun i hi => ⟨?_, ?_, ?_, some ⟨A i, 0, none⟩, (clAt C i).ts.length, ?_, slV_made _ _ (hl i hi), RowI.arg (h.times i hi)⟩⟩
  · rw [show 0 + i * 4 = i * 4 by omega, h.row.cell (by omega)]
    unfold rowC
    rw [if_pos (by omega), if_pos (by omega), show i * 4 / 4 = i by omega]
  · rw [show 0 + i * 4 + 1 = i * 4 + 1 by omega, h.row.cell (by omega)]
    unfold rowC
    rw [if_pos (by omega), if_neg (by omega), if_pos (by omega), show (i * 4 + 1) / 4 = i by omega]
  · rw [show 0 + i * 4 + 3 = i * 4 + 3 by omega, h.row.cell (by omega)]
    unfold rowC
    rw [if_pos (by omega), if_neg (by omega), if_neg (by omega), if_neg (by omega), show (i * 4 + 3) / 4 = i by omega]
  · rw [show 0 + i * 4 + 2 = i * 4 + 2 by omega, h.row.cell (by omega)]
    unfold rowC
    rw [if_pos (by omega), if_neg (by omega), if_neg (by omega), if_pos (by omega), show (i * 4 + 2) / 4 = i by omega]
    rfl
theorem CkRow.below {w w' : World} {b : Nat} {C : List Cl} {A : Nat → Nat} {z : Nat → Value} {k : Nat} (h : CkRow w b C A z k) (hb : Below w.heap.size w w') : CkRow w' b C A z k :=
  ⟨h.row.of_block (hb.block b h.row.lt), fun i hi => (h.times i hi).below hb (World.rowIs.lt (h.times i hi)), h.above, h.rising⟩
theorem Tryz.uCks : Tryz.prog.underlying 44 = some (.slice 105) := by kernel_rfl
theorem Tryz.infoCk : (Tryz.prog.info? 105).map (fun i => (i.zero, i.size, i.bytes)) = some (some (.agg #[.int .i64 0, .int .i64 0, .slice none 0 0, .bool false]), 4, 48) := by kernel_rfl
theorem run_makeC (n : Nat) (hn : n ≤ 1048576) : ∃ zc, ∀ w : World, Sem.run Tryz.prog (Instr.makeSlice 44 (.int .i64 n) (.int .i64 n)) w = .ok (.slice (some ⟨w.heap.size, 0, none⟩) n n) (w.alloc (.cells (madeCells zc (n * 4)) 105)) := by
  obtain ⟨i0, hi, hz0, hz1, hz2⟩ := info_parts Tryz.infoCk
  refine ⟨(Value.agg #[.int .i64 0, .int .i64 0, .slice none 0 0, .bool false]).cells, fun w => ?_⟩
  have h := run_make (P := Tryz.prog) w 44 105 i0 _ Tryz.uCks hi hz0 .i64 .i64 n n (by omega) (Int.le_refl _) (by rw [hz2]; omega) (by omega)
  rw [hz1] at h
  simpa using h
set_option maxRecDepth 20000 in
set_option maxHeartbeats 1000000 in
theorem toCell_any (lo hi : Int) (Z : List Int) (a : Option Addr) (cap : Nat) (was : Bool) (hl : Z.length ≤ 1048576) (w : World) (hA : ArgI w a Z) :
    Calls Tryz.prog 204 #[ckV lo hi a Z.length cap was] w fun e w' => ∃ b, e = .returned (ckV lo hi (some ⟨b, 0, none⟩) Z.length Z.length was) ∧ w.heap.size ≤ b ∧ RowI w' b Z ∧ Below w.heap.size w w' := by
  have HC := hid (fun w h => toKeep_any lo hi Z a cap hl w h)
  unfold kpV at HC
  unfold ckV
  have HA := hid hA
  have HB0 := hid ((((Below.refl w.heap.size w).alloc (Nat.le_refl _) (.cells #[.int .i64 lo, .int .i64 hi, .slice a Z.length cap, .bool was] 266)).alloc (by simp) (.cells #[.int .i64 0, .int .i64 0, .slice none 0 0, .bool false] 105)).alloc (by simp; omega) (.cells #[.int .i64 0, .int .i64 0, .slice none 0 0, .bool false] 105))
  clear hA
  go_enter Tryz.func204, Tryz.ntmps204
  go_wp2_with (go_at_call 220; refine (HC.out _ (HA.out.below HB0.out (Nat.le_refl _))).mono ?_; rintro e w1 ⟨b1, rfl, hb1, hR, hb⟩; have HR := hid hR; have HB := hid (HB0.out.trans (hb.mono (by simp; omega))); obtain ⟨hc, hf⟩ := bcell hb; have hz : w.heap.size + 3 ≤ w1.heap.size := (by have := hb.size; simp at this; omega); have hb1' : w.heap.size + 3 ≤ b1 := (by simp at hb1; omega); clear hb hR hb1)
  refine bodyPost_ret (v := .agg #[.int .i64 lo, .int .i64 hi, .slice (some ⟨b1, 0, none⟩) Z.length Z.length, .bool was]) (by simp [results, Tryz.results204, go_sem, hc, hf, hz]) rfl ⟨b1, rfl, by omega, ?_, ?_⟩
  · repeat (refine World.rowIs.setOther ?_ (by show _ ≠ _; simp only; omega) _)
    exact HR.out
  · repeat (refine Below.setCell ?_ (by show _ ≤ _; simp only; omega) _)
    exact HB.out
set_option maxRecDepth 20000 in
set_option maxHeartbeats 2000000 in
theorem toCellS_any (C : List Cl) (a : Option Addr) (cap : Nat) (hl : C.length ≤ 1048576) (hl2 : ∀ i, i < C.length → (clAt C i).ts.length ≤ 1048576) (w : World) (hA : ArgCs w a C) :
    Calls Tryz.prog 180 #[.slice a C.length cap] w fun e w' => ∃ b A z, e = .returned (.slice (some ⟨b, 0, none⟩) C.length C.length) ∧ w.heap.size ≤ b ∧ CkRow w' b C A z C.length ∧ Below w.heap.size w w' := by
  obtain ⟨zc, hmk⟩ := run_makeC C.length hl
  have HA := hid hA
  have HL2 := hid hl2
  have HU : Hid (∀ lo hi a n c was, ckV lo hi a n c was = .agg #[.int .i64 lo, .int .i64 hi, .slice a n c, .bool was]) := fun _ _ _ _ _ _ => rfl
  clear hA hl2
  have hr0 : Hid (∃ z, (w.alloc (.cells (madeCells zc (C.length * 4)) 105)).rowIs w.heap.size 105 (C.length * 4) (rowC C (tmV (fun _ => 0) C) z 0)) := by
    refine ⟨fun j => (madeCells zc (C.length * 4)).getD j undef, ?_⟩
    have := World.rowIs_alloc w (madeCells zc (C.length * 4)) 105 (rowC C (tmV (fun _ => 0) C) (fun j => (madeCells zc (C.length * 4)).getD j undef) 0) (fun i hi => by simp [rowC, hi])
    rwa [size_madeCells] at this
  obtain ⟨z, hr0⟩ := hr0.out
  have HR0 := hid hr0
  clear hr0
  go_enter Tryz.func180, Tryz.ntmps180
  go_wp2_with fail
  go_loopw [4] (fun t wr => ∃ (k : Nat) (A : Nat → Nat), k ≤ C.length ∧ t = .int .i64 k ∧ CkRow wr w.heap.size C A z k ∧ Below w.heap.size w wr) (fun t _ => C.length - (intOf t).toNat)
  case atStart => exact ⟨0, fun _ => 0, Nat.zero_le _, rfl, ⟨HR0.out, fun i h => by omega, fun i h => by omega, fun i j _ h => by omega⟩, (Below.refl _ _).alloc (Nat.le_refl _) _⟩
  case round =>
    clear HR0 hmk
    obtain ⟨k, A, hk, rfl, hrow, hbel⟩ := hrel
    have HB := hid hbel
    have HRow := hid hrow
    have hsz := hrow.row.lt
    clear hrow hbel
    by_cases hlt : k < C.length
    · rcases HA.out with h0 | ⟨b, off, rfl, hb, hc⟩
      · omega
      · obtain ⟨c0, c1, c3, a', c', c2, hT⟩ := (hc k hlt).below HB.out (Nat.le_refl _) hb
        have HT := hid hT
        have hl3 := HL2.out k hlt
        have HC := hid (fun w h => toCell_any (clAt C k).lo (clAt C k).hi (clAt C k).ts a' c' (clAt C k).was hl3 w h)
        simp only [HU.out] at HC
        clear hc hT
        go_wp2_with (go_at_call 204; refine (HC.out _ HT.out).mono ?_; rintro e w1 ⟨b1, rfl, hb1, hR1, hbl1⟩; have HB1 := hid hbl1; have HE1 := hid (HRow.out.below hbl1); have HS1 := hid hR1; have hlt1 := World.rowIs.lt hR1; have d0 := HE1.out.row.cell (i := k * 4) (by omega); have d1 := HE1.out.row.cell (i := k * 4 + 1) (by omega); have d2 := HE1.out.row.cell (i := k * 4 + 2) (by omega); have d3 := HE1.out.row.cell (i := k * 4 + 3) (by omega); have f0 := HE1.out.row.frozen (k * 4); have f1 := HE1.out.row.frozen (k * 4 + 1); have f2 := HE1.out.row.frozen (k * 4 + 2); have f3 := HE1.out.row.frozen (k * 4 + 3); clear hR1 hbl1)
        go_roundw
        case rel =>
          refine ⟨k + 1, fun i => if i = k then b1 else A i, by omega, by go_num, ⟨?_, fun i hi => ?_, fun i hi => ?_, fun i j hij hj => ?_⟩, ((((HB.out.trans (HB1.out.mono HB.out.size)).setCell (Nat.le_refl _) _).setCell (Nat.le_refl _) _).setCell (Nat.le_refl _) _).setCell (Nat.le_refl _) _⟩
          · refine ((((HE1.out.row.set (k * 4) _).set (k * 4 + 1) _).set (k * 4 + 2) _).set (k * 4 + 3) _).congr (fun j hj => ?_)
            have := rowC_step C (tmV A C) z k j (.slice (some ⟨b1, 0, none⟩) (clAt C k).ts.length (clAt C k).ts.length)
            rw [← this]
            congr 1
            funext i
            unfold tmV
            by_cases e : i = k
            · subst e; simp
            · simp [e]
          · show RowI _ (if i = k then b1 else A i) _
            split
            · next e =>
              subst e
              repeat (refine World.rowIs.setOther ?_ (by show _ ≠ _; simp only; omega) _)
              exact HS1.out
            · have h1 := HRow.out.above i (by omega)
              repeat (refine World.rowIs.setOther ?_ (by show _ ≠ _; simp only; omega) _)
              exact HE1.out.times i (by omega)
          · show _ < (if i = k then b1 else A i)
            split
            · omega
            · exact HRow.out.above i (by omega)
          · show (if i = k then b1 else A i) < (if j = k then b1 else A j)
            have := World.rowIs.lt (HRow.out.times i (by omega))
            split
            · omega
            · split
              · omega
              · exact HRow.out.rising i j hij (by omega)
        case measure => simp [intOf]; omega
    · have hk' : k = C.length := by omega
      subst hk'
      go_wp2_with fail
      go_ret
      exact ⟨w.heap.size, A, z, rfl, Nat.le_refl _, HRow.out, HB.out⟩
theorem bbelow2' (w : World) (o1 o2 : Obj) : Below w.heap.size w ((w.alloc o1).alloc o2) := ((Below.refl w.heap.size w).alloc (Nat.le_refl _) o1).alloc (by simp) o2
theorem ArgI.drew {w : World} {a : Option Addr} {Z : List Int} (h : ArgI w a Z) : ArgI w.drew a Z := h
set_option maxRecDepth 20000 in
set_option maxHeartbeats 1000000 in
theorem eqCell_any (lo hi : Int) (Z : List Int) (n : Nat) (hn : Z.length = n) (a1 a2 : Option Addr) (c1 c2 : Nat) (was : Bool) (hl : n ≤ 2000000) (w : World) (h1 : ArgI w a1 Z) (h2 : ArgI w a2 Z) :
    Calls Tryz.prog 205 #[ckV lo hi a1 n c1 was, ckV lo hi a2 n c2 was] w fun e w' => e = .returned (.bool true) ∧ Below w.heap.size w w' := by
  have HC := hid (fun w h1 h2 => eqKeep_any lo hi Z n hn a1 a2 c1 c2 hl w h1 h2)
  unfold kpV at HC
  unfold ckV
  have HB0 := hid (bbelow2' w (.cells #[.int .i64 lo, .int .i64 hi, .slice a1 n c1, .bool was] 105) (.cells #[.int .i64 lo, .int .i64 hi, .slice a2 n c2, .bool was] 105))
  have H1 := hid (h1.on HB0.out)
  have H2 := hid (h2.on HB0.out)
  clear h1 h2 hn
  have e1 : (was != was) = false := by simp
  go_enter Tryz.func205, Tryz.ntmps205
  go_wp2_with (go_at_call 221; refine (HC.out _ H1.out H2.out).mono ?_; rintro e w1 ⟨rfl, hb⟩; have HB1 := hid (HB0.out.trans (hb.mono (by simp; omega))); obtain ⟨hc, hf⟩ := bcell hb; have hz : w.heap.size + 2 ≤ w1.heap.size := (by have := hb.size; simp at this; omega); clear hb)
  go_ret
  exact ⟨rfl, HB1.out⟩
set_option maxRecDepth 20000 in
set_option maxHeartbeats 2000000 in
theorem eqCellS_any (C : List Cl) (n : Nat) (hn : C.length = n) (a1 a2 : Option Addr) (c1 c2 : Nat) (hl : n ≤ 1048576) (hl2 : ∀ i, i < C.length → (clAt C i).ts.length ≤ 2000000) (w : World) (h1 : CksAt w a1 C) (h2 : CksAt w a2 C) :
    Calls Tryz.prog 181 #[.slice a1 n c1, .slice a2 n c2] w fun e w' => e = .returned (.bool true) ∧ Below w.heap.size w w' := by
  subst hn
  have H1 := hid h1
  have H2 := hid h2
  have HL2 := hid hl2
  have HU : Hid (∀ lo hi a n c was, ckV lo hi a n c was = .agg #[.int .i64 lo, .int .i64 hi, .slice a n c, .bool was]) := fun _ _ _ _ _ _ => rfl
  clear h1 h2 hl2
  go_enter Tryz.func181, Tryz.ntmps181
  go_wp2_with fail
  go_loopw [5] (fun t wr => ∃ k : Nat, k ≤ C.length ∧ t = .int .i64 k ∧ Below w.heap.size w wr) (fun t _ => C.length - (intOf t).toNat)
  case atStart => exact ⟨0, Nat.zero_le _, rfl, Below.refl _ _⟩
  case round =>
    obtain ⟨k, hk, rfl, hbel⟩ := hrel
    have HB := hid hbel
    have hsz := hbel.size
    clear hbel
    by_cases hlt : k < C.length
    · rcases H1.out with h0 | ⟨b1, o1, rfl, hb1, hc1⟩
      · omega
      rcases H2.out with h0 | ⟨b2, o2, rfl, hb2, hc2⟩
      · omega
      obtain ⟨d0, d1, d3, x1, y1, d2, _, hT1⟩ := (hc1 k hlt).below HB.out (Nat.le_refl _) hb1
      obtain ⟨e0, e1, e3, x2, y2, e2, _, hT2⟩ := (hc2 k hlt).below HB.out (Nat.le_refl _) hb2
      have HT1 := hid hT1
      have HT2 := hid hT2
      have hl3 := HL2.out k hlt
      have HC := hid (fun w h1 h2 => eqCell_any (clAt C k).lo (clAt C k).hi (clAt C k).ts _ rfl x1 x2 y1 y2 (clAt C k).was hl3 w h1 h2)
      simp only [HU.out] at HC
      clear hc1 hc2 hT1 hT2
      go_wp2_with fail
      go_region_with (go_at_call 205; refine (HC.out _ HT1.out.drew HT2.out.drew).mono ?_; rintro e w1 ⟨rfl, hb1'⟩; have HB1 : Hid (Below w.heap.size w w1) := HB.out.trans (Below.mono ⟨hb1'.os, hb1'.tape, hb1'.output, hb1'.size, hb1'.block⟩ hsz); clear hb1')
      all_goals
        go_wp2_with fail
        go_roundw
        case rel => exact ⟨k + 1, by omega, by go_num, HB1.out⟩
        case measure => simp [intOf]; omega
    · go_wp2_with fail
      go_ret
      exact ⟨rfl, HB.out⟩
end Go.Proofs.YtljhokoojodjnaaGreatDoor
