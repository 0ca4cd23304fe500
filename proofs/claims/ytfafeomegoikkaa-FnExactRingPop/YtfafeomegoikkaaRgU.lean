/-
  A ring set to work (impl.wheelOf), by its contract; the atomic numbers of a ring at work.
-/
import Derived.Test.YtfafeomegoikkaaRgW
namespace Go.Proofs.Ytfafeomegoikkaa
open Go.RowKit
set_option linter.unusedVariables false
set_option linter.unusedSimpArgs false
theorem WAt.drew {w : World} {wb sb : Nat} {H T : Int} {n : Nat} {Z : List Int} (h : WAt w wb sb H T n Z) : WAt w.drew wb sb H T n Z := h.on (below_drew (Below.refl _ _))
theorem save_one (w : World) (b o : Nat) (v : Value) : Save w (w.setCell ⟨b, o, none⟩ v) (fun j => j = b) := Save.setCell (S := fun j => j = b) (Save.refl w _) (p := ⟨b, o, none⟩) (fun _ => rfl) v
theorem st_head {wb sb : Nat} {H T : Int} {n : Nat} {Z : List Int} (x : Int) (w : World) (h : WAt w wb sb H T n Z) :
    Calls Try.prog 77 #[.pointer (some ⟨wb, 0, none⟩), .int .i64 x] w fun e w' => e = .returned (.tuple #[]) ∧ WAt w' wb sb x T n Z ∧ Save w w' (fun j => j = wb) :=
  (at_store wb 0 x _ w h.c0 h.f0).mono (by rintro e w' ⟨rfl, rfl⟩; exact ⟨rfl, h.head x, save_one _ _ _ _⟩)
theorem st_tail {wb sb : Nat} {H T : Int} {n : Nat} {Z : List Int} (x : Int) (w : World) (h : WAt w wb sb H T n Z) :
    Calls Try.prog 77 #[.pointer (some ⟨wb, 1, none⟩), .int .i64 x] w fun e w' => e = .returned (.tuple #[]) ∧ WAt w' wb sb H x n Z ∧ Save w w' (fun j => j = wb) :=
  (at_store wb 1 x _ w h.c1 h.f1).mono (by rintro e w' ⟨rfl, rfl⟩; exact ⟨rfl, h.tail x, save_one _ _ _ _⟩)
theorem st_slot {wb sb : Nat} {H T : Int} {n : Nat} {Z : List Int} (j : Nat) (hj : j < n * 2) (x : Int) (w : World) (h : WAt w wb sb H T n Z) :
    Calls Try.prog 77 #[.pointer (some ⟨sb, j, none⟩), .int .i64 x] w fun e w' => e = .returned (.tuple #[]) ∧ WAt w' wb sb H T n (Z.set j x) ∧ Save w w' (fun i => i = sb) :=
  (at_store sb j x _ w (h.row.cell hj) (h.row.frozen j)).mono (by rintro e w' ⟨rfl, rfl⟩; exact ⟨rfl, h.slot j hj x, save_one _ _ _ _⟩)
theorem ld_head {wb sb : Nat} {H T : Int} {n : Nat} {Z : List Int} (w : World) (h : WAt w wb sb H T n Z) : Calls Try.prog 72 #[.pointer (some ⟨wb, 0, none⟩)] w fun e w' => e = .returned (.int .i64 H) ∧ w' = w := at_load wb 0 H w h.c0
theorem ld_tail {wb sb : Nat} {H T : Int} {n : Nat} {Z : List Int} (w : World) (h : WAt w wb sb H T n Z) : Calls Try.prog 72 #[.pointer (some ⟨wb, 1, none⟩)] w fun e w' => e = .returned (.int .i64 T) ∧ w' = w := at_load wb 1 T w h.c1
theorem ld_slot {wb sb : Nat} {H T : Int} {n : Nat} {Z : List Int} (j : Nat) (hj : j < n * 2) (w : World) (h : WAt w wb sb H T n Z) : Calls Try.prog 72 #[.pointer (some ⟨sb, j, none⟩)] w fun e w' => e = .returned (.int .i64 (zAt Z j)) ∧ w' = w := at_load sb j _ w (h.row.cell hj)
theorem cas_tail {wb sb : Nat} {H T : Int} {n : Nat} {Z : List Int} (x : Int) (w : World) (h : WAt w wb sb H T n Z) :
    Calls Try.prog 74 #[.pointer (some ⟨wb, 1, none⟩), .int .i64 T, .int .i64 x] w fun e w' => e = .returned (.bool true) ∧ WAt w' wb sb H x n Z ∧ Save w w' (fun j => j = wb) :=
  (at_hit wb 1 T x w h.c1 h.f1).mono (by rintro e w' ⟨rfl, rfl⟩; exact ⟨rfl, h.tail x, save_one _ _ _ _⟩)
theorem cas_hit {wb sb : Nat} {H T : Int} {n : Nat} {Z : List Int} (j : Nat) (hj : j < n * 2) (o x : Int) (ho : zAt Z j = o) (w : World) (h : WAt w wb sb H T n Z) :
    Calls Try.prog 74 #[.pointer (some ⟨sb, j, none⟩), .int .i64 o, .int .i64 x] w fun e w' => e = .returned (.bool true) ∧ WAt w' wb sb H T n (Z.set j x) ∧ Save w w' (fun i => i = sb) := by
  subst ho
  exact (at_hit sb j _ x w (h.row.cell hj) (h.row.frozen j)).mono (by rintro e w' ⟨rfl, rfl⟩; exact ⟨rfl, h.slot j hj x, save_one _ _ _ _⟩)
theorem cas_miss {wb sb : Nat} {H T : Int} {n : Nat} {Z : List Int} (j : Nat) (hj : j < n * 2) (o x : Int) (ho : ¬ zAt Z j = o) (w : World) (h : WAt w wb sb H T n Z) :
    Calls Try.prog 74 #[.pointer (some ⟨sb, j, none⟩), .int .i64 o, .int .i64 x] w fun e w' => e = .returned (.bool false) ∧ w' = w :=
  at_miss sb j _ o x ho w (h.row.cell hj) (h.row.frozen j)
theorem swap_slot {wb sb : Nat} {H T : Int} {n : Nat} {Z : List Int} (j : Nat) (hj : j < n * 2) (x : Int) (w : World) (h : WAt w wb sb H T n Z) :
    Calls Try.prog 78 #[.pointer (some ⟨sb, j, none⟩), .int .i64 x] w fun e w' => e = .returned (.int .i64 (zAt Z j)) ∧ WAt w' wb sb H T n (Z.set j x) ∧ Save w w' (fun i => i = sb) :=
  (at_swap sb j _ x w (h.row.cell hj) (h.row.frozen j)).mono (by rintro e w' ⟨rfl, rfl⟩; exact ⟨rfl, h.slot j hj x, save_one _ _ _ _⟩)
def faultE (k : Int) : Ending := .panicked [{ v := .iface 81 (.agg #[.int .i64 k]), recovered := false }]
theorem Try.uSl : Try.prog.underlying 89 = some (.slice 96) := by kernel_rfl
theorem Try.infoSl : (Try.prog.info? 96).map (fun i => (i.zero, i.size, i.bytes)) = some (some (.agg #[.int .i64 0, .int .i64 0]), 2, 16) := by kernel_rfl
theorem run_makeSl (n : Nat) (hn : n ≤ 1048576) : ∀ w : World, Sem.run Try.prog (Instr.makeSlice 89 (.int .i64 n) (.int .i64 n)) w = .ok (.slice (some ⟨w.heap.size, 0, none⟩) n n) (w.alloc (.cells (madeCells #[.int .i64 0, .int .i64 0] (n * 2)) 96)) := by
  obtain ⟨i0, hi, hz0, hz1, hz2⟩ := info_parts Try.infoSl
  intro w
  have h := run_make (P := Try.prog) w 89 96 i0 _ Try.uSl hi hz0 .i64 .i64 n n (by omega) (Int.le_refl _) (by rw [hz2]; omega) (by omega)
  rw [hz1] at h
  simpa [Value.cells] using h
theorem made_zero (m j : Nat) (hj : j < m * 2) : (madeCells #[.int .i64 0, .int .i64 0] (m * 2))[j]? = some (.int .i64 0) := by
  have h2 : j % 2 = 0 ∨ j % 2 = 1 := by omega
  rcases h2 with h | h <;> simp [madeCells, hj, h]
set_option maxRecDepth 20000 in
set_option maxHeartbeats 2000000 in
theorem wheelOf_no (cap hd tl : Int) (Z : List Int) (n : Nat) (hn : Z.length = n * 2) (a : Option Addr) (c : Nat) (hl : n ≤ 2000000) (h1 : ringB cap hd tl n Z = false) (w : World) (hA : ArgI w a Z) :
    Calls Try.prog 70 #[.agg #[.int .i64 cap, .int .i64 hd, .int .i64 tl, .slice a n c]] w fun e w' => e = faultE 1 ∧ Below w.heap.size w w' := by
  have HV : Hid (∀ cap hd tl a n c, rgV cap hd tl a n c = .agg #[.int .i64 cap, .int .i64 hd, .int .i64 tl, .slice a n c]) := fun _ _ _ _ _ _ => rfl
  have HB0 := hid ((Below.refl w.heap.size w).alloc (Nat.le_refl _) (.cells #[.int .i64 cap, .int .i64 hd, .int .i64 tl, .slice a n c] 25))
  have HA := hid (hA.on HB0.out)
  have HR := hid (fun w h => implRr_any cap hd tl Z n hn a c hl w h)
  rw [HV.out, h1] at HR
  have hw0 := HB0.out.size
  clear hA hn h1
  go_enter Try.func70, Try.ntmps70
  go_wp2_with (go_at_call 29; refine (HR.out _ HA.out).mono ?_; rintro e w1 ⟨rfl, hb1⟩; have HB1 := hid (HB0.out.trans (hb1.mono hw0)); clear hb1)
  exact ⟨rfl, rfl, HB1.out⟩
theorem zAt_rep (m j : Nat) (h : j < m) : zAt (List.replicate m 0) j = 0 := by simp [zAt, List.getD, h]
/-- A new ring at work. -/
theorem WAt.made (w : World) (n : Nat) : WAt ((w.alloc (.cells (madeCells #[.int .i64 0, .int .i64 0] (n * 2)) 96)).alloc (.cells #[.int .i64 0, .int .i64 0, .slice (some ⟨w.heap.size, 0, none⟩) n n] 91)) (w.heap.size + 1) w.heap.size 0 0 n (List.replicate (n * 2) 0) := by
  have e : w.heap.size + 1 = (w.alloc (.cells (madeCells #[.int .i64 0, .int .i64 0] (n * 2)) 96)).heap.size := by simp
  refine ⟨by simp, by omega, ?_, ?_, ?_, ?_, ?_, ?_, by simp⟩
  · rw [e]; simp [go_sem]
  · rw [e]; simp [go_sem]
  · rw [e]; simp [go_sem]
  · rw [e]; simp [go_sem]
  · rw [e]; simp [go_sem]
  · have h := World.rowIs_alloc w (madeCells #[.int .i64 0, .int .i64 0] (n * 2)) 96 (fun j => .int .i64 (zAt (List.replicate (n * 2) 0) j)) (fun i hi => by
      rw [size_madeCells] at hi
      rw [made_zero n i hi, zAt_rep (n * 2) i hi])
    rw [size_madeCells] at h
    exact h.alloc _
theorem z_ext {Y Z : List Int} {m : Nat} (h1 : Y.length = m) (h2 : Z.length = m) (h : ∀ j, j < m → zAt Y j = zAt Z j) : Y = Z := by
  apply List.ext_getElem (by omega)
  intro i a b
  have := h i (by omega)
  simpa [zAt, List.getD, a, b] using this
set_option maxRecDepth 20000 in
set_option maxHeartbeats 8000000 in
theorem wheelOf_ok (H T n : Nat) (Z : List Int) (hn : Z.length = n * 2) (hn16 : n ≤ 16) (a : Option Addr) (c : Nat) (h1 : ringB n H T n Z = true) (w : World) (hA : ArgI w a Z) :
    Calls Try.prog 70 #[.agg #[.int .i64 n, .int .i64 H, .int .i64 T, .slice a n c]] w fun e w' => ∃ wb sb, e = .returned (.pointer (some ⟨wb, 0, none⟩)) ∧ w.heap.size ≤ wb ∧ w.heap.size ≤ sb ∧ WAt w' wb sb H T n Z ∧ Below w.heap.size w w' := by
  have HV : Hid (∀ cap hd tl a n c, rgV cap hd tl a n c = .agg #[.int .i64 cap, .int .i64 hd, .int .i64 tl, .slice a n c]) := fun _ _ _ _ _ _ => rfl
  have HB0 := hid ((Below.refl w.heap.size w).alloc (Nat.le_refl _) (.cells #[.int .i64 n, .int .i64 H, .int .i64 T, .slice a n c] 25))
  have HA := hid (hA.on HB0.out)
  have HBX := hid (RBox.new w n H T a n c 25)
  have HR := hid (fun w h => implRr_any n H T Z n hn a c (by omega) w h)
  rw [HV.out, h1] at HR
  have HN := hid hn
  have hmk := run_makeSl n (by omega)
  have hWz : (w.alloc (.cells #[.int .i64 n, .int .i64 H, .int .i64 T, .slice a n c] 25)).heap.size = w.heap.size + 1 := by simp
  have hlz := HBX.out.lt
  clear hA hn h1
  go_enter Try.func70, Try.ntmps70
  go_wp2_with (go_at_call 29; refine (HR.out _ HA.out).mono ?_; rintro e w1 ⟨rfl, hb1⟩; have HB1 := hid (hb1.mono (Nat.le_of_eq hWz.symm)); obtain ⟨hlt1, k0, k1, k2, k3⟩ := HBX.out.on hb1; have hz1 := hb1.size; clear hb1)
  have HW2 := hid (WAt.made w1 n)
  have HB2 := hid (((HB1.out).alloc (by omega) (.cells (madeCells #[.int .i64 0, .int .i64 0] (n * 2)) 96)).alloc (by simp; omega) (.cells #[.int .i64 0, .int .i64 0, .slice (some ⟨w1.heap.size, 0, none⟩) n n] 91))
  have hz2 : ((w1.alloc (.cells (madeCells #[.int .i64 0, .int .i64 0] (n * 2)) 96)).alloc (.cells #[.int .i64 0, .int .i64 0, .slice (some ⟨w1.heap.size, 0, none⟩) n n] 91)).heap.size = w1.heap.size + 1 + 1 := by simp
  clear k0 k1 k2 k3 hmk
  generalize w.alloc (.cells #[.int .i64 n, .int .i64 H, .int .i64 T, .slice a n c] 25) = W at *
  generalize (w1.alloc (.cells (madeCells #[.int .i64 0, .int .i64 0] (n * 2)) 96)).alloc (.cells #[.int .i64 0, .int .i64 0, .slice (some ⟨w1.heap.size, 0, none⟩) n n] 91) = w2 at *
  generalize hsb : w1.heap.size = sb at *
  generalize hwb : sb + 1 = wb at *
  obtain ⟨_, k0, k1, k2, k3⟩ := HBX.out.below HB2.out (by omega)
  have hsb1 : w.heap.size + 1 ≤ sb := by omega
  go_region_with (go_at_call 77; refine (st_head _ _ HW2.out.drew).mono ?_; rintro e w3 ⟨rfl, hW3, hs3⟩; have HW3 := hid hW3; have HB3 := hid ((below_drew HB2.out).trans (hs3.below (B := w.heap.size + 1) (by show _ ≤ w2.heap.size; omega) (fun j h => by omega))); have hz3 : w2.heap.size ≤ w3.heap.size := hs3.size; obtain ⟨_, k0, k1, k2, k3⟩ := HBX.out.below HB3.out (by omega); clear hW3 hs3)
  clear HW2 HB2
  go_wp2_with fail
  go_region_with (go_at_call 77; refine (st_tail _ _ HW3.out.drew).mono ?_; rintro e w4 ⟨rfl, hW4, hs4⟩; have HW4 := hid hW4; have HB4 := hid ((below_drew HB3.out).trans (hs4.below (B := w.heap.size + 1) (by show _ ≤ w3.heap.size; omega) (fun j h => by omega))); have hz4 : w3.heap.size ≤ w4.heap.size := hs4.size; obtain ⟨_, k0, k1, k2, k3⟩ := HBX.out.below HB4.out (by omega); clear hW4 hs4)
  clear HW3 HB3
  go_wp2_with fail
  go_loopw [31] (fun t wr => ∃ (k : Nat) (Y : List Int), k ≤ n ∧ t = .int .i64 k ∧ WAt wr wb sb H T n Y ∧ (∀ j, j < k * 2 → zAt Y j = zAt Z j) ∧ Below (w.heap.size + 1) W wr) (fun t _ => n - (intOf t).toNat)
  case atStart => exact ⟨0, _, Nat.zero_le _, rfl, HW4.out, fun j hj => by omega, HB4.out⟩
  case round =>
    obtain ⟨k, Y, hk, rfl, hW, hY, hbel⟩ := hrel
    have HW := hid hW
    have HY := hid hY
    have HB := hid hbel
    have hsl := hW.slt
    have hwl := hW.lt
    have hYl := hW.len
    have hne := hW.ne
    obtain ⟨_, k0, k1, k2, k3⟩ := HBX.out.below hbel (by omega)
    have HYL := hid hYl
    have HAr := hid (HA.out.below hbel (by omega))
    clear hW hY hbel HW4 HB4 hYl
    by_cases hlt : k < n
    · rcases HAr.out with h0 | ⟨b, off, rfl, hb, hc⟩
      · have := HN.out; omega
      have d0 := hc (k * 2) (by have := HN.out; omega)
      have d1 : wr.cell? ⟨b, off + k * 2 + 1, none⟩ = some (.int .i64 (zAt Z (k * 2 + 1))) := hc (k * 2 + 1) (by have := HN.out; omega)
      clear hc
      have HS0 : Hid (∀ i, zAt ((Y.set (k * 2) (zAt Z (k * 2))).set (k * 2 + 1) (zAt Z (k * 2 + 1))) i = if i = k * 2 + 1 then zAt Z (k * 2 + 1) else if i = k * 2 then zAt Z (k * 2) else zAt Y i) := fun i => by
        have := HYL.out
        rw [zAt_set _ _ _ (by simp; omega), zAt_set _ _ _ (by omega)]
      generalize hs : zAt Z (k * 2) = s at *
      generalize ht : zAt Z (k * 2 + 1) = t at *
      have HSe := hid hs
      have HTe := hid ht
      clear hs ht
      go_wp2_with fail
      have HWa := hid (HW.out.on (below_one' wr (.cells #[.int .i64 s, .int .i64 t] 59)))
      have HBa := hid (HB.out.alloc (by omega) (.cells #[.int .i64 s, .int .i64 t] 59))
      have m0 : (wr.alloc (.cells #[.int .i64 s, .int .i64 t] 59)).cell? ⟨wr.heap.size, 0, none⟩ = some (.int .i64 s) := by simp [go_sem]
      have m1 : (wr.alloc (.cells #[.int .i64 s, .int .i64 t] 59)).cell? ⟨wr.heap.size, 1, none⟩ = some (.int .i64 t) := by simp [go_sem]
      have hVz : wr.heap.size < (wr.alloc (.cells #[.int .i64 s, .int .i64 t] 59)).heap.size := by simp
      generalize wr.alloc (.cells #[.int .i64 s, .int .i64 t] 59) = V at *
      have v2 := HWa.out.c2
      go_region_with (go_at_call 77; go_loud (refine (st_slot (k * 2) (by omega) _ _ HWa.out.drew).mono ?_; rintro e w5 ⟨rfl, hW5, hs5⟩; have HW5 := hid hW5; have HB5 := hid ((below_drew HBa.out).trans (hs5.below (B := w.heap.size + 1) (by show _ ≤ V.heap.size; omega) (fun j h => by omega))); have hz5 : V.heap.size ≤ w5.heap.size := hs5.size; have m0' := (hs5.cell (p := ⟨wr.heap.size, 0, none⟩) (by show _ < V.heap.size; omega) (by show ¬ wr.heap.size = sb; omega)).trans (show V.drew.cell? _ = _ from m0); have m1' := (hs5.cell (p := ⟨wr.heap.size, 1, none⟩) (by show _ < V.heap.size; omega) (by show ¬ wr.heap.size = sb; omega)).trans (show V.drew.cell? _ = _ from m1); have v2' := HW5.out.c2; clear hW5 hs5))
      all_goals
        clear HWa HBa
        go_wp2_with fail
        go_region_with (go_at_call 77; refine (st_slot (k * 2 + 1) (by omega) _ _ HW5.out.drew).mono ?_; rintro e w6 ⟨rfl, hW6, hs6⟩; have HW6 := hid hW6; have HB6 := hid ((below_drew HB5.out).trans (hs6.below (B := w.heap.size + 1) (by show _ ≤ w5.heap.size; omega) (fun j h => by omega))); clear hW6 hs6)
        all_goals
          go_wp2_with fail
          go_roundw
          case rel =>
            refine ⟨k + 1, _, by omega, by go_num, HW6.out, fun j hj => ?_, HB6.out⟩
            rw [HS0.out]
            by_cases e1 : j = k * 2 + 1
            · subst e1; simp [HTe.out]
            · by_cases e0 : j = k * 2
              · subst e0; simp [HSe.out]
              · rw [if_neg e1, if_neg e0]; exact HY.out j (by omega)
          case measure => simp [intOf]; omega
    · have hk' : k = n := by omega
      subst hk'
      have HE := hid (z_ext HYL.out HN.out (fun j hj => HY.out j hj))
      go_wp2_with fail
      go_ret
      refine ⟨wb, sb, rfl, by omega, by omega, ?_, HB0.out.trans (HB.out.mono (by omega))⟩
      rw [← HE.out]
      exact HW.out
end Go.Proofs.Ytfafeomegoikkaa
