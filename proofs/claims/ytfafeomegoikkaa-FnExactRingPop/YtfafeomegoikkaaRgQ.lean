/-
  A ring at work, told as a ring again ((*impl.wheel).ring), by its contract.
-/
import Derived.Test.YtfafeomegoikkaaRgU
import Derived.Deep.RegionHeld3
namespace Go.Proofs.Ytfafeomegoikkaa
open Go.RowKit
set_option linter.unusedVariables false
set_option linter.unusedSimpArgs false
theorem ld_any (wb sb : Nat) (H T : Int) (n : Nat) (Z : List Int) (o : Nat) (x : Int) (h1 : (o = 0 ∧ x = H) ∨ (o = 1 ∧ x = T)) (w : World) (h : WAt w wb sb H T n Z) :
    Calls Try.prog 72 #[.pointer (some ⟨wb, o, none⟩)] w fun e w' => e = .returned (.int .i64 x) ∧ w' = w := by
  rcases h1 with ⟨rfl, rfl⟩ | ⟨rfl, rfl⟩
  · exact ld_head w h
  · exact ld_tail w h
/-- A new row of cups beside a ring's box. -/
structure CpA (W V : World) (rb cb : Nat) (n : Nat) (H T : Int) (z : Nat → Value) : Prop where
  box : RBox V rb n H T (some ⟨cb, 0, none⟩) n n
  row : V.rowIs cb 59 (n * 2) z
  ne : ¬ rb = cb
  rlo : W.heap.size ≤ rb
  clo : W.heap.size ≤ cb
  bel : Below W.heap.size W V
theorem CpA.drew {W V : World} {rb cb n : Nat} {H T : Int} {z : Nat → Value} (h : CpA W V rb cb n H T z) : CpA W V.drew rb cb n H T z :=
  ⟨h.box.on (below_drew (Below.refl _ _)), h.row.drew, h.ne, h.rlo, h.clo, below_drew h.bel⟩
theorem CpA.put {W V : World} {rb cb n : Nat} {H T : Int} {z : Nat → Value} (h : CpA W V rb cb n H T z) (i : Nat) (v : Value) : CpA W (V.setCell ⟨cb, i, none⟩ v) rb cb n H T (fun j => if j = i then v else z j) :=
  ⟨h.box.save (save_one _ _ _ _) h.ne, h.row.set i v, h.ne, h.rlo, h.clo, h.bel.setCell (by exact h.clo) _⟩
theorem CpA.re {W V : World} {rb cb n : Nat} {H T : Int} {z z' : Nat → Value} (h : CpA W V rb cb n H T z) (e : ∀ j, j < n * 2 → z j = z' j) : CpA W V rb cb n H T z' :=
  ⟨h.box, h.row.congr e, h.ne, h.rlo, h.clo, h.bel⟩
theorem made_row (W : World) (n : Nat) : (W.alloc (.cells (madeCells #[.int .i64 0, .int .i64 0] (n * 2)) 59)).rowIs W.heap.size 59 (n * 2) (fun _ => .int .i64 0) := by
  have h := World.rowIs_alloc W (madeCells #[.int .i64 0, .int .i64 0] (n * 2)) 59 (fun _ => .int .i64 0) (fun i hi => by
    rw [size_madeCells] at hi
    exact made_zero n i hi)
  rwa [size_madeCells] at h
theorem CpA.a (W : World) (n : Nat) (H T : Int) : CpA W ((W.alloc (.cells (madeCells #[.int .i64 0, .int .i64 0] (n * 2)) 59)).alloc (.cells #[.int .i64 n, .int .i64 H, .int .i64 T, .slice (some ⟨W.heap.size, 0, none⟩) n n] 25)) (W.heap.size + 1) W.heap.size n H T (fun _ => .int .i64 0) := by
  have e : W.heap.size + 1 = (W.alloc (.cells (madeCells #[.int .i64 0, .int .i64 0] (n * 2)) 59)).heap.size := by simp
  refine ⟨?_, (made_row W n).alloc _, by omega, by omega, by omega, ((Below.refl _ _).alloc (Nat.le_refl _) _).alloc (by simp) _⟩
  rw [e]; exact RBox.new _ _ _ _ _ _ _ _
theorem CpA.b (W : World) (n : Nat) (H T : Int) : CpA W ((W.alloc (.cells #[.int .i64 n, .int .i64 H, .int .i64 T, .slice (some ⟨W.heap.size + 1, 0, none⟩) n n] 25)).alloc (.cells (madeCells #[.int .i64 0, .int .i64 0] (n * 2)) 59)) W.heap.size (W.heap.size + 1) n H T (fun _ => .int .i64 0) := by
  have e : (W.alloc (.cells #[.int .i64 n, .int .i64 H, .int .i64 T, .slice (some ⟨W.heap.size + 1, 0, none⟩) n n] 25)).heap.size = W.heap.size + 1 := by simp
  have h := made_row (W.alloc (.cells #[.int .i64 n, .int .i64 H, .int .i64 T, .slice (some ⟨W.heap.size + 1, 0, none⟩) n n] 25)) n
  rw [e] at h
  exact ⟨(RBox.new W n H T (some ⟨W.heap.size + 1, 0, none⟩) n n 25).on (below_one' _ _), h, by omega, by omega, by omega, ((Below.refl _ _).alloc (Nat.le_refl _) _).alloc (by simp) _⟩
theorem save_two (w : World) (b o o' : Nat) (v v' : Value) : Save w ((w.drew.setCell ⟨b, o, none⟩ v).setCell ⟨b, o', none⟩ v') (fun j => j = b) :=
  Save.setCell (S := fun j => j = b) (Save.setCell (S := fun j => j = b) (Save.refl w _).drew (p := ⟨b, o, none⟩) (fun _ => rfl) v) (p := ⟨b, o', none⟩) (fun _ => rfl) v'
set_option maxRecDepth 20000 in
set_option maxHeartbeats 8000000 in
theorem wring_any (wb sb H T n : Nat) (Z : List Int) (hn : 1 ≤ n) (hn2 : n ≤ 16) (w : World) (hW : WAt w wb sb H T n Z) :
    Calls Try.prog 71 #[.pointer (some ⟨wb, 0, none⟩)] w fun e w' => ∃ cb, e = .returned (.agg #[.int .i64 n, .int .i64 H, .int .i64 T, .slice (some ⟨cb, 0, none⟩) n n]) ∧ w.heap.size ≤ cb ∧ CupI w' cb Z ∧ Below w.heap.size w w' := by
  have HB0 := hid (below_one' w (.cells #[.int .i64 0, .int .i64 0, .int .i64 0, .slice none 0 0] 25))
  have HW0 := hid (hW.on HB0.out)
  have HBR := hid (RBox.new w 0 0 0 none 0 0 25)
  have HFR : Hid (∀ i, (w.alloc (.cells #[.int .i64 0, .int .i64 0, .int .i64 0, .slice none 0 0] 25)).frozen? ⟨w.heap.size, i, none⟩ = false) := fun i => by simp [go_sem]
  have HLd := hid (fun j hj w h => ld_slot (wb := wb) (sb := sb) (H := (H : Int)) (T := (T : Int)) (n := n) (Z := Z) j hj w h)
  have HL := hid (fun o x w h1 h => ld_any wb sb H T n Z o x h1 w h)
  have HS := hid (fun w h => wsize_any wb sb H T n Z w h)
  have hmk := run_makeC n (by omega)
  have HN := hid hW.len
  have hwl := hW.lt
  have hWz : (w.alloc (.cells #[.int .i64 0, .int .i64 0, .int .i64 0, .slice none 0 0] 25)).heap.size = w.heap.size + 1 := by simp
  clear hW
  go_enter Try.func71, Try.ntmps71
  go_wp2_with fail
  generalize w.alloc (.cells #[.int .i64 0, .int .i64 0, .int .i64 0, .slice none 0 0] 25) = W at *
  go_region_with (first | (go_at_call 73; refine (HS.out _ (by first | exact HW0.out.drew | exact (HW0.out.on (below_one' _ _)).drew)).mono ?_; rintro e w1 ⟨rfl, rfl⟩) | (go_at_call 72; refine (HL.out _ _ _ (by first | exact Or.inl ⟨rfl, rfl⟩ | exact Or.inr ⟨rfl, rfl⟩) (by first | exact HW0.out.drew | exact (HW0.out.on (below_one' _ _)).drew)).mono ?_; rintro e w1 ⟨rfl, rfl⟩))
  all_goals
    first
      | (with_reducible show Exit.then _ _ Exit.normal _ ((W.alloc (.cells (madeCells #[.int .i64 0, .int .i64 0] (n * 2)) 59)).alloc _).drew
         have HC := hid (CpA.a W n (H : Int) (T : Int)).drew
         rw [hWz] at HC
         generalize ((W.alloc (.cells (madeCells #[.int .i64 0, .int .i64 0] (n * 2)) 59)).alloc (.cells #[.int .i64 n, .int .i64 H, .int .i64 T, .slice (some ⟨w.heap.size + 1, 0, none⟩) n n] 25)).drew = X at HC ⊢
         generalize w.heap.size + 1 + 1 = rb at HC ⊢
         generalize w.heap.size + 1 = cb at HC ⊢)
      | (have HC := hid (CpA.b W n (H : Int) (T : Int)).drew
         rw [hWz] at HC
         generalize ((W.alloc (.cells #[.int .i64 n, .int .i64 H, .int .i64 T, .slice (some ⟨w.heap.size + 1 + 1, 0, none⟩) n n] 25)).alloc (.cells (madeCells #[.int .i64 0, .int .i64 0] (n * 2)) 59)).drew = X at HC ⊢
         generalize w.heap.size + 1 + 1 = cb at HC ⊢
         generalize w.heap.size + 1 = rb at HC ⊢)
    have v2 := (HW0.out.on HC.out.bel).c2
    go_wp2_with fail
    go_loopw [24] (fun t wr => ∃ (k : Nat) (z : Nat → Value), k ≤ n ∧ t = .int .i64 k ∧ CpA W wr rb cb n H T z ∧ (∀ j, j < k * 2 → z j = .int .i64 (zAt Z j))) (fun t _ => n - (intOf t).toNat)
    case atStart => exact ⟨0, _, Nat.zero_le _, rfl, HC.out, fun j hj => by omega⟩
    case round =>
      obtain ⟨k, z, hk, rfl, hC, hz⟩ := hrel
      have HCr := hid hC
      have HZ := hid hz
      have HWr := hid (HW0.out.on hC.bel)
      have c2 := HWr.out.c2
      obtain ⟨hrl, b0, b1, b2, b3⟩ := hC.box
      have hcl := hC.row.lt
      clear hC hz HC v2
      by_cases hlt : k < n
      · have d0 := HCr.out.row.cell (i := k * 2) (by omega)
        have d1 := HCr.out.row.cell (i := k * 2 + 1) (by omega)
        have f0 := HCr.out.row.frozen (k * 2)
        have f1 := HCr.out.row.frozen (k * 2 + 1)
        go_wp2_with fail
        have HS3 := hid (fun W' (hs : Save wr W' (fun j => j = cb)) => (⟨(hs.cell (p := ⟨rb, 3, none⟩) hrl HCr.out.ne).trans b3, (hs.cell (p := ⟨wb, 2, none⟩) HWr.out.lt (by show ¬ wb = cb; have := HCr.out.clo; have := HW0.out.lt; omega)).trans c2⟩ : W'.cell? ⟨rb, 3, none⟩ = some (.slice (some ⟨cb, 0, none⟩) n n) ∧ W'.cell? ⟨wb, 2, none⟩ = some (.slice (some ⟨sb, 0, none⟩) n n)))
        go_region_held3 (fun W' => W'.cell? ⟨rb, 3, none⟩ = some (.slice (some ⟨cb, 0, none⟩) n n) ∧ W'.cell? ⟨wb, 2, none⟩ = some (.slice (some ⟨sb, 0, none⟩) n n)) (first | (with_reducible exact HS3.out _ (Save.refl _ _).drew) | (with_reducible exact HS3.out _ (save_two _ _ _ _ _ _))) (first | (go_at_call 72; refine (HLd.out _ (by omega) _ HWr.out.drew).mono ?_; rintro e w1 ⟨rfl, rfl⟩))
        all_goals
          go_wp2_with fail
          go_roundw
          case rel =>
            refine ⟨k + 1, _, by omega, by go_num, (HCr.out.drew.put (k * 2) _).put (k * 2 + 1) _, fun j hj => ?_⟩
            by_cases e1 : j = k * 2 + 1
            · subst e1; simp
            · by_cases e0 : j = k * 2
              · subst e0; simp
              · simp only [if_neg e1, if_neg e0]; exact HZ.out j (by omega)
          case measure => simp [intOf]; omega
      · have hk' : k = n := by omega
        subst hk'
        obtain ⟨hq0, r0, r1, r2, r3⟩ := HBR.out.below HCr.out.bel (by omega)
        have g := fun i => (HCr.out.bel.frozen (p := ⟨w.heap.size, i, none⟩) (by show w.heap.size < W.heap.size; omega)).trans (HFR.out i)
        have g0 := g 0
        have g1 := g 1
        have g2 := g 2
        have g3 := g 3
        have hne0 : ¬ w.heap.size = cb := by have := HCr.out.clo; omega
        clear g
        go_wp2_with fail
        refine bodyPost_ret (v := .agg #[.int .i64 k, .int .i64 H, .int .i64 T, .slice (some ⟨cb, 0, none⟩) k k]) (by simp [results, Try.results71, go_sem, r0, r1, r2, r3]) rfl ⟨cb, rfl, by have := HCr.out.clo; omega, ?_, ?_⟩
        · have hrow : wr.rowIs cb 59 (k * 2) (fun j => .int .i64 (zAt Z j)) := HCr.out.row.congr (fun j hj => HZ.out j hj)
          unfold CupI
          rw [HN.out]
          exact World.rowIs.setOther (World.rowIs.setOther (World.rowIs.setOther (World.rowIs.setOther hrow (fun e => hne0 e.symm) _) (fun e => hne0 e.symm) _) (fun e => hne0 e.symm) _) (fun e => hne0 e.symm) _
        · exact ((((HB0.out.trans (HCr.out.bel.mono (by omega))).setCell (Nat.le_refl _) _).setCell (Nat.le_refl _) _).setCell (Nat.le_refl _) _).setCell (Nat.le_refl _) _
end Go.Proofs.Ytfafeomegoikkaa
