/-
  The model's l03Copy by its contract.
-/
import Derived.Test.YthjnlcjjhklfpaaDoorClC
namespace Go.Proofs.YthjnlcjjhklfpaaDoor
open Go.RowKit
set_option linter.unusedVariables false
set_option linter.unusedSimpArgs false
theorem blk_new (w : World) (o : Obj) : (w.alloc o).heap[w.heap.size]? = some o := by
  show (w.heap.push o)[w.heap.size]? = some o
  simp
theorem OwS.low {w : World} {base base' : Nat} {v : Value} {S : List ByteArray} (h : OwS w base v S) (hb : base' ≤ base) : OwS w base' v S :=
  ⟨h.1, h.2.imp id (fun ⟨g, cap, cur, a, b, c⟩ => ⟨g, cap, cur, a, Nat.le_trans hb b, c⟩)⟩
theorem own_empty (w : World) (base : Nat) (h : base ≤ w.heap.size) : OwS (w.alloc (.cells #[] 9)) base (.slice (some ⟨w.heap.size, 0, none⟩) 0 0) [] :=
  ⟨rfl, Or.inr ⟨w.heap.size, 0, #[], rfl, h, blk_new w _, Nat.le_refl _, by unfold maxLen; omega, rfl, rfl⟩⟩
theorem strs_one (S : List ByteArray) : ∀ u ∈ S.map Value.string, u.oneCell' = true := by
  intro u hu
  obtain ⟨b, _, rfl⟩ := List.mem_map.1 hu
  rfl
theorem strs_cells {W : World} {g : Nat} {S : List ByteArray} (h : ∀ j, j < S.length → W.cell? ⟨g, j, none⟩ = some (.string (txAt S j))) : ∀ j u, (S.map Value.string)[j]? = some u → W.cell? ((⟨g, 0, none⟩ : Addr).add j) = some u := by
  intro j u hu
  have hj : j < S.length := by simpa using (List.getElem?_eq_some_iff.1 hu).1
  rw [Addr.add_lit, show 0 + j = j by omega, h j hj]
  simp [hj] at hu
  simp [txAt, List.getD, hj, hu]
set_option maxRecDepth 20000 in
set_option maxHeartbeats 4000000 in
theorem specCopy_any (t : Int) (S : List ByteArray) (g c : Nat) (hl : S.length ≤ 1000) (w : World) (hS : StrsAt w g S) :
    Calls Tryd.prog 86 #[.agg #[.int .i64 t, .slice (some ⟨g, 0, none⟩) S.length c]] w fun e w' => ∃ v, e = .returned (.agg #[.int .i64 t, v]) ∧ OwS w' w.heap.size v S ∧ Below w.heap.size w w' := by
  obtain ⟨i0, hi, hz0, hz1, hz2⟩ := info_parts Tryd.infoS1
  have hg := hS.1
  have HC := hid hS.2
  clear hS
  go_enter Tryd.func86, Tryd.ntmps86
  go_wp2_with fail
  have hzW : ((w.alloc (.cells #[.int .i64 t, .slice (some ⟨g, 0, none⟩) S.length c] 38)).alloc (.cells #[.int .i64 0, .slice none 0 0] 38)).heap.size = w.heap.size + 2 := by simp
  have HBW : Hid (Below w.heap.size w ((w.alloc (.cells #[.int .i64 t, .slice (some ⟨g, 0, none⟩) S.length c] 38)).alloc (.cells #[.int .i64 0, .slice none 0 0] 38))) := ((Below.refl _ _).alloc (Nat.le_refl _) _).alloc (by simp) _
  have b0 : ((w.alloc (.cells #[.int .i64 t, .slice (some ⟨g, 0, none⟩) S.length c] 38)).alloc (.cells #[.int .i64 0, .slice none 0 0] 38)).cell? ⟨w.heap.size, 0, none⟩ = some (.int .i64 t) := by simp [go_sem]
  have b1 : ((w.alloc (.cells #[.int .i64 t, .slice (some ⟨g, 0, none⟩) S.length c] 38)).alloc (.cells #[.int .i64 0, .slice none 0 0] 38)).cell? ⟨w.heap.size, 1, none⟩ = some (.slice (some ⟨g, 0, none⟩) S.length c) := by simp [go_sem]
  have e1 : w.heap.size + 1 = (w.alloc (.cells #[.int .i64 t, .slice (some ⟨g, 0, none⟩) S.length c] 38)).heap.size := by simp
  have r0 : ((w.alloc (.cells #[.int .i64 t, .slice (some ⟨g, 0, none⟩) S.length c] 38)).alloc (.cells #[.int .i64 0, .slice none 0 0] 38)).cell? ⟨w.heap.size + 1, 0, none⟩ = some (.int .i64 0) := by rw [e1]; simp [go_sem]
  have r1 : ((w.alloc (.cells #[.int .i64 t, .slice (some ⟨g, 0, none⟩) S.length c] 38)).alloc (.cells #[.int .i64 0, .slice none 0 0] 38)).cell? ⟨w.heap.size + 1, 1, none⟩ = some (.slice none 0 0) := by rw [e1]; simp [go_sem]
  have f0 : ((w.alloc (.cells #[.int .i64 t, .slice (some ⟨g, 0, none⟩) S.length c] 38)).alloc (.cells #[.int .i64 0, .slice none 0 0] 38)).frozen? ⟨w.heap.size + 1, 0, none⟩ = false := by rw [e1]; simp [go_sem]
  have f1 : ((w.alloc (.cells #[.int .i64 t, .slice (some ⟨g, 0, none⟩) S.length c] 38)).alloc (.cells #[.int .i64 0, .slice none 0 0] 38)).frozen? ⟨w.heap.size + 1, 1, none⟩ = false := by rw [e1]; simp [go_sem]
  clear e1
  generalize ((w.alloc (.cells #[.int .i64 t, .slice (some ⟨g, 0, none⟩) S.length c] 38)).alloc (.cells #[.int .i64 0, .slice none 0 0] 38)) = W at *
  have HC1 : Hid (∀ j, j < S.length → W.cell? ⟨g, j, none⟩ = some (.string (txAt S j))) := fun j hj => (HBW.out.cell (p := ⟨g, j, none⟩) hg).trans (HC.out j hj)
  have hgW : g < W.heap.size := by omega
  have HC2 : Hid (∀ j, j < S.length → (W.drew.alloc (.cells #[] 9)).cell? ⟨g, j, none⟩ = some (.string (txAt S j))) := fun j hj => (((Below.refl W.heap.size W.drew).alloc (Nat.le_refl _) _).cell (p := ⟨g, j, none⟩) hgW).trans (HC1.out j hj)
  have hq1 : w.heap.size + 1 < W.heap.size := by omega
  have hq0 : w.heap.size < W.heap.size := by omega
  have HO0 := hid (own_empty W.drew (w.heap.size + 2) (by show w.heap.size + 2 ≤ W.heap.size; omega))
  go_region_law (refine step_append_own rfl (.tmp 5) (.tmp 7) 29 rfl (w.heap.size + 2) 9 i0 _ 1 16 Tryd.uSts hi hz0 hz1 hz2 rfl (by decide) (.slice (some ⟨W.heap.size, 0, none⟩) 0 0) 0 [] (by simp [Act.eval, Act.put]) HO0.out ⟨g, 0, none⟩ S.length c (S.map Value.string) (by simp [Act.eval, Act.put]) (by simp) (strs_cells HC2.out) (strs_one S) (by unfold maxLen; omega) (by omega) (by simp; omega) ?_; intro v' w3 hown3 hgrow3 hloc3; have hO3 : OwS w3 (w.heap.size + 2) v' S := (by show w3.ownsRow _ _ _ _ _ _; simpa using hown3); have hSv : Save W w3 (fun _ => False) := (((Save.refl W (fun _ => False)).drew.alloc _).grown hgrow3 (fun k hk h => by simp [Value.ownBlock] at hk; omega)); have HSv := hid hSv; have HO3 := hid hO3; have s0 := (hSv.cell (p := ⟨w.heap.size + 1, 0, none⟩) hq1 (fun h => h)).trans r0; have s1 := (hSv.cell (p := ⟨w.heap.size + 1, 1, none⟩) hq1 (fun h => h)).trans r1; have g0 := (hSv.frozen (p := ⟨w.heap.size + 1, 0, none⟩) hq1 (fun h => h)).trans f0; have g1 := (hSv.frozen (p := ⟨w.heap.size + 1, 1, none⟩) hq1 (fun h => h)).trans f1; have t0 := (hSv.cell (p := ⟨w.heap.size, 0, none⟩) hq0 (fun h => h)).trans b0; have t1 := (hSv.cell (p := ⟨w.heap.size, 1, none⟩) hq0 (fun h => h)).trans b1; obtain ⟨va, vc, rfl, hva⟩ := hO3.form; have HVA := hid hva.2.2; clear hva hown3 hgrow3 hloc3 hO3 hSv)
  all_goals
    go_wp2_with fail
    refine bodyPost_ret (v := .agg #[.int .i64 t, .slice va S.length vc]) (by simp [results, Tryd.results86, go_sem, s0, s1, g0, g1]) rfl ⟨_, rfl, ?_, ?_⟩
    · have hs1 : Save w3 ((w3.setCell ⟨w.heap.size + 1, 0, none⟩ (.int .i64 t)).setCell ⟨w.heap.size + 1, 1, none⟩ (.slice va S.length vc)) (fun j => j = w.heap.size + 1) := Save.setCell (S := fun j => j = w.heap.size + 1) (Save.setCell (S := fun j => j = w.heap.size + 1) (Save.refl w3 _) (p := ⟨w.heap.size + 1, 0, none⟩) (fun _ => rfl) _) (p := ⟨w.heap.size + 1, 1, none⟩) (fun _ => rfl) _
      exact (HO3.out.save hs1 (fun k hk e => by have := (World.ownsRow.lt HO3.out k hk).1; omega)).low (by omega)
    · exact ((HBW.out.trans (HSv.out.below (B := w.heap.size) (by omega) (fun j h => h.elim))).setCell (by show w.heap.size ≤ w.heap.size + 1; omega) _).setCell (by show w.heap.size ≤ w.heap.size + 1; omega) _
end Go.Proofs.YthjnlcjjhklfpaaDoor
