/-
  The program's copy of a formula that shares nothing: slices.Clone, own, by their contracts.
-/
import Derived.Test.YtgehklhpmelffaaDoorInN
import Derived.Test.YtgehklhpmelffaaDoorClone
import Derived.Test.YtgehklhpmelffaaDoorCkM
namespace Go.Proofs.YtgehklhpmelffaaDoor
open Go.RowKit
set_option linter.unusedVariables false
set_option linter.unusedSimpArgs false
theorem Tryd.uFm : Tryd.prog.underlying 46 = some (.slice 43) := by kernel_rfl
theorem eqIn_nil (w : World) (d : Nat) (t e : TypeId) (a : Addr) (l c : Nat) (h : Tryd.prog.underlying t = some (.slice e)) : (Op.equalIn (d + 1) t (.slice (some a) l c) (.slice none 0 0)).run Tryd.prog w = .ok false w := by
  simp [Op.equalIn, run_underlying h]
theorem equal_nil (w : World) (t e : TypeId) (a : Addr) (l c : Nat) (h : Tryd.prog.underlying t = some (.slice e)) : (Op.equal t (.slice (some a) l c) (.slice none 0 0)).run Tryd.prog w = .ok false w := eqIn_nil w 9999 t e a l c h
theorem eql_nil (w : World) (t e : TypeId) (a : Addr) (l c : Nat) (h : Tryd.prog.underlying t = some (.slice e)) : (binOp .eql t (.slice (some a) l c) (.slice none 0 0)).run Tryd.prog w = .ok (.bool false) w := by
  simp [binOp, equal_nil w t e a l c h]
theorem ownsN_none (w : World) (base : Nat) (h : base ≤ w.heap.size) : OwnsN (w.alloc (.cells #[] 43)) base (.slice (some ⟨w.heap.size, 0, none⟩) 0 0) [] :=
  World.ownsRow_made w #[] 0 h (by simp [maxLen]) (by simp)
theorem flatN_cells {W : World} {b : Nat} {f : List Nd} (h : NodesAt W b f) : ∀ j u, (flatN f)[j]? = some u → W.cell? ((⟨b, 0, none⟩ : Addr).add j) = some u := by
  intro j u hu
  have hj : j < f.length * 6 := by rw [← flatN_len]; exact (List.getElem?_eq_some_iff.1 hu).1
  have hi : j / 6 < f.length := by omega
  have e : j = j / 6 * 6 + j % 6 := by omega
  rw [e, flatN_get f (j / 6) (j % 6) hi (by omega)] at hu
  obtain ⟨c0, c1, c2, c3, c4, c5⟩ := h.2 (j / 6) hi
  rw [Addr.add_lit, Nat.zero_add]
  have hc : j % 6 = 0 ∨ j % 6 = 1 ∨ j % 6 = 2 ∨ j % 6 = 3 ∨ j % 6 = 4 ∨ j % 6 = 5 := by omega
  rw [e]
  generalize j / 6 = q at *
  generalize j % 6 = r at *
  rcases hc with rfl | rfl | rfl | rfl | rfl | rfl
  · simp [ndCells] at hu; rw [← hu]; exact c0
  · simp [ndCells] at hu; rw [← hu]; exact c1
  · simp [ndCells] at hu; rw [← hu]; exact c2
  · simp [ndCells] at hu; rw [← hu]; exact c3
  · simp [ndCells] at hu; rw [← hu]; exact c4
  · simp [ndCells] at hu; rw [← hu]; exact c5
theorem flatN_one (f : List Nd) : ∀ u ∈ flatN f, u.oneCell' = true := by
  intro u hu
  obtain ⟨x, _, hx⟩ := List.mem_flatMap.1 hu
  simp only [ndCells, List.mem_cons, List.not_mem_nil, or_false] at hx
  rcases hx with rfl | rfl | rfl | rfl | rfl | rfl <;> rfl
set_option maxRecDepth 20000 in
set_option maxHeartbeats 2000000 in
theorem cloneN_any (f : List Nd) (b cap : Nat) (hl : f.length ≤ 1048576) (w : World) (hN : NodesAt w b f) :
    Calls Tryd.prog 32 #[.slice (some ⟨b, 0, none⟩) f.length cap] w fun e w' => ∃ v, e = .returned v ∧ OwnsN w' w.heap.size v f ∧ Below w.heap.size w w' := by
  obtain ⟨i0, hi0, hz0, hz1, hz2⟩ := info_parts Tryd.infoN
  have HN := hid (hN.below (below_one' w (.cells #[] 43)) hN.1)
  have HB0 := hid (below_one' w (.cells #[] 43))
  have hnil : ∀ W, (binOp .eql 46 (.slice (some ⟨b, 0, none⟩) f.length cap) (.slice none 0 0)).run Tryd.prog W = .ok (.bool false) W := fun W => eql_nil W 46 _ ⟨b, 0, none⟩ _ _ Tryd.uFm
  clear hN
  go_enter Tryd.func32, Tryd.ntmps32
  go_wp2_with (at_builtin; go_loud (refine wpList_append_own_at _ rfl _ _ 46 rfl w.heap.size 43 i0 _ 6 56 Tryd.uFm hi0 hz0 hz1 hz2 rfl (by decide) _ 0 [] rfl (ownsN_none w w.heap.size (Nat.le_refl _)) ⟨b, 0, none⟩ f.length cap (flatN f) rfl (flatN_len f) (flatN_cells HN.out) (flatN_one f) (by unfold maxLen; omega) (by omega) (by simp) ?_; intro v5 w5 hown5 hgrow5 _ hat5; have HO5 : Hid (OwnsN w5 w.heap.size v5 f) := (by show w5.ownsRow _ _ _ _ _ _; simpa using hown5); have hs5 : Save w w5 (fun _ => False) := ((Save.refl w (fun _ => False)).alloc _).grown hgrow5 (fun k hk h => by simp [Value.ownBlock, Act.eval, Act.put] at hk; omega); have HB5 := hid (hs5.below (B := w.heap.size) (Nat.le_refl _) (fun j h => h.elim)); clear hown5 hgrow5 hat5 hs5))
  go_ret
  exact ⟨v5, rfl, HO5.out, HB5.out⟩
/-- A row of nodes that a call owns, as a row that may be longer. -/
theorem OwnsN.row {w : World} {base : Nat} {v : Value} {f : List Nd} (h : OwnsN w base v f) (h0 : 0 < f.length) : ∃ g c m z, v = .slice (some ⟨g, 0, none⟩) f.length c ∧ SlV (some ⟨g, 0, none⟩) f.length c ∧ base ≤ g ∧ f.length * 6 ≤ m ∧ w.rowIs g 43 m z ∧ (∀ i, i < f.length → z (i * 6 + 5) = .string (ndAt f i).nm) ∧ ∀ w' : World, w'.rowIs g 43 m z → NodesAt w' g f := by
  have hO := h
  rcases h.2 with ⟨_, h1⟩ | ⟨g, cap, cur, rfl, hb, hg, h1, h2, h3, h4⟩
  · omega
  · have hrow : w.rowIs g 43 cur.size (fun j => cur.getD j undef) := ⟨cur, hg, rfl, fun i hi => by simp [hi]⟩
    have hat := hO.at
    have key : ∀ i j v, i < f.length → j < 6 → w.cell? ⟨g, i * 6 + j, none⟩ = some v → cur.getD (i * 6 + j) undef = v := by
      intro i j v hi hj hc
      have h5 := hrow.cell (i := i * 6 + j) (by omega)
      rw [hc] at h5
      exact (Option.some.inj h5).symm
    refine ⟨g, cap, cur.size, _, rfl, Or.inr ⟨g, 0, rfl, h1, h2⟩, hb, by omega, hrow, fun i hi => key i 5 _ hi (by omega) (hat.2 i hi).c5, fun w' hr => ⟨hr.lt, fun i hi => ?_⟩⟩
    obtain ⟨c0, c1, c2, c3, c4, c5⟩ := hat.2 i hi
    have cell : ∀ j v, j < 6 → w.cell? ⟨g, i * 6 + j, none⟩ = some v → w'.cell? ⟨g, i * 6 + j, none⟩ = some v := fun j v hj hc => by
      rw [hr.cell (i := i * 6 + j) (by omega), key i j v hi hj hc]
    exact ⟨cell 0 _ (by omega) c0, cell 1 _ (by omega) c1, cell 2 _ (by omega) c2, cell 3 _ (by omega) c3, cell 4 _ (by omega) c4, cell 5 _ (by omega) c5⟩
set_option maxRecDepth 20000 in
set_option maxHeartbeats 4000000 in
theorem own_nodes (f : List Nd) (b cap : Nat) (h0 : 0 < f.length) (hl : f.length ≤ 1048576) (hnm : ∀ i, i < f.length → (ndAt f i).nm.size ≤ 10000) (w : World) (hN : NodesAt w b f) :
    Calls Tryd.prog 18 #[.slice (some ⟨b, 0, none⟩) f.length cap] w fun e w' => ∃ g c m z, e = .returned (.slice (some ⟨g, 0, none⟩) f.length c) ∧ SlV (some ⟨g, 0, none⟩) f.length c ∧ w.heap.size ≤ g ∧ f.length * 6 ≤ m ∧ w'.rowIs g 43 m z ∧ NodesAt w' g f ∧ Below w.heap.size w w' := by
  have HN := hid hN
  have HNm := hid hnm
  have HC := hid (cloneN_any f b cap hl w hN)
  have hbw := hN.1
  clear hN hnm
  go_enter Tryd.func18, Tryd.ntmps18
  go_wp2_with (go_at_call 32; refine HC.out.mono ?_; rintro e w1 ⟨v1, rfl, hO1, hb1⟩; obtain ⟨g, c, m, z, rfl, hsl, hg, hm, hr1, hz5, hall⟩ := hO1.row h0; have HSL := hid hsl; have HR1 := hid hr1; have HZ5 := hid hz5; have HAll := hid hall; have HB1 := hid hb1; clear hO1 hb1 hsl hr1 hz5 hall)
  go_loopw [10] (fun t wr => ∃ k : Nat, k ≤ f.length ∧ t = .int .i64 k ∧ wr.rowIs g 43 m z ∧ Below w.heap.size w wr) (fun t _ => f.length - (intOf t).toNat)
  case atStart => exact ⟨0, Nat.zero_le _, rfl, HR1.out, HB1.out⟩
  case round =>
    obtain ⟨k, hk, rfl, hrow, hbel⟩ := hrel
    have HRow := hid hrow
    have HB := hid hbel
    have hgr := hrow.lt
    clear hrow hbel
    by_cases hlt : k < f.length
    · obtain ⟨n0, n1, n2, n3, n4, n5⟩ := (HN.out.2 k hlt).below HB.out hbw
      have hbr : b < wr.heap.size := by have := HB.out.size; omega
      have hn10 := HNm.out k hlt
      have HZk := hid (HZ5.out k hlt)
      have HBa := hid (below_one' wr (.cells #[.int .i64 (ndAt f k).k, .int .i64 (ndAt f k).a, .int .i64 (ndAt f k).b, .int .i64 (ndAt f k).lo, .int .i64 (ndAt f k).hi, .string (ndAt f k).nm] 43))
      have HCl := hid (fun w => clone_any (ndAt f k).nm hn10 w)
      generalize ndAt f k = x at *
      go_wp2_with (go_at_call 33; refine (HCl.out _).mono ?_; rintro e w2 ⟨rfl, hb2⟩; have HB2 := hid (HB.out.trans ((HBa.out.trans (hb2.mono HBa.out.size)).mono HB.out.size)); have HR2 := hid ((World.rowIs.alloc HRow.out _).of_block (hb2.block g (by simp; omega))); have d5 := HR2.out.cell (i := k * 6 + 5) (by omega); have f5 := HR2.out.frozen (k * 6 + 5); clear hb2)
      go_roundw
      case rel =>
        refine ⟨k + 1, by omega, by go_num, (HR2.out.set (k * 6 + 5) _).congr (fun j hj => ?_), HB2.out.setCell hg _⟩
        by_cases e : j = k * 6 + 5
        · subst e; simp [HZk.out]
        · simp [e]
      case measure => simp [intOf]; omega
    · have hk' : k = f.length := by omega
      subst hk'
      go_wp2_with fail
      go_ret
      exact ⟨g, c, m, z, rfl, HSL.out, hg, hm, HRow.out, HAll.out _ HRow.out, HB.out⟩
end Go.Proofs.YtgehklhpmelffaaDoor
