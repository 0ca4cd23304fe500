/-
  The program's maker of nodes: newMaker, put, told, by their contracts (rules: none).
  The program's takeIn, by its contract.
  Rename: what it tells; plain facts; names turned in a row of nodes.
  The program's Rename, by its contract.
  The model's Rename, by its contract.
  The walk of the law FnExactRename.
-/
import Derived.Test.YtjefdkmbakhngaaDoorFmD
import Derived.Test.YtjefdkmbakhngaaDoorPartA
import Derived.Test.YtjefdkmbakhngaaDoorFcA
import Derived.Test.YtjefdkmbakhngaaDoorFoK
namespace Go.Proofs.YtjefdkmbakhngaaDoor
open Go.RowKit
set_option linter.unusedVariables false
set_option linter.unusedSimpArgs false
/-- A maker without rules lies in a block: its nodes are g. -/
structure MakeAt (w : World) (kb sb mb base : Nat) (v : Value) (g : List Nd) : Prop where
  st : StoreAt w sb mb base v g
  ltk : kb < base
  n1 : kb ≠ sb
  n2 : kb ≠ mb
  k0 : w.cell? ⟨kb, 0, none⟩ = some (.pointer (some ⟨sb, 0, none⟩))
  k1 : w.cell? ⟨kb, 1, none⟩ = some (.slice none 0 0)
  k2 : w.cell? ⟨kb, 2, none⟩ = some .nilIface
def MakeB (kb sb mb : Nat) (v : Value) (b : Nat) : Prop := b = kb ∨ StoreS sb mb v b
theorem MakeAt.save {w w' : World} {kb sb mb base : Nat} {v : Value} {g : List Nd} {S : Nat → Prop} (h : MakeAt w kb sb mb base v g) (hs : Save w w' S) (hS : ∀ b, MakeB kb sb mb v b → ¬ S b) : MakeAt w' kb sb mb base v g := by
  have hl := h.ltk; have hb := h.st.ltb
  have e1 : ¬ S kb := hS kb (Or.inl rfl)
  exact ⟨h.st.save hs (fun b hb => hS b (Or.inr hb)), h.ltk, h.n1, h.n2, (hs.cell (p := ⟨kb, _, none⟩) (by simp only; omega) e1).trans h.k0, (hs.cell (p := ⟨kb, _, none⟩) (by simp only; omega) e1).trans h.k1, (hs.cell (p := ⟨kb, _, none⟩) (by simp only; omega) e1).trans h.k2⟩
theorem MakeAt.on {w w' : World} {kb sb mb base : Nat} {v : Value} {g : List Nd} (h : MakeAt w kb sb mb base v g) (hb : Below w.heap.size w w') : MakeAt w' kb sb mb base v g :=
  h.save (S := fun _ => False) (Save.of_below hb _ (fun j h1 h2 => absurd h1 (by omega))) (fun _ _ h => h)
set_option maxRecDepth 20000 in
set_option maxHeartbeats 1000000 in
theorem newMaker_any (w : World) :
    Calls Tryd.prog 31 #[.int .i64 24] w fun e w' => ∃ kb sb mb, e = .returned (.pointer (some ⟨kb, 0, none⟩)) ∧ w.heap.size ≤ kb ∧ w.heap.size ≤ sb ∧ w.heap.size ≤ mb ∧ MakeAt w' kb sb mb w'.heap.size (.slice none 0 0) [] ∧ Below w.heap.size w w' := by
  go_enter Tryd.func31, Tryd.ntmps31
  go_wp2_with (go_at_call 52; refine (newStore_any w).mono ?_; rintro e w1 ⟨sb, mb, rfl, hsb, hmb, hst, hb1⟩; have HSt := hid hst; have HB1 := hid hb1; have hz1 := hb1.size; clear hst hb1)
  go_ret
  have hl1 := HSt.out.lts
  have hl2 := HSt.out.ltm
  have hS := HSt.out.save (S := fun _ => False) ((Save.refl w1 (fun _ => False)).alloc (.cells #[.pointer (some ⟨sb, 0, none⟩), .slice none 0 0, .nilIface] 64)) (fun _ _ h => h)
  refine ⟨w1.heap.size, sb, mb, rfl, hz1, hsb, hmb, ⟨⟨by simp; omega, by simp; omega, hS.ne, Nat.le_refl _, hS.cell0, hS.cell1, hS.cell2, hS.free, World.ownsRow_nil _ _ _ _, hS.map, hS.ok, hS.le⟩, by simp, by omega, by omega, by simp [go_sem], by simp [go_sem], by simp [go_sem]⟩, HB1.out.trans (((Below.refl _ _).alloc (Nat.le_refl _) _).mono hz1)⟩
theorem good_apart {g : List Nd} (hg : goodTo g g.length = true) : ∀ i j, i < j → j < g.length → ndAt g i ≠ ndAt g j := fun i j hij hj => (goodTo_at g j g.length hj hg).2 i hij
set_option maxRecDepth 20000 in
set_option maxHeartbeats 4000000 in
theorem mput_any (x : Nd) (hx : ndOk x) (g : List Nd) (hg : goodTo g g.length = true) (hlen : g.length < 24) (kb sb mb base : Nat) (v : Value) (w : World) (hM : MakeAt w kb sb mb base v g) :
    Calls Tryd.prog 44 #[.pointer (some ⟨kb, 0, none⟩), ndV x] w fun e w' => e = .returned (.int .i64 (plG g x : Nat)) ∧ ∃ v', MakeAt w' kb sb mb base v' (putG g x) ∧ Save w w' (StoreS sb mb v) ∧ (∀ k, v'.ownBlock = some k → v.ownBlock = some k ∨ w.heap.size ≤ k) := by
  have HM := hid hM
  have hkb : kb < w.heap.size := Nat.lt_of_lt_of_le hM.ltk hM.st.ltb
  have HBX := hid (box_node w x 46)
  have HB0 := hid (fone w (.cells #[.int .i64 x.k, .int .i64 x.a, .int .i64 x.b, .int .i64 x.lo, .int .i64 x.hi, .string x.nm] 46))
  have HM0 := hid (hM.on HB0.out)
  have HU : Hid (∀ x : Nd, ndV x = .agg #[.int .i64 x.k, .int .i64 x.a, .int .i64 x.b, .int .i64 x.lo, .int .i64 x.hi, .string x.nm]) := fun _ => rfl
  have HAd : Hid (∀ w', MakeAt w' kb sb mb base v g → Calls Tryd.prog 62 #[.pointer (some ⟨sb, 0, none⟩), ndV x] w' fun e w'' => e = .returned (.tuple #[.int .i64 (plG g x : Nat), .nilIface]) ∧ ∃ v', StoreAt w'' sb mb base v' (putG g x) ∧ Save w' w'' (StoreS sb mb v) ∧ (∀ k, v'.ownBlock = some k → v.ownBlock = some k ∨ w'.heap.size ≤ k)) := fun w' h => by
    by_cases hp : plG g x < g.length
    · refine (add_old x hx g sb mb base v w' h.st (plG g x) hp (plG_at hp) (fun i h1 h2 e => ?_)).mono ?_
      · exact good_apart hg (plG g x) i h1 h2 ((plG_at hp).trans e.symm)
      · rintro e w'' ⟨rfl, hb⟩
        have hs : Save w' w'' (fun _ => False) := Save.of_below hb _ (fun j h1 h2 => absurd h1 (by omega))
        exact ⟨rfl, v, by rw [putG_old hp]; exact h.st.save hs (fun _ _ h => h), hs.mono (fun _ _ h => h.elim), fun k hk => Or.inl hk⟩
    · have h3 : plG g x = g.length := by have := plG_le g x; omega
      refine (add_new x hx g sb mb base v w' h.st hlen (fun i hi => plG_new hp i hi)).mono ?_
      rintro e w'' ⟨rfl, v', hst, hs, hv⟩
      exact ⟨by rw [h3], v', by rw [putG_new hp]; exact hst, hs, hv⟩
  rw [HU.out] at HAd
  generalize hP : plG g x = P at *
  generalize hG : putG g x = G at *
  clear hM hP hG hg
  rw [HU.out]
  go_enter Tryd.func44, Tryd.ntmps44
  have c0 := HM0.out.k0
  have c1 := HM0.out.k1
  have c2 := HM0.out.k2
  go_wp2_with fail
  have hz0 : w.heap.size < (w.alloc (.cells #[.int .i64 x.k, .int .i64 x.a, .int .i64 x.b, .int .i64 x.lo, .int .i64 x.hi, .string x.nm] 46)).heap.size := by simp
  generalize w.alloc (.cells #[.int .i64 x.k, .int .i64 x.a, .int .i64 x.b, .int .i64 x.lo, .int .i64 x.hi, .string x.nm] 46) = W0 at *
  go_loopw [16] (fun t wr => t = .int .i64 0 ∧ wr = W0) (fun _ _ => 0)
  case atStart => exact ⟨rfl, rfl⟩
  case round =>
    obtain ⟨rfl, rfl⟩ := hrel
    obtain ⟨d0, d1, d2, d3, d4, d5⟩ := (show NodeAt wr w.heap.size 0 (x.k, x.a, x.b, x.lo, x.hi, x.nm) from HBX.out).zero
    go_wp2_with fail
    have HMd : Hid (∀ W, Save wr W (fun _ => False) → MakeAt W kb sb mb base v g) := fun W h => HM0.out.save h (fun _ _ h => h)
    go_region_with (go_at_call 62; refine (HAd.out _ (HMd.out _ (by repeat (first | exact Save.refl _ _ | refine Save.drew ?_)))).mono ?_; rintro e w2 ⟨rfl, v', hst, hs2, hv2⟩; have HSt := hid hst; have HS2 := hid hs2; have HV2 := hid hv2; clear hst hs2 hv2)
    all_goals
      have hkn : ¬ StoreS sb mb v kb := by
        rintro (h | h | h)
        · exact HM0.out.n1 h
        · exact HM0.out.n2 h
        · have := (World.ownsRow.lt HM0.out.st.own _ h).1; have := HM0.out.ltk; omega
      have hkw : kb < wr.heap.size := by omega
      go_wp2_with fail
      go_ret
      exact ⟨rfl, v', ⟨HSt.out, HM0.out.ltk, HM0.out.n1, HM0.out.n2, (HS2.out.cell (p := ⟨kb, 0, none⟩) hkw hkn).trans HM0.out.k0, (HS2.out.cell (p := ⟨kb, 1, none⟩) hkw hkn).trans HM0.out.k1, (HS2.out.cell (p := ⟨kb, 2, none⟩) hkw hkn).trans HM0.out.k2⟩, (Save.of_below HB0.out (StoreS sb mb v) (fun j h1 h2 => absurd h1 (by omega))).drew.trans HS2.out, fun k hk => (HV2.out k hk).imp id (fun h => by have h' : wr.heap.size ≤ k := h; omega)⟩
set_option maxRecDepth 20000 in
set_option maxHeartbeats 4000000 in
theorem told_any (g : List Nd) (hg : goodTo g g.length = true) (i : Nat) (hi : i < g.length) (F : List Nd) (hF : partG g i = F) (kb sb mb base : Nat) (v : Value) (w : World) (hM : MakeAt w kb sb mb base v g) :
    Calls Tryd.prog 37 #[.pointer (some ⟨kb, 0, none⟩), .int .i64 i] w fun e w' => ∃ fa fc, e = .returned (.agg #[.slice fa F.length fc, .int .i64 0]) ∧ NsA w' fa F ∧ RowA w' fa F.length ∧ (∀ q, fa = some q → q = ⟨q.block, 0, none⟩ ∧ w.heap.size ≤ q.block ∧ q.block < w'.heap.size) ∧ Below w.heap.size w w' := by
  have hl := hM.st.le
  have hFl : F.length ≤ 24 := by rw [← hF]; have := partG_len hg hi; omega
  have HB0 := hid (fone w (.cells #[.slice none 0 0, .int .i64 0] 26))
  have HX0 := hid (foz w).1
  have HG0 := hid (foz w).2
  have HM0 := hid (hM.on HB0.out)
  have hkb : kb < w.heap.size := Nat.lt_of_lt_of_le hM.ltk hM.st.ltb
  have hsb : sb < w.heap.size := Nat.lt_of_lt_of_le hM.st.lts hM.st.ltb
  obtain ⟨va, vc, rfl, hvf⟩ := hM.st.own.form
  obtain ⟨gb, rfl⟩ : ∃ gb, va = some ⟨gb, 0, none⟩ := by
    rcases hvf with rfl | ⟨b, rfl, _, _⟩
    · exfalso
      rcases hM.st.own.2 with ⟨_, h0⟩ | ⟨q, cp, cu, e, _⟩
      · omega
      · cases e
    · exact ⟨b, rfl⟩
  have HPt := hid (partAt_good g gb vc i _ HM0.out.st.own.at ⟨by omega, hl, hg⟩ hi HM0.out.st.ok)
  have hFe : partTo g (walkF g g.length i []) (walkF g g.length i []).length = F := hF
  have hFn : (walkF g g.length i []).length = F.length := by rw [← hFe, partTo_len]
  rw [hFe, hFn] at HPt
  have c0 := HM0.out.k0
  have c2 := HM0.out.k2
  have s0 := HM0.out.st.cell0
  clear hM hg hF hFe hFn
  go_enter Tryd.func37, Tryd.ntmps37
  go_wp2_with (go_at_call 59; refine HPt.out.mono ?_; rintro e w1 ⟨pb, z, rfl, hpb, hr1, hb1⟩; have HR := hid hr1; have HB1 := hid (HB0.out.trans (hb1.mono HB0.out.size)); obtain ⟨hq0, o0, o1⟩ := HX0.out.on hb1; obtain ⟨g0, g1⟩ := HG0.out.on hb1 HX0.out.lt; have hz1 := hb1.size; clear hr1 hb1)
  refine bodyPost_ret (v := .agg #[.slice (some ⟨pb, 0, none⟩) F.length F.length, .int .i64 0]) (by simp [results, Tryd.results37, go_sem, o0, o1, g0, g1]) rfl ?_
  have s2 := foset2 w1 w.heap.size (.slice (some ⟨pb, 0, none⟩) F.length F.length) (.int .i64 0)
  have hz2 := s2.size
  have hz0 : w.heap.size < (w.alloc (.cells #[.slice none 0 0, .int .i64 0] 26)).heap.size := by simp
  have hrl := HR.out.lt
  have hr2 := HR.out.of_block (s2.block pb hrl (by show ¬ pb = w.heap.size; omega))
  exact ⟨_, _, rfl, Or.inr ⟨pb, rfl, row_nodes_long hr2 (Nat.le_refl _)⟩, Or.inr ⟨pb, _, _, rfl, Nat.le_refl _, hr2⟩, (fun q e => by injection e with e; subst e; exact ⟨rfl, by show _ ≤ pb; omega, by show pb < _; omega⟩), HB1.out.trans (s2.below (B := w.heap.size) HB1.out.size (fun j h => by omega))⟩
end Go.Proofs.YtjefdkmbakhngaaDoor
namespace Go.Proofs.YtjefdkmbakhngaaDoor
open Go.RowKit
set_option linter.unusedVariables false
set_option linter.unusedSimpArgs false
set_option maxRecDepth 20000 in
set_option maxHeartbeats 8000000 in
theorem takeIn_any (f : List Nd) (b cap kb sb mb base : Nat) (h0 : 0 < f.length) (hn : f.length ≤ 24) (hok : ∀ i, i < f.length → ndOk (ndAt f i)) (hL : okL f f.length) (hbb : b < base) (hb1 : b ≠ sb) (hb2 : b ≠ mb) (w : World) (hN : NodesAt w b f) (v0 : Value) (hM : MakeAt w kb sb mb base v0 []) :
    Calls Tryd.prog 38 #[.pointer (some ⟨kb, 0, none⟩), .slice (some ⟨b, 0, none⟩) f.length cap] w fun e w' => e = .returned (.int .i64 ((layS f f.length).2 (f.length - 1))) ∧ ∃ v', MakeAt w' kb sb mb base v' (layS f f.length).1 ∧ Save w w' (fun j => j = sb ∨ j = mb ∨ base ≤ j) := by
  have HM := hid hM
  have HN := hid hN
  have HOk := hid hok
  have HL := hid (fun k (hk : k ≤ f.length) => laid_all f f.length hL k hk)
  have HLt := hid hL
  have hmk := run_make_row' (P := Tryd.prog) 45 2 (.int .i64 0) 8 Tryd.underlying45 Tryd.infoI rfl .i64 .i64 f.length (by omega) (by omega)
  have hkb := hM.ltk
  have hsb := hM.st.lts
  have hmb := hM.st.ltm
  have hltb := hM.st.ltb
  have HR0 : Hid (RowD (w.alloc (.cells (madeCells #[.int .i64 0] f.length) 2)) w.heap.size f.length (fun _ => 0)) := World.rowIs_made _ _ _ _
  have HW0 := hid (fone w (.cells (madeCells #[.int .i64 0] f.length) 2))
  clear hM hN hok hL
  go_enter Tryd.func38, Tryd.ntmps38
  go_wp2_with fail
  have hvo0 : ∀ q, v0.ownBlock = some q → q ≠ w.heap.size := fun q hq => by have := (World.ownsRow.lt HM.out.st.own q hq).2; omega
  have HM1 := hid (HM.out.on HW0.out)
  have HN1 := hid (HN.out.below HW0.out HN.out.1)
  have hsz1 : w.heap.size < (w.alloc (.cells (madeCells #[.int .i64 0] f.length) 2)).heap.size := by simp
  generalize w.alloc (.cells (madeCells #[.int .i64 0] f.length) 2) = W1 at *
  clear hmk
  go_loopw [13] (fun t wr => ∃ (k : Nat) (v : Value), k ≤ f.length ∧ t = .int .i64 k ∧ (∀ q, v.ownBlock = some q → q ≠ w.heap.size) ∧ RowD wr w.heap.size f.length (layS f k).2 ∧ MakeAt wr kb sb mb base v (layS f k).1 ∧ Save W1 wr (fun j => j = sb ∨ j = mb ∨ base ≤ j)) (fun t _ => f.length - (intOf t).toNat)
  case atStart => exact ⟨0, v0, Nat.zero_le _, rfl, hvo0, HR0.out, HM1.out, Save.refl _ _⟩
  case round =>
    obtain ⟨k, v, hk, rfl, hvo, hrow, hM, hsv⟩ := hrel
    have HRow := hid hrow
    have HMr := hid hM
    have HSv := hid hsv
    have hszr := hsv.size
    have hrl := hrow.lt
    have hbw : b < w.heap.size := HN.out.1
    have HNr := hid (hsv.nodes HN1.out (by rintro (h | h | h) <;> omega))
    clear hrow hM hsv
    by_cases hlt : k < f.length
    · have HLg := hid (HL.out k (by omega))
      have HOy := hid (moved_ok (HOk.out k hlt) (lay_to (HL.out k (by omega)) (n := f.length) (by omega) (by omega)))
      have HOb := hid (fun j (h : v.ownBlock = some j) => (World.ownsRow.lt HMr.out.st.own j h).1)
      have hx := HLt.out k hlt
      obtain ⟨c0, c1, c2, c3, c4, c5⟩ := HNr.out.2 k hlt
      have hbr' := HNr.out.1
      have hRE : ∀ j, (layS f (k + 1)).2 j = if j = k then ((plG (layS f k).1 (movedN (layS f k).2 (ndAt f k)) : Nat) : Int) else (layS f k).2 j := fun j => rfl
      have HGE : Hid ((layS f (k + 1)).1 = putG (layS f k).1 (movedN (layS f k).2 (ndAt f k))) := rfl
      have hkd : isB (ndAt f k).k 1 9 = true := by simp only [nodeB, Bool.and_eq_true] at hx; exact hx.1
      have har : armsOk (ndAt f k) f.length := (nodeB_arms _ _ hx).mono (by omega)
      have HMv := hid (fun w' h => moved_any (ndAt f k) w.heap.size f.length f.length (layS f k).2 w' h hkd har hn)
      have HPt := hid (fun w' h => mput_any (movedN (layS f k).2 (ndAt f k)) HOy.out (layS f k).1 HLg.out.good (by have := HLg.out.len; omega) kb sb mb base v w' h)
      have HRE := hid hRE
      have HUn : Hid (ndV (ndAt f k) = .agg #[.int .i64 (ndAt f k).k, .int .i64 (ndAt f k).a, .int .i64 (ndAt f k).b, .int .i64 (ndAt f k).lo, .int .i64 (ndAt f k).hi, .string (ndAt f k).nm]) := rfl
      have HMr2 := hid (fun (W : World) (h : Save wr W (fun _ => False)) => HMr.out.save h (fun _ _ h => h))
      have HRow2 := hid (fun (W : World) (h : Save wr W (fun _ => False)) => (show RowD W w.heap.size f.length (layS f k).2 from World.rowIs.of_block HRow.out (h.block w.heap.size HRow.out.lt (fun h => h))))
      rw [HUn.out] at HMv
      generalize hP : plG (layS f k).1 (movedN (layS f k).2 (ndAt f k)) = P at *
      generalize hG : putG (layS f k).1 (movedN (layS f k).2 (ndAt f k)) = G at *
      generalize hY : ndV (movedN (layS f k).2 (ndAt f k)) = Y at *
      clear hP hG hY hRE hx hkd har HOy HUn
      generalize ndAt f k = x at *
      have HS0 : Hid (Save wr (wr.alloc (.cells #[.int .i64 x.k, .int .i64 x.a, .int .i64 x.b, .int .i64 x.lo, .int .i64 x.hi, .string x.nm] 46)) (fun _ => False)) := (Save.refl wr _).alloc _
      go_wp2_with (first | (go_at_call 60; refine (HMv.out _ (HRow2.out _ HS0.out)).mono ?_; rintro e w1 ⟨rfl, hb1⟩; have HS1 := hid (HS0.out.trans (Save.of_below hb1 (fun _ => False) (fun j h1 h2 => absurd h1 (by omega)))); clear hb1) | (go_at_call 44; refine (HPt.out _ (HMr2.out _ HS1.out)).mono ?_; rintro e w2 ⟨rfl, v', hM2, hs2, hv2⟩; have HM2 := hid hM2; have HS2 := hid ((HS1.out.mono (fun _ _ h => h.elim)).trans hs2); have HV2 := hid hv2; have HR2 := hid (World.rowIs.of_block (HRow2.out _ HS1.out) (hs2.block w.heap.size (HRow2.out _ HS1.out).lt (by rintro (h | h | h); exact absurd h (by omega); exact absurd h (by omega); exact hvo _ h rfl))); have d2 := HR2.out.cell (i := k) hlt; have f2 := HR2.out.frozen k; have hz1 := HS1.out.size; clear hM2 hs2 hv2))
      go_roundw
      case rel =>
        have hvo' : ∀ q, v'.ownBlock = some q → q ≠ w.heap.size := fun q hq => by
          rcases HV2.out q hq with h | h
          · exact hvo q h
          · omega
        have hs3 := Save.setCell (S := fun j => j = w.heap.size) (Save.refl w2 _) (p := ⟨w.heap.size, k, none⟩) (fun _ => rfl) (.int .i64 (P : Nat))
        refine ⟨k + 1, v', by omega, by go_num, hvo', (RowD.set HR2.out k (P : Nat)).congr (fun j => by rw [HRE.out]), ?_, ?_⟩
        · rw [HGE.out]; exact HM2.out.save hs3 (by
            rintro j (h | h | h | h) h2
            · have h2' : j = w.heap.size := h2; omega
            · have h2' : j = w.heap.size := h2; omega
            · have h2' : j = w.heap.size := h2; omega
            · exact absurd h2 (hvo' j h))
        · exact (HSv.out.trans (HS2.out.mono (fun j _ h => by rcases h with h | h | h; exact Or.inl h; exact Or.inr (Or.inl h); exact Or.inr (Or.inr (HOb.out j h))))).setCell (p := ⟨w.heap.size, k, none⟩) (fun _ => Or.inr (Or.inr hltb)) _
      case measure => simp [intOf]; omega
    · have hk' : k = f.length := by omega
      subst hk'
      have d := HRow.out.cell (i := f.length - 1) (by omega)
      have hidx : ((f.length : Int) - 1).toNat = f.length - 1 := by omega
      have hidx2 : (f.length : Int) - 1 = ((f.length - 1 : Nat) : Int) := by omega
      have hlt1 : f.length - 1 < f.length := by omega
      go_wp2_with fail
      go_ret
      exact ⟨rfl, v, HMr.out, (Save.of_below HW0.out _ (fun j h1 h2 => absurd h1 (by omega))).trans HSv.out⟩
end Go.Proofs.YtjefdkmbakhngaaDoor
namespace Go.Proofs.YtjefdkmbakhngaaDoor
open Go.RowKit
set_option linter.unusedVariables false
set_option linter.unusedSimpArgs false
def renN (fr t : ByteArray) (x : Nd) : Nd := if (x.nm.toList == fr.toList) = true then (x.k, x.a, x.b, x.lo, x.hi, t) else x
def reTo (f : List Nd) (fr t : ByteArray) (k : Nat) : List Nd := (List.range f.length).map fun i => if i < k then renN fr t (ndAt f i) else ndAt f i
theorem reTo_len (f : List Nd) (fr t : ByteArray) (k : Nat) : (reTo f fr t k).length = f.length := by simp [reTo]
theorem reTo_at (f : List Nd) (fr t : ByteArray) (k i : Nat) (h : i < f.length) : ndAt (reTo f fr t k) i = if i < k then renN fr t (ndAt f i) else ndAt f i := by simp [reTo, ndAt, List.getD, h]
theorem reTo_zero (f : List Nd) (fr t : ByteArray) : reTo f fr t 0 = f := by
  refine List.ext_getElem (by rw [reTo_len]) (fun i h1 h2 => ?_)
  have := reTo_at f fr t 0 i h2
  rw [if_neg (by omega)] at this
  simpa [ndAt, List.getD, List.getElem?_eq_getElem h1, List.getElem?_eq_getElem h2] using this
theorem reTo_skip (f : List Nd) (fr t : ByteArray) (k : Nat) (h : k < f.length) (hn : ((ndAt f k).nm.toList == fr.toList) = false) : reTo f fr t (k + 1) = reTo f fr t k := by
  refine List.ext_getElem (by rw [reTo_len, reTo_len]) (fun i h1 h2 => ?_)
  have hi : i < f.length := by rw [reTo_len] at h1; exact h1
  have e1 := reTo_at f fr t (k + 1) i hi
  have e2 := reTo_at f fr t k i hi
  have e : ndAt (reTo f fr t (k + 1)) i = ndAt (reTo f fr t k) i := by
    rw [e1, e2]
    by_cases c : i = k
    · subst c; rw [if_pos (by omega), if_neg (by omega)]; unfold renN; rw [hn]; rfl
    · by_cases d : i < k
      · rw [if_pos (by omega), if_pos d]
      · rw [if_neg (by omega), if_neg d]
  simpa [ndAt, List.getD, List.getElem?_eq_getElem h1, List.getElem?_eq_getElem h2] using e
def reC (f : List Nd) (fr t : ByteArray) : Int := if 400 < f.length ∨ 8000 < fr.size ∨ 8000 < t.size then 2 else if rightB f = true ∧ wordB fr = true ∧ wordB t = true then 0 else 1
def reG (f : List Nd) (fr t : ByteArray) : List Nd := partG (layS (reTo f fr t f.length) f.length).1 ((layS (reTo f fr t f.length) f.length).2 (f.length - 1)).toNat
def reF (f : List Nd) (fr t : ByteArray) : List Nd := if reC f fr t = 0 then reG f fr t else []
theorem reF_no {f : List Nd} {fr t : ByteArray} {c : Int} (h : reC f fr t = c) (hc : c ≠ 0) : reF f fr t = [] := by unfold reF; rw [h, if_neg hc]
theorem reF_yes {f : List Nd} {fr t : ByteArray} (h : reC f fr t = 0) : reF f fr t = reG f fr t := by unfold reF; rw [if_pos h]
theorem reC_size {f : List Nd} {fr t : ByteArray} (h : 400 < f.length ∨ 8000 < fr.size ∨ 8000 < t.size) : reC f fr t = 2 := by unfold reC; rw [if_pos h]
theorem reC_form {f : List Nd} {fr t : ByteArray} (h : ¬ (400 < f.length ∨ 8000 < fr.size ∨ 8000 < t.size)) (h2 : ¬ (rightB f = true ∧ wordB fr = true ∧ wordB t = true)) : reC f fr t = 1 := by unfold reC; rw [if_neg h, if_neg h2]
theorem reC_ok {f : List Nd} {fr t : ByteArray} (h : ¬ (400 < f.length ∨ 8000 < fr.size ∨ 8000 < t.size)) (h2 : rightB f = true ∧ wordB fr = true ∧ wordB t = true) : reC f fr t = 0 := by unfold reC; rw [if_neg h, if_pos h2]
theorem word_size {s : ByteArray} (h : wordB s = true) : 1 ≤ s.size ∧ s.size ≤ 8 := by
  simp only [wordB, Bool.and_eq_true, decide_eq_true_eq] at h
  exact h.1
theorem ren_right {x : Nd} {fr t : ByteArray} {i : Nat} (h : nodeB x i = true) (hf : wordB fr = true) (ht : wordB t = true) : nodeB (renN fr t x) i = true := by
  unfold renN
  split
  · next e =>
    have hk : x.k = 2 := by
      by_cases hk : x.k = 2
      · exact hk
      · exfalso
        simp only [nodeB, Bool.and_eq_true] at h
        have h2 := h.2.1
        rw [if_neg hk] at h2
        simp only [emptyB, beq_iff_eq] at h2
        rw [beq_iff_eq, h2] at e
        have h3 := (word_size hf).1
        have h4 : fr.toList = fr.data.toList := ByteArray.toList_eq fr
        have h5 : fr.data.toList.length = fr.size := rfl
        rw [← h4, ← e] at h5
        simp at h5
        omega
    simp only [nodeB, Bool.and_eq_true] at h ⊢
    refine ⟨h.1, ?_, h.2.2⟩
    show (if x.k = 2 then wordB t else emptyB t) = true
    rw [if_pos hk]
    exact ht
  · exact h
theorem re_okL {f : List Nd} {fr t : ByteArray} (hr : rightB f = true) (hf : wordB fr = true) (ht : wordB t = true) : okL (reTo f fr t f.length) (reTo f fr t f.length).length := by
  intro i hi
  rw [reTo_len] at hi
  rw [reTo_at f fr t f.length i hi, if_pos hi]
  have hg := (rightB_good' f hr).2.2
  exact ren_right (goodTo_at f i f.length hi hg).1 hf ht
theorem re_ndOk {f : List Nd} {fr t : ByteArray} (hok : ∀ i, i < f.length → ndOk (ndAt f i)) (ht : t.size ≤ maxLen) (k : Nat) : ∀ i, i < (reTo f fr t k).length → ndOk (ndAt (reTo f fr t k) i) := by
  intro i hi
  rw [reTo_len] at hi
  rw [reTo_at f fr t k i hi]
  have h := hok i hi
  split
  · unfold renN
    split
    · exact ⟨h.1, h.2.1, h.2.2.1, h.2.2.2.1, h.2.2.2.2.1, ht⟩
    · exact h
  · exact h
/-- A node's name is turned. -/
theorem nodes_name {w : World} {g : Nat} {f : List Nd} {fr t : ByteArray} {k : Nat} (hk : k < f.length) (hn : ((ndAt f k).nm.toList == fr.toList) = true) (h : NodesAt w g (reTo f fr t k)) : NodesAt (w.setCell ⟨g, k * 6 + 5, none⟩ (.string t)) g (reTo f fr t (k + 1)) := by
  refine ⟨by simpa using h.1, fun i hi => ?_⟩
  rw [reTo_len] at hi
  obtain ⟨c0, c1, c2, c3, c4, c5⟩ := h.2 i (by rw [reTo_len]; exact hi)
  rw [reTo_at f fr t k i hi] at c0 c1 c2 c3 c4 c5
  rw [reTo_at f fr t (k + 1) i hi]
  by_cases e : i = k
  · subst e
    rw [if_neg (by omega)] at c0 c1 c2 c3 c4 c5
    rw [if_pos (by omega)]
    unfold renN
    rw [if_pos hn]
    refine ⟨?_, ?_, ?_, ?_, ?_, ?_⟩
    · rw [World.cell?_setCell_other _ _ _ _ (by simp)]; exact c0
    · rw [World.cell?_setCell_other _ _ _ _ (by simp)]; exact c1
    · rw [World.cell?_setCell_other _ _ _ _ (by simp)]; exact c2
    · rw [World.cell?_setCell_other _ _ _ _ (by simp)]; exact c3
    · rw [World.cell?_setCell_other _ _ _ _ (by simp)]; exact c4
    · exact World.cell?_setCell_same' _ _ _ (by rw [c5]; rfl)
  · have e2 : (if i < k + 1 then renN fr t (ndAt f i) else ndAt f i) = (if i < k then renN fr t (ndAt f i) else ndAt f i) := by
      by_cases d : i < k
      · rw [if_pos (by omega), if_pos d]
      · rw [if_neg (by omega), if_neg d]
    rw [e2]
    refine ⟨?_, ?_, ?_, ?_, ?_, ?_⟩
    · rw [World.cell?_setCell_other _ _ _ _ (by simp <;> omega)]; exact c0
    · rw [World.cell?_setCell_other _ _ _ _ (by simp <;> omega)]; exact c1
    · rw [World.cell?_setCell_other _ _ _ _ (by simp <;> omega)]; exact c2
    · rw [World.cell?_setCell_other _ _ _ _ (by simp <;> omega)]; exact c3
    · rw [World.cell?_setCell_other _ _ _ _ (by simp <;> omega)]; exact c4
    · rw [World.cell?_setCell_other _ _ _ _ (by simp <;> omega)]; exact c5
theorem re_at {f : List Nd} {fr t : ByteArray} (hr : rightB f = true) (hf : wordB fr = true) (ht : wordB t = true) : goodTo (layS (reTo f fr t f.length) f.length).1 (layS (reTo f fr t f.length) f.length).1.length = true ∧ (layS (reTo f fr t f.length) f.length).1.length ≤ 24 ∧ ∃ i : Nat, (layS (reTo f fr t f.length) f.length).2 (f.length - 1) = i ∧ i < (layS (reTo f fr t f.length) f.length).1.length := by
  obtain ⟨hl1, hl2, _⟩ := rightB_good' f hr
  have hL := re_okL hr hf ht
  rw [reTo_len] at hL
  have h := laid_all (reTo f fr t f.length) f.length hL f.length (Nat.le_refl _)
  have h2 := h.to (f.length - 1) (by omega)
  obtain ⟨i, hi⟩ := Int.eq_ofNat_of_zero_le h2.1
  exact ⟨h.good, by have := h.len; omega, i, hi, by omega⟩
theorem reF_len (f : List Nd) (fr t : ByteArray) (h : f.length ≤ 1048576) : (reF f fr t).length ≤ 1000000 := by
  by_cases h4 : 400 < f.length ∨ 8000 < fr.size ∨ 8000 < t.size
  · rw [reF_no (reC_size h4) (by omega)]; simp
  · by_cases h2 : rightB f = true ∧ wordB fr = true ∧ wordB t = true
    · rw [reF_yes (reC_ok h4 h2)]
      obtain ⟨h5, h6, i, h7, h8⟩ := re_at h2.1 h2.2.1 h2.2.2
      unfold reG
      rw [h7, Int.toNat_natCast]
      have := partG_len h5 h8
      omega
    · rw [reF_no (reC_form h4 h2) (by omega)]; simp
end Go.Proofs.YtjefdkmbakhngaaDoor
namespace Go.Proofs.YtjefdkmbakhngaaDoor
open Go.RowKit
set_option linter.unusedVariables false
set_option linter.unusedSimpArgs false
theorem fs_one0 (w : World) (f : List Nd) (b cap : Nat) (hN : NodesAt w b f) (t : TypeId) : FsAt (w.alloc (.cells #[.slice (some ⟨b, 0, none⟩) f.length cap] t)) w.heap.size 1 (fun _ => f) (fun _ => b) (fun _ => cap) :=
  ⟨by simp, fun j hj => by obtain rfl : j = 0 := by omega
                           simp [go_sem], fun j hj => (hN.below (fone w _) hN.1)⟩
theorem wordI_w (s : ByteArray) (hs : s.size ≤ maxLen) (v : Bool) (hv : wordB s = v) (w : World) (hk : Kw w) : Calls Tryd.prog 65 #[.string s] w fun e w' => e = .returned (.bool v) ∧ w = w' := by
  subst hv; exact (implWord_any s w hs hk).mono (by rintro e w' ⟨rfl, rfl⟩; exact ⟨rfl, rfl⟩)
set_option maxRecDepth 20000 in
set_option maxHeartbeats 1000000 in
theorem tooLong_any (s : ByteArray) (hs : s.size ≤ maxLen) (v : Bool) (hv : decide (8000 < s.size) = v) (w : World) : Calls Tryd.prog 64 #[.string s] w fun e w' => e = .returned (.bool v) ∧ w = w' := by
  unfold maxLen at hs
  cases v
  · have i1 : ¬ (s.size : Int) > 8000 := by have := of_decide_eq_false hv; omega
    clear hv
    go_enter Tryd.func64, Tryd.ntmps64
    go_wp2_with fail
    go_ret
    exact ⟨rfl, rfl⟩
  · have i1 : (s.size : Int) > 8000 := by have := of_decide_eq_true hv; omega
    clear hv
    go_enter Tryd.func64, Tryd.ntmps64
    go_wp2_with fail
    go_ret
    exact ⟨rfl, rfl⟩
set_option maxRecDepth 20000 in
set_option maxHeartbeats 4000000 in
theorem reCode_any (f : List Nd) (b cap : Nat) (fr t : ByteArray) (hfs : fr.size ≤ 1048576) (hts : t.size ≤ 1048576) (w : World) (hN : NodesAt w b f) (hok : ∀ i, i < f.length → ndOk (ndAt f i)) (hlen : f.length ≤ 1048576) (hkw : Kw w) (hg : 1 < w.heap.size) (code : Int) (hc : reC f fr t = code) :
    Calls Tryd.prog 46 #[.slice (some ⟨b, 0, none⟩) f.length cap, .string fr, .string t] w fun e w' => e = .returned (.int .i64 code) ∧ Below w.heap.size w w' := by
  have HBf := hid (fone w (.cells #[.slice (some ⟨b, 0, none⟩) f.length cap] 24))
  have HFs := hid (fs_one0 w f b cap hN 24)
  have HCd := hid (fun c (hc : newCode f = c) => codes_any 1 (by omega) (fun _ => f) (fun _ => b) (fun _ => cap) w.heap.size 1 (fun _ _ => ⟨hok, hlen⟩) c (by rw [← newCode_to, hc]) _ HFs.out (hkw.below HBf.out hg) (by have := HBf.out.size; omega))
  have HK := hid (fun w' (h : Below w.heap.size w w') => hkw.below h hg)
  have hm1 : fr.size ≤ maxLen := by unfold maxLen; omega
  have hm2 : t.size ≤ maxLen := by unfold maxLen; omega
  clear hkw hN
  by_cases s1 : 8000 < fr.size
  · obtain rfl : 2 = code := by rw [← hc, reC_size (by omega)]
    have ht1 : decide (8000 < fr.size) = true := by simpa using s1
    clear hc HCd HFs
    go_enter Tryd.func46, Tryd.ntmps46
    go_wp2_with (go_at_call 64; refine (tooLong_any _ (by assumption) _ (by assumption) _).mono ?_; rintro e w' ⟨rfl, rfl⟩)
    go_ret
    exact ⟨rfl, Below.refl _ _⟩
  have ht1 : decide (8000 < fr.size) = false := by simpa using s1
  by_cases s2 : 8000 < t.size
  · obtain rfl : 2 = code := by rw [← hc, reC_size (by omega)]
    have ht2 : decide (8000 < t.size) = true := by simpa using s2
    clear hc HCd HFs
    go_enter Tryd.func46, Tryd.ntmps46
    go_wp2_with (go_at_call 64; refine (tooLong_any _ (by assumption) _ (by assumption) _).mono ?_; rintro e w' ⟨rfl, rfl⟩)
    go_ret
    exact ⟨rfl, Below.refl _ _⟩
  have ht2 : decide (8000 < t.size) = false := by simpa using s2
  by_cases s3 : 400 < f.length
  · obtain rfl : 2 = code := by rw [← hc, reC_size (by omega)]
    have HCe := hid (HCd.out 2 (by unfold newCode; rw [if_pos s3]))
    clear hc HCd HFs
    go_enter Tryd.func46, Tryd.ntmps46
    go_wp2_with (first | (go_at_call 64; refine (tooLong_any _ (by assumption) _ (by assumption) _).mono ?_; rintro e w' ⟨rfl, rfl⟩) | (go_at_call 30; refine HCe.out.mono ?_; rintro e w1 ⟨rfl, hb1⟩; have HB1 := hid (HBf.out.trans (hb1.mono HBf.out.size)); clear hb1))
    go_ret
    exact ⟨rfl, HB1.out⟩
  have h4 : ¬ (400 < f.length ∨ 8000 < fr.size ∨ 8000 < t.size) := by omega
  by_cases s4 : rightB f = true
  · have HCe := hid (HCd.out 0 (by unfold newCode; rw [if_neg s3, if_pos s4]))
    by_cases s5 : wordB fr = true
    · by_cases s6 : wordB t = true
      · obtain rfl : 0 = code := by rw [← hc, reC_ok h4 ⟨s4, s5, s6⟩]
        clear hc HCd HFs
        go_enter Tryd.func46, Tryd.ntmps46
        go_wp2_with (first | (go_at_call 64; refine (tooLong_any _ (by assumption) _ (by assumption) _).mono ?_; rintro e w' ⟨rfl, rfl⟩) | (go_at_call 30; refine HCe.out.mono ?_; rintro e w1 ⟨rfl, hb1⟩; have HB1 := hid (HBf.out.trans (hb1.mono HBf.out.size)); clear hb1) | (go_at_call 65; refine (wordI_w _ (by assumption) _ (by assumption) _ (HK.out _ HB1.out)).mono ?_; rintro e w' ⟨rfl, rfl⟩))
        go_ret
        exact ⟨rfl, HB1.out⟩
      · obtain rfl : 1 = code := by rw [← hc, reC_form h4 (fun h => s6 h.2.2)]
        have s6' : wordB t = false := by simpa using s6
        clear hc HCd HFs s6
        go_enter Tryd.func46, Tryd.ntmps46
        go_wp2_with (first | (go_at_call 64; refine (tooLong_any _ (by assumption) _ (by assumption) _).mono ?_; rintro e w' ⟨rfl, rfl⟩) | (go_at_call 30; refine HCe.out.mono ?_; rintro e w1 ⟨rfl, hb1⟩; have HB1 := hid (HBf.out.trans (hb1.mono HBf.out.size)); clear hb1) | (go_at_call 65; refine (wordI_w _ (by assumption) _ (by assumption) _ (HK.out _ HB1.out)).mono ?_; rintro e w' ⟨rfl, rfl⟩))
        go_ret
        exact ⟨rfl, HB1.out⟩
    · obtain rfl : 1 = code := by rw [← hc, reC_form h4 (fun h => s5 h.2.1)]
      have s5' : wordB fr = false := by simpa using s5
      clear hc HCd HFs s5
      go_enter Tryd.func46, Tryd.ntmps46
      go_wp2_with (first | (go_at_call 64; refine (tooLong_any _ (by assumption) _ (by assumption) _).mono ?_; rintro e w' ⟨rfl, rfl⟩) | (go_at_call 30; refine HCe.out.mono ?_; rintro e w1 ⟨rfl, hb1⟩; have HB1 := hid (HBf.out.trans (hb1.mono HBf.out.size)); clear hb1) | (go_at_call 65; refine (wordI_w _ (by assumption) _ (by assumption) _ (HK.out _ HB1.out)).mono ?_; rintro e w' ⟨rfl, rfl⟩))
      go_ret
      exact ⟨rfl, HB1.out⟩
  · obtain rfl : 1 = code := by rw [← hc, reC_form h4 (fun h => s4 h.1)]
    have HCe := hid (HCd.out 1 (by unfold newCode; rw [if_neg s3, if_neg s4]))
    clear hc HCd HFs
    go_enter Tryd.func46, Tryd.ntmps46
    go_wp2_with (first | (go_at_call 64; refine (tooLong_any _ (by assumption) _ (by assumption) _).mono ?_; rintro e w' ⟨rfl, rfl⟩) | (go_at_call 30; refine HCe.out.mono ?_; rintro e w1 ⟨rfl, hb1⟩; have HB1 := hid (HBf.out.trans (hb1.mono HBf.out.size)); clear hb1))
    go_ret
    exact ⟨rfl, HB1.out⟩
set_option maxRecDepth 20000 in
set_option maxHeartbeats 2000000 in
theorem cloneNs_any (f : List Nd) (b cap : Nat) (hl : f.length ≤ 1048576) (w : World) (hN : NodesAt w b f) :
    Calls Tryd.prog 47 #[.slice (some ⟨b, 0, none⟩) f.length cap] w fun e w' => ∃ v, e = .returned v ∧ OwnsN w' w.heap.size v f ∧ Below w.heap.size w w' := by
  obtain ⟨i0, hi0, hz0, hz1, hz2⟩ := info_parts Tryd.infoN
  have HN := hid (hN.below (fone w (.cells #[] 46)) hN.1)
  have HB0 := hid (fone w (.cells #[] 46))
  have hnil : ∀ W, (binOp .eql 24 (.slice (some ⟨b, 0, none⟩) f.length cap) (.slice none 0 0)).run Tryd.prog W = .ok (.bool false) W := fun W => eql_nil W 24 _ ⟨b, 0, none⟩ _ _ Tryd.uNs
  clear hN
  go_enter Tryd.func47, Tryd.ntmps47
  go_wp2_with (at_builtin; go_loud (refine wpList_append_own_at _ rfl _ _ 24 rfl w.heap.size 46 i0 _ 6 56 Tryd.uNs hi0 hz0 hz1 hz2 rfl (by decide) _ 0 [] rfl (ownsN_none w w.heap.size (Nat.le_refl _)) ⟨b, 0, none⟩ f.length cap (flatN f) rfl (flatN_len f) (flatN_cells HN.out) (flatN_one f) (by unfold maxLen; omega) (by omega) (by simp) ?_; intro v5 w5 hown5 hgrow5 _ hat5; have HO5 : Hid (OwnsN w5 w.heap.size v5 f) := (by show w5.ownsRow _ _ _ _ _ _; simpa using hown5); have hs5 : Save w w5 (fun _ => False) := ((Save.refl w (fun _ => False)).alloc _).grown hgrow5 (fun k hk h => by simp [Value.ownBlock, Act.eval, Act.put] at hk; omega); have HB5 := hid (hs5.below (B := w.heap.size) (Nat.le_refl _) (fun j h => h.elim)); clear hown5 hgrow5 hat5 hs5))
  go_ret
  exact ⟨v5, rfl, HO5.out, HB5.out⟩
theorem bod_alloc {B : Nat} {a w : World} (h : Below B a w) (hB : B ≤ w.heap.size) (o : Obj) : Below B a (w.alloc o) := h.trans ((fone w o).mono hB)
set_option maxRecDepth 20000 in
set_option maxHeartbeats 8000000 in
theorem implRe_any (f : List Nd) (b cap : Nat) (fr t : ByteArray) (hfs : fr.size ≤ 1048576) (hts : t.size ≤ 1048576) (w : World) (hN : NodesAt w b f) (hok : ∀ i, i < f.length → ndOk (ndAt f i)) (hlen : f.length ≤ 1048576) (hkw : Kw w) (hg : 1 < w.heap.size) (F : List Nd) (code : Int) (hF : reF f fr t = F) (hc : reC f fr t = code) :
    Calls Tryd.prog 21 #[.slice (some ⟨b, 0, none⟩) f.length cap, .string fr, .string t] w fun e w' => ∃ fa fc, e = .returned (.agg #[.slice fa F.length fc, .int .i64 code]) ∧ NsA w' fa F ∧ RowA w' fa F.length ∧ (∀ q, fa = some q → q = ⟨q.block, 0, none⟩ ∧ w.heap.size ≤ q.block ∧ q.block < w'.heap.size) ∧ Below w.heap.size w w' := by
  have HB0 := hid (fone w (.cells #[.slice none 0 0, .int .i64 0] 26))
  have HX0 := hid (foz w).1
  have HG0 := hid (foz w).2
  have hm2 : t.size ≤ maxLen := by unfold maxLen; omega
  have HCe := hid (reCode_any f b cap fr t hfs hts _ (hN.below HB0.out hN.1) hok hlen (hkw.below HB0.out hg) (by have := HB0.out.size; omega) code hc)
  have hcase : code = 2 ∨ code = 1 ∨ (code = 0 ∧ rightB f = true ∧ wordB fr = true ∧ wordB t = true) := by
    rw [← hc]
    unfold reC
    split
    · exact Or.inl rfl
    · split
      · next h => exact Or.inr (Or.inr ⟨rfl, h⟩)
      · exact Or.inr (Or.inl rfl)
  rcases hcase with rfl | rfl | ⟨rfl, hr, hwf, hwt⟩
  iterate 2
    · obtain rfl : [] = F := by rw [← hF, reF_no hc (by omega)]
      clear hF hc hN hkw
      go_enter Tryd.func21, Tryd.ntmps21
      go_wp2_with (go_at_call 46; refine HCe.out.mono ?_; rintro e w1 ⟨rfl, hb1⟩; have HB1 := hid (HB0.out.trans (hb1.mono HB0.out.size)); obtain ⟨hq, o0, o1⟩ := HX0.out.on hb1; obtain ⟨g0, g1⟩ := HG0.out.on hb1 HX0.out.lt; clear hb1)
      refine bodyPost_ret (by simp [results, Tryd.results21, go_sem, o0, o1, g0, g1]; rfl) rfl ?_
      have s2 := fun c => foset2 w1 w.heap.size (.slice none 0 0) (.int .i64 c)
      first | exact ⟨none, 0, rfl, Or.inl rfl, Or.inl rfl, (fun q e => by cases e), HB1.out.trans ((s2 _).below (B := w.heap.size) HB1.out.size (fun j h => by omega))⟩ | exact ⟨none, ⟨0, rfl⟩, Or.inl rfl, Or.inl rfl, (fun q e => by cases e), HB1.out.trans ((s2 _).below (B := w.heap.size) HB1.out.size (fun j h => by omega))⟩
  · have hFe : reG f fr t = F := by rw [← hF, reF_yes hc]
    obtain ⟨hl1, hl2, _⟩ := rightB_good' f hr
    obtain ⟨hg1, hg2, ai, hai, hai2⟩ := re_at hr hwf hwt
    have hLk := re_okL hr hwf hwt
    have hOk := re_ndOk hok hm2 (fr := fr) f.length
    have hbw := hN.1
    have HNw := hid (fun w' (h : Below w.heap.size w w') => hN.below h hbw)
    have hFg : partG (layS (reTo f fr t f.length) f.length).1 ai = F := by rw [← hFe]; unfold reG; rw [hai, Int.toNat_natCast]
    have HLay := hid (fun (g gc kb sb mb base : Nat) (w' : World) (hn : NodesAt w' g (reTo f fr t f.length)) (h1 : g < base) (h2 : g ≠ sb) (h3 : g ≠ mb) (v0 : Value) (hM : MakeAt w' kb sb mb base v0 []) => by
      have := takeIn_any (reTo f fr t f.length) g gc kb sb mb base (by rw [reTo_len]; omega) (by rw [reTo_len]; omega) hOk hLk h1 h2 h3 w' hn v0 hM
      rw [reTo_len] at this
      rw [hai] at this
      exact this)
    have HDn := hid (fun (kb sb mb base : Nat) (v : Value) (w' : World) (hM : MakeAt w' kb sb mb base v (layS (reTo f fr t f.length) f.length).1) => told_any _ hg1 ai hai2 F hFg kb sb mb base v w' hM)
    have HZ := hid (reTo_zero f fr t)
    have HSk := hid (fun k h1 h2 => reTo_skip f fr t k h1 h2)
    have HNm := hid (fun (w' : World) (g k : Nat) h1 h2 h3 => nodes_name (w := w') (g := g) (f := f) (fr := fr) (t := t) (k := k) h1 h2 h3)
    have HRa := hid (fun k i h => reTo_at f fr t k i h)
    have HRln := hid (fun k => reTo_len f fr t k)
    have HCl := hid (fun w' (h : Below w.heap.size w w') => cloneNs_any f b cap hlen w' (HNw.out w' h))
    clear hF hc hN hkw hFe hFg hai hLk hOk hr
    go_enter Tryd.func21, Tryd.ntmps21
    go_wp2_with (first | (go_at_call 46; refine HCe.out.mono ?_; rintro e w1 ⟨rfl, hb1⟩; have HB1 := hid (HB0.out.trans (hb1.mono HB0.out.size)); have HX1 := hid (HX0.out.on hb1); have HG1 := hid (HG0.out.on hb1 HX0.out.lt); have hs1 := hb1.size; clear hb1) | (go_at_call 47; refine (HCl.out _ HB1.out).mono ?_; rintro e w5 ⟨v5, rfl, hO5, hb5⟩; obtain ⟨g, gc, m, z, rfl, _, hg5, hm, hr5, _, hall⟩ := hO5.row (by omega); have HN5 := hid (hall _ hr5); have HR5 := hid hr5; have HB5 := hid (HB1.out.trans (hb5.mono HB1.out.size)); have HX5 := hid (HX1.out.on hb5); have HG5 := hid (HG1.out.on hb5 HX1.out.lt); have hz5 := hb5.size; clear hO5 hr5 hall hb5))
    have hgw : w.heap.size < g := by simp at hs1; omega
    have hFZ : ∀ o, w5.frozen? ⟨g, o, none⟩ = false := fun o => HR5.out.frozen o
    have HN0 : NodesAt w5 g (reTo f fr t 0) := by rw [HZ.out]; exact HN5.out
    have HF5 := hid (HNw.out w5 HB5.out)
    go_loopw [24] (fun v wr => ∃ k : Nat, k ≤ f.length ∧ v = .int .i64 k ∧ NodesAt wr g (reTo f fr t k) ∧ (∀ o, wr.frozen? ⟨g, o, none⟩ = false) ∧ Save w5 wr (fun j => j = g)) (fun v _ => f.length - (intOf v).toNat)
    case atStart => exact ⟨0, Nat.zero_le _, rfl, HN0, hFZ, Save.refl _ _⟩
    case round =>
      obtain ⟨k, hk, rfl, hNk, hfz, hsv⟩ := hrel
      have HNk := hid hNk
      have HSv := hid hsv
      clear hNk hsv
      by_cases hlt : k < f.length
      · obtain ⟨_, _, _, _, _, e5⟩ := HNk.out.2 k (by rw [HRln.out]; exact hlt)
        obtain ⟨c0, c1, c2, c3, c4, c5⟩ := (HSv.out.nodes HF5.out (by show ¬ b = g; omega)).2 k hlt
        rw [HRa.out k k hlt, if_neg (by omega)] at e5
        have f5 := hfz (k * 6 + 5)
        have hbr' := (HSv.out.nodes HF5.out (by show ¬ b = g; omega)).1
        have hi1 : ((k : Int) * 6 + 5).toNat = k * 6 + 5 := by omega
        have hgr := HNk.out.1
        have HBx := hid (fone wr (.cells #[.int .i64 (ndAt f k).k, .int .i64 (ndAt f k).a, .int .i64 (ndAt f k).b, .int .i64 (ndAt f k).lo, .int .i64 (ndAt f k).hi, .string (ndAt f k).nm] 46))
        have HNa := hid (HNk.out.below HBx.out hgr)
        have HFa : Hid (∀ o, (wr.alloc (.cells #[.int .i64 (ndAt f k).k, .int .i64 (ndAt f k).a, .int .i64 (ndAt f k).b, .int .i64 (ndAt f k).lo, .int .i64 (ndAt f k).hi, .string (ndAt f k).nm] 46)).frozen? ⟨g, o, none⟩ = false) := fun o => (HBx.out.frozen (p := ⟨g, o, none⟩) hgr).trans (hfz o)
        have HSa := hid (HSv.out.alloc (.cells #[.int .i64 (ndAt f k).k, .int .i64 (ndAt f k).a, .int .i64 (ndAt f k).b, .int .i64 (ndAt f k).lo, .int .i64 (ndAt f k).hi, .string (ndAt f k).nm] 46))
        have ea5 := (HBx.out.cell (p := ⟨g, k * 6 + 5, none⟩) hgr).trans e5
        have fa5 := HFa.out (k * 6 + 5)
        by_cases hq : ((ndAt f k).nm.toList == fr.toList) = true
        · go_wp2_with fail
          go_roundw
          case rel =>
            have hn1 := HNm.out _ g k hlt hq HNk.out
            exact ⟨k + 1, by omega, by go_num, hn1.below (fone _ _) hn1.1, (fun o => ((fone _ _).frozen (p := ⟨g, o, none⟩) hn1.1).trans (by rw [World.frozen?_setCell]; exact hfz o)), (HSv.out.setCell (p := ⟨g, k * 6 + 5, none⟩) (fun _ => rfl) _).alloc _⟩
          case measure => simp [intOf]; omega
        · have hq' : ((ndAt f k).nm.toList == fr.toList) = false := by simpa using hq
          clear hq
          go_wp2_with fail
          go_roundw
          case rel => exact ⟨k + 1, by omega, by go_num, by rw [HSk.out k hlt hq']; exact HNa.out, HFa.out, HSa.out⟩
          case measure => simp [intOf]; omega
      · have hk' : k = f.length := by omega
        subst hk'
        have HBr := hid (HB5.out.trans (HSv.out.below (B := w.heap.size) HB5.out.size (fun j h => by omega)))
        have HXr := hid (HX5.out.save HSv.out (by show ¬ w.heap.size = g; omega))
        have HGr := hid (HG5.out.save HSv.out HX5.out.lt (by show ¬ w.heap.size = g; omega))
        have hsz := HSv.out.size
        have hgl := HN5.out.1
        have hwr := HXr.out.lt
        clear HN5 HB5 HX5 HG5 HSv HSk HNm HRa HRln HZ HN0 hFZ hfz HR5 HF5 HCl HCe HB1 HX1 HG1 HB0 HX0 HG0
        go_wp2_with (first | (go_at_call 31; refine (newMaker_any wr).mono ?_; rintro e w6 ⟨kb, sb, mb, rfl, hkb, hsb, hmb, hM6, hb6⟩; have HM6 := hid hM6; have HB6 := hid (HBr.out.trans (hb6.mono HBr.out.size)); have HX6 := hid (HXr.out.on hb6); have HG6 := hid (HGr.out.on hb6 HXr.out.lt); have HN6 := hid (HNk.out.below hb6 (by omega)); have hz6 := hb6.size; clear hM6 hb6) | (go_at_call 38; refine (HLay.out g gc kb sb mb _ _ HN6.out (by omega) (by omega) (by omega) _ HM6.out).mono ?_; rintro e w7 ⟨rfl, v7, hM7, hs7⟩; have HM7 := hid hM7; have HB7 := hid (HB6.out.trans (hs7.below (B := w.heap.size) HB6.out.size (fun j h => by omega))); have HX7 := hid (HX6.out.save hs7 (by omega)); have HG7 := hid (HG6.out.save hs7 HX6.out.lt (by omega)); clear hM7 hs7) | (go_at_call 37; refine (HDn.out _ _ _ _ _ _ HM7.out).mono ?_; rintro e w8 ⟨fa, fc, rfl, hns, hra, hq, hb8⟩; have HNS := hid hns; have HRA := hid hra; have HQ := hid hq; have HB8 := hid (HB7.out.trans (hb8.mono HB7.out.size)); obtain ⟨hx0, o0, o1⟩ := HX7.out.on hb8; obtain ⟨g0, g1⟩ := HG7.out.on hb8 HX7.out.lt; have hz8 := hb8.size; have hx7 := HX7.out.lt; clear hns hra hq hb8))
        refine bodyPost_ret (v := .agg #[.slice fa F.length fc, .int .i64 0]) (by simp [results, Tryd.results21, go_sem, o0, o1, g0, g1]) rfl ?_
        have s2 := foset2 w8 w.heap.size (.slice fa F.length fc) (.int .i64 0)
        have hz2 := s2.size
        first | exact ⟨fa, fc, rfl, HNS.out.save s2 (fun q e => by have := HQ.out q e; show ¬ q.block = w.heap.size; omega), HRA.out.save s2 (fun q e => by have := HQ.out q e; show ¬ q.block = w.heap.size; omega), (fun q e => by have := HQ.out q e; exact ⟨this.1, by omega, by omega⟩), HB8.out.trans (s2.below (B := w.heap.size) HB8.out.size (fun j h => by omega))⟩ | exact ⟨fa, ⟨fc, rfl⟩, HNS.out.save s2 (fun q e => by have := HQ.out q e; show ¬ q.block = w.heap.size; omega), HRA.out.save s2 (fun q e => by have := HQ.out q e; show ¬ q.block = w.heap.size; omega), (fun q e => by have := HQ.out q e; exact ⟨this.1, by omega, by omega⟩), HB8.out.trans (s2.below (B := w.heap.size) HB8.out.size (fun j h => by omega))⟩
end Go.Proofs.YtjefdkmbakhngaaDoor
namespace Go.Proofs.YtjefdkmbakhngaaDoor
open Go.RowKit
set_option linter.unusedVariables false
set_option linter.unusedSimpArgs false
theorem three_no {a b c : Bool} (h : ¬ (a = true ∧ b = true ∧ c = true)) : a = false ∨ (a = true ∧ b = false) ∨ (a = true ∧ b = true ∧ c = false) := by
  cases a <;> cases b <;> cases c <;> simp at h ⊢
theorem wordS_w (s : ByteArray) (hs : s.size ≤ maxLen) (v : Bool) (hv : wordB s = v) (w : World) : Calls Tryd.prog 45 #[.string s] w fun e w' => e = .returned (.bool v) ∧ w = w' := by
  subst hv; exact (specWord_any s w hs).mono (by rintro e w' ⟨rfl, rfl⟩; exact ⟨rfl, rfl⟩)
theorem mk_new (w : World) : MkAt (w.alloc (.cells #[.slice none 0 0, .int .i64 80, .bool false] 44)) w.heap.size (w.heap.size + 1) (.slice none 0 0) [] :=
  ⟨by omega, by simp, by simp [go_sem], by simp [go_sem], by simp [go_sem], by simp [go_sem], World.ownsRow_nil _ _ _ _, fun i hi => by simp at hi⟩
set_option maxRecDepth 20000 in
set_option maxHeartbeats 8000000 in
theorem specRe_any (f : List Nd) (b cap : Nat) (fr t : ByteArray) (hfs : fr.size ≤ 1048576) (hts : t.size ≤ 1048576) (w : World) (hN : NodesAt w b f) (hok : ∀ i, i < f.length → ndOk (ndAt f i)) (hlen : f.length ≤ 1048576) (F : List Nd) (code : Int) (hF : reF f fr t = F) (hc : reC f fr t = code) :
    Calls Tryd.prog 20 #[.slice (some ⟨b, 0, none⟩) f.length cap, .string fr, .string t] w fun e w' => ∃ fa fc, e = .returned (.agg #[.slice fa F.length fc, .int .i64 code]) ∧ NsA w' fa F ∧ (∀ q, fa = some q → w.heap.size ≤ q.block ∧ q.block < w'.heap.size) ∧ Below w.heap.size w w' := by
  have HB0 := hid (fone w (.cells #[.slice none 0 0, .int .i64 0] 26))
  have HX0 := hid (foz w).1
  have HG0 := hid (foz w).2
  have hm1 : fr.size ≤ maxLen := by unfold maxLen; omega
  have hm2 : t.size ≤ maxLen := by unfold maxLen; omega
  by_cases h4 : 400 < f.length ∨ 8000 < fr.size ∨ 8000 < t.size
  · obtain rfl : 2 = code := by rw [← hc, reC_size h4]
    obtain rfl : [] = F := by rw [← hF, reF_no hc (by omega)]
    clear hF hc
    have hcs : 400 < f.length ∨ (¬ 400 < f.length ∧ 8000 < fr.size) ∨ (¬ 400 < f.length ∧ ¬ 8000 < fr.size ∧ 8000 < t.size) := by omega
    rcases hcs with h | ⟨h1, h⟩ | ⟨h1, h2, h⟩
    · have i1 : (f.length : Int) > 400 := by omega
      go_enter Tryd.func20, Tryd.ntmps20
      go_wp2_with fail
      refine bodyPost_ret (v := .agg #[.slice none 0 0, .int .i64 2]) (by simp [results, Tryd.results20, go_sem]) rfl ?_
      first | exact ⟨none, 0, rfl, Or.inl rfl, (fun q e => by cases e), fone _ _⟩ | exact ⟨none, ⟨0, rfl⟩, Or.inl rfl, (fun q e => by cases e), fone _ _⟩
    · have i1 : ¬ (f.length : Int) > 400 := by omega
      have i2 : (fr.size : Int) > 8000 := by omega
      go_enter Tryd.func20, Tryd.ntmps20
      go_wp2_with fail
      refine bodyPost_ret (v := .agg #[.slice none 0 0, .int .i64 2]) (by simp [results, Tryd.results20, go_sem]) rfl ?_
      first | exact ⟨none, 0, rfl, Or.inl rfl, (fun q e => by cases e), fone _ _⟩ | exact ⟨none, ⟨0, rfl⟩, Or.inl rfl, (fun q e => by cases e), fone _ _⟩
    · have i1 : ¬ (f.length : Int) > 400 := by omega
      have i2 : ¬ (fr.size : Int) > 8000 := by omega
      have i3 : (t.size : Int) > 8000 := by omega
      go_enter Tryd.func20, Tryd.ntmps20
      go_wp2_with fail
      refine bodyPost_ret (v := .agg #[.slice none 0 0, .int .i64 2]) (by simp [results, Tryd.results20, go_sem]) rfl ?_
      first | exact ⟨none, 0, rfl, Or.inl rfl, (fun q e => by cases e), fone _ _⟩ | exact ⟨none, ⟨0, rfl⟩, Or.inl rfl, (fun q e => by cases e), fone _ _⟩
  · have i1 : ¬ (f.length : Int) > 400 := by omega
    have i2 : ¬ (fr.size : Int) > 8000 := by omega
    have i3 : ¬ (t.size : Int) > 8000 := by omega
    have HR : Hid (∀ v, rightB f = v → ∀ w' : World, Below w.heap.size w w' → Calls Tryd.prog 23 #[.slice (some ⟨b, 0, none⟩) f.length cap] w' fun e w'' => e = .returned (.bool v) ∧ Below w'.heap.size w' w'') := fun v hv w' h => by subst hv; exact specRight_any f b cap w' (hN.below h hN.1) (fun i hi => (hok i hi).nm) (by unfold maxLen; omega)
    have HWf := hid (fun v h w => wordS_w fr hm1 v h w)
    have HWt := hid (fun v h w => wordS_w t hm2 v h w)
    by_cases h2 : rightB f = true ∧ wordB fr = true ∧ wordB t = true
    · obtain rfl : 0 = code := by rw [← hc, reC_ok h4 h2]
      have hFe : reG f fr t = F := by rw [← hF, reF_yes hc]
      obtain ⟨hr, hwf, hwt⟩ := h2
      obtain ⟨hl1, hl2, _⟩ := rightB_good' f hr
      obtain ⟨hg1, hg2, ai, hai, hai2⟩ := re_at hr hwf hwt
      have hLk := re_okL hr hwf hwt
      have hOk := re_ndOk hok hm2 (fr := fr) f.length
      have HFr := hid (HR.out true hr)
      have HN := hid hN
      have hbw := hN.1
      have hFg : partG (layS (reTo f fr t f.length) f.length).1 ai = F := by rw [← hFe]; unfold reG; rw [hai, Int.toNat_natCast]
      obtain ⟨j0, hj0, hz0, hz1, hz2⟩ := info_parts Tryd.infoN
      have HRl := hid (reTo_len f fr t f.length)
      have HLay := hid (fun (g gc rb base : Nat) (w' : World) (hn : NodesAt w' g (reTo f fr t f.length)) (h1 : g < base) (h2 : g ≠ rb) (v0 : Value) (hM : MkAt w' rb base v0 []) => by
        have := specLay_any (reTo f fr t f.length) g gc rb base (by rw [reTo_len]; omega) (by rw [reTo_len]; omega) hOk hLk h1 h2 w' hn v0 hM
        rw [reTo_len] at this
        rw [hai] at this
        exact this)
      have HDn := hid (fun (rb base : Nat) (v : Value) (w' : World) (hM : MkAt w' rb base v (layS (reTo f fr t f.length) f.length).1) => specDone_any _ hg1 hg2 ai hai2 F hFg rb base v w' hM)
      have HZ := hid (reTo_zero f fr t)
      have HSk := hid (fun k h1 h2 => reTo_skip f fr t k h1 h2)
      have HNm := hid (fun (w' : World) (g k : Nat) h1 h2 h3 => nodes_name (w := w') (g := g) (f := f) (fr := fr) (t := t) (k := k) h1 h2 h3)
      have HRa := hid (fun k i h => reTo_at f fr t k i h)
      have HRln := hid (fun k => reTo_len f fr t k)
      clear hF hc HR hr HWf HWt hN hFe hFg hai hLk hOk
      go_enter Tryd.func20, Tryd.ntmps20
      go_wp2_with (first | (go_at_call 23; refine (HFr.out _ HB0.out).mono ?_; rintro e w1 ⟨rfl, hb1⟩; have HB1 := hid (HB0.out.trans (hb1.mono HB0.out.size)); have HX1 := hid (HX0.out.on hb1); have HG1 := hid (HG0.out.on hb1 HX0.out.lt); have hs1 := hb1.size; clear hb1) | (go_at_call 45; refine (wordS_w _ (by assumption) _ (by assumption) _).mono ?_; rintro e w' ⟨rfl, rfl⟩) | (at_builtin; go_loud (refine wpList_append_own_at _ rfl _ _ 24 rfl w1.heap.size 46 j0 _ 6 56 Tryd.uNs hj0 hz0 hz1 hz2 rfl (by decide) _ 0 [] rfl (ownsN_none w1 w1.heap.size (Nat.le_refl _)) ⟨b, 0, none⟩ f.length cap (flatN f) rfl (flatN_len f) (flatN_cells ((HN.out.below HB1.out hbw).below (fone w1 _) (by have := HB1.out.size; omega))) (flatN_one f) (by unfold maxLen; omega) (by omega) (by simp) ?_; intro v5 w5 hown5 hgrow5 _ hat5; have hO5 : OwnsN w5 w1.heap.size v5 f := (by show w5.ownsRow _ _ _ _ _ _; simpa using hown5); obtain ⟨g, gc, m, z, rfl, _, hg, hm, hr5, _, hall⟩ := hO5.row (by omega); have hs5 : Save w1 w5 (fun _ => False) := ((Save.refl w1 (fun _ => False)).alloc _).grown hgrow5 (fun k hk h => by simp [Value.ownBlock, Act.eval, Act.put] at hk; omega); have HN5 := hid (hall _ hr5); have HR5 := hid hr5; have HB5 := hid (HB1.out.trans (hs5.below (B := w.heap.size) HB1.out.size (fun j h => h.elim))); have HX5 := hid (HX1.out.save hs5 (fun h => h)); have HG5 := hid (HG1.out.save hs5 HX1.out.lt (fun h => h)); have hz5 := hs5.size; clear hown5 hgrow5 hat5 hs5 hO5 hr5 hall)))
      clear HFr HN HB1 HX1 HG1 j0 hj0 hz0 hz1 hz2
      have hgw : w.heap.size < g := by simp at hs1; omega
      have hFZ : ∀ o, w5.frozen? ⟨g, o, none⟩ = false := fun o => HR5.out.frozen o
      have HN0 : NodesAt w5 g (reTo f fr t 0) := by rw [HZ.out]; exact HN5.out
      go_loopw [8] (fun v wr => ∃ k : Nat, k ≤ f.length ∧ v = .int .i64 k ∧ NodesAt wr g (reTo f fr t k) ∧ (∀ o, wr.frozen? ⟨g, o, none⟩ = false) ∧ Save w5 wr (fun j => j = g)) (fun v _ => f.length - (intOf v).toNat)
      case atStart => exact ⟨0, Nat.zero_le _, rfl, HN0, hFZ, Save.refl _ _⟩
      case round =>
        obtain ⟨k, hk, rfl, hNk, hfz, hsv⟩ := hrel
        have HNk := hid hNk
        have HSv := hid hsv
        clear hNk hsv
        by_cases hlt : k < f.length
        · obtain ⟨_, _, _, _, _, c5⟩ := HNk.out.2 k (by rw [HRln.out]; exact hlt)
          rw [HRa.out k k hlt, if_neg (by omega)] at c5
          have f5 := hfz (k * 6 + 5)
          have hi1 : ((k : Int) * 6 + 5).toNat = k * 6 + 5 := by omega
          by_cases hq : ((ndAt f k).nm.toList == fr.toList) = true
          · go_wp2_with fail
            go_roundw
            case rel => exact ⟨k + 1, by omega, by go_num, HNm.out _ g k hlt hq HNk.out, (fun o => by rw [World.frozen?_setCell]; exact hfz o), HSv.out.setCell (p := ⟨g, k * 6 + 5, none⟩) (fun _ => rfl) _⟩
            case measure => simp [intOf]; omega
          · have hq' : ((ndAt f k).nm.toList == fr.toList) = false := by simpa using hq
            clear hq
            go_wp2_with fail
            go_roundw
            case rel => exact ⟨k + 1, by omega, by go_num, by rw [HSk.out k hlt hq']; exact HNk.out, hfz, HSv.out⟩
            case measure => simp [intOf]; omega
        · have hk' : k = f.length := by omega
          subst hk'
          have HBr := hid (HB5.out.trans (HSv.out.below (B := w.heap.size) HB5.out.size (fun j h => by omega)))
          have HXr := hid (HX5.out.save HSv.out (by show ¬ w.heap.size = g; omega))
          have HGr := hid (HG5.out.save HSv.out HX5.out.lt (by show ¬ w.heap.size = g; omega))
          have hsz := HSv.out.size
          have hgl := HN5.out.1
          have HM0 := hid (mk_new wr)
          have HB6 := hid (HBr.out.trans ((fone wr (.cells #[.slice none 0 0, .int .i64 80, .bool false] 44)).mono HBr.out.size))
          have HX6 := hid (HXr.out.on (fone wr (.cells #[.slice none 0 0, .int .i64 80, .bool false] 44)))
          have HG6 := hid (HGr.out.on (fone wr (.cells #[.slice none 0 0, .int .i64 80, .bool false] 44)) HXr.out.lt)
          have HN6 := hid (HNk.out.below (fone wr (.cells #[.slice none 0 0, .int .i64 80, .bool false] 44)) (by omega))
          have hwr := HXr.out.lt
          clear HBr HXr HGr HNk HN5 HB5 HX5 HG5 HSv HSk HNm HRa HRln HRl HZ HN0 hFZ hfz HR5
          go_wp2_with (first | (go_at_call 42; refine (HLay.out g gc wr.heap.size (wr.heap.size + 1) _ HN6.out (by omega) (by omega) _ HM0.out).mono ?_; rintro e w7 ⟨rfl, v7, hM7, hs7⟩; have HM7 := hid hM7; have HB7 := hid (HB6.out.trans (hs7.below (B := w.heap.size) HB6.out.size (fun j h => by omega))); have HX7 := hid (HX6.out.save hs7 (by omega)); have HG7 := hid (HG6.out.save hs7 HX6.out.lt (by omega)); clear hM7 hs7) | (go_at_call 28; refine (HDn.out _ _ _ _ HM7.out).mono ?_; rintro e w8 ⟨fa, fc, rfl, hns, hq, hb8⟩; have HNS := hid hns; have HQ := hid hq; have HB8 := hid (HB7.out.trans (hb8.mono HB7.out.size)); obtain ⟨hx0, o0, o1⟩ := HX7.out.on hb8; obtain ⟨g0, g1⟩ := HG7.out.on hb8 HX7.out.lt; have hz8 := hb8.size; have hx7 := HX7.out.lt; clear hns hq hb8))
          refine bodyPost_ret (v := .agg #[.slice fa F.length fc, .int .i64 0]) (by simp [results, Tryd.results20, go_sem, o0, o1, g0, g1]) rfl ?_
          have s2 := foset2 w8 w.heap.size (.slice fa F.length fc) (.int .i64 0)
          have hz2 := s2.size
          first | exact ⟨fa, fc, rfl, HNS.out.save s2 (fun q e => by have := HQ.out q e; show ¬ q.block = w.heap.size; omega), (fun q e => by have := HQ.out q e; omega), HB8.out.trans (s2.below (B := w.heap.size) HB8.out.size (fun j h => by omega))⟩ | exact ⟨fa, ⟨fc, rfl⟩, HNS.out.save s2 (fun q e => by have := HQ.out q e; show ¬ q.block = w.heap.size; omega), (fun q e => by have := HQ.out q e; omega), HB8.out.trans (s2.below (B := w.heap.size) HB8.out.size (fun j h => by omega))⟩
    · obtain rfl : 1 = code := by rw [← hc, reC_form h4 h2]
      obtain rfl : [] = F := by rw [← hF, reF_no hc (by omega)]
      have hcs := three_no h2
      clear hF hc
      rcases hcs with h | ⟨h1, h⟩ | ⟨h1, h3, h⟩
      · have HFr := hid (HR.out false h)
        clear HR HWf HWt h h2 hN
        go_enter Tryd.func20, Tryd.ntmps20
        go_wp2_with (go_at_call 23; refine (HFr.out _ HB0.out).mono ?_; rintro e w1 ⟨rfl, hb1⟩; have HB1 := hid (HB0.out.trans (hb1.mono HB0.out.size)); obtain ⟨hq, o0, o1⟩ := HX0.out.on hb1; obtain ⟨g0, g1⟩ := HG0.out.on hb1 HX0.out.lt; clear hb1)
        refine bodyPost_ret (v := .agg #[.slice none 0 0, .int .i64 1]) (by simp [results, Tryd.results20, go_sem, o0, o1, g0, g1]) rfl ?_
        have s2 := foset2 w1 w.heap.size (.slice none 0 0) (.int .i64 1)
        exact ⟨none, 0, rfl, Or.inl rfl, (fun q e => by cases e), HB1.out.trans (s2.below (B := w.heap.size) HB1.out.size (fun j h => by omega))⟩
      · have HFr := hid (HR.out true h1)
        clear HR HWf HWt h1 h2 hN
        go_enter Tryd.func20, Tryd.ntmps20
        go_wp2_with (first | (go_at_call 23; refine (HFr.out _ HB0.out).mono ?_; rintro e w1 ⟨rfl, hb1⟩; have HB1 := hid (HB0.out.trans (hb1.mono HB0.out.size)); obtain ⟨hq, o0, o1⟩ := HX0.out.on hb1; obtain ⟨g0, g1⟩ := HG0.out.on hb1 HX0.out.lt; clear hb1) | (go_at_call 45; refine (wordS_w _ (by assumption) _ (by assumption) _).mono ?_; rintro e w' ⟨rfl, rfl⟩))
        refine bodyPost_ret (v := .agg #[.slice none 0 0, .int .i64 1]) (by simp [results, Tryd.results20, go_sem, o0, o1, g0, g1]) rfl ?_
        have s2 := foset2 w1 w.heap.size (.slice none 0 0) (.int .i64 1)
        exact ⟨none, 0, rfl, Or.inl rfl, (fun q e => by cases e), HB1.out.trans (s2.below (B := w.heap.size) HB1.out.size (fun j h => by omega))⟩
      · have HFr := hid (HR.out true h1)
        clear HR HWf HWt h1 h2 hN
        go_enter Tryd.func20, Tryd.ntmps20
        go_wp2_with (first | (go_at_call 23; refine (HFr.out _ HB0.out).mono ?_; rintro e w1 ⟨rfl, hb1⟩; have HB1 := hid (HB0.out.trans (hb1.mono HB0.out.size)); obtain ⟨hq, o0, o1⟩ := HX0.out.on hb1; obtain ⟨g0, g1⟩ := HG0.out.on hb1 HX0.out.lt; clear hb1) | (go_at_call 45; refine (wordS_w _ (by assumption) _ (by assumption) _).mono ?_; rintro e w' ⟨rfl, rfl⟩))
        refine bodyPost_ret (v := .agg #[.slice none 0 0, .int .i64 1]) (by simp [results, Tryd.results20, go_sem, o0, o1, g0, g1]) rfl ?_
        have s2 := foset2 w1 w.heap.size (.slice none 0 0) (.int .i64 1)
        exact ⟨none, 0, rfl, Or.inl rfl, (fun q e => by cases e), HB1.out.trans (s2.below (B := w.heap.size) HB1.out.size (fun j h => by omega))⟩
end Go.Proofs.YtjefdkmbakhngaaDoor
namespace Go.Proofs.YtjefdkmbakhngaaDoor
open Go.RowKit
set_option linter.unusedVariables false
set_option linter.unusedSimpArgs false
set_option maxRecDepth 20000 in
set_option maxHeartbeats 8000000 in
theorem walkRename (a : Option Addr) (cap : Nat) (f : List Nd) (from' to' : ByteArray) (w : World) (hI : InN w a cap f) (hkw : Kw w) (hg : 1 < w.heap.size) :
    Calls Tryd.prog 6 #[.slice a f.length cap, .string from', .string to'] w fun e w' => e = .returned (.bool true) ∧ Below w.heap.size w w' := by
  have HI := hid hI
  have HK := hid hkw
  have HU : Hid (∀ fa fn fc code, foV fa fn fc code = .agg #[.slice fa fn fc, .int .i64 code]) := fun _ _ _ _ => rfl
  clear hI hkw
  by_cases h1 : 1048576 < from'.size
  · have h1' : (1048576 : Int) < (from'.size : Int) := by omega
    go_enter Tryd.func6, Tryd.ntmps6
    go_wp2_with fail
    go_ret
    exact ⟨rfl, Below.refl _ _⟩
  by_cases h2 : 1048576 < to'.size
  · have h1' : ¬ (1048576 : Int) < (from'.size : Int) := by omega
    have h2' : (1048576 : Int) < (to'.size : Int) := by omega
    go_enter Tryd.func6, Tryd.ntmps6
    go_wp2_with fail
    go_ret
    exact ⟨rfl, Below.refl _ _⟩
  have h1' : ¬ (1048576 : Int) < (from'.size : Int) := by omega
  have h2' : ¬ (1048576 : Int) < (to'.size : Int) := by omega
  go_enter Tryd.func6, Tryd.ntmps6
  go_wp2_with fail
  refine (szNodeS_any f a cap (fun i hi => (HI.out.ok i hi).nm) HI.out.len _ HI.out.arg).mono ?_
  rintro e w1 ⟨r, rfl, hr, hb1⟩
  have HB1 := hid hb1
  have hz1 := hb1.size
  by_cases hr0 : r < 0
  · clear hb1 hr
    go_wp2_with fail
    go_ret
    exact ⟨rfl, HB1.out⟩
  obtain ⟨hl, _⟩ := hr (by omega)
  clear hb1 hr
  obtain ⟨F, hF⟩ : ∃ F, reF f from' to' = F := ⟨_, rfl⟩
  obtain ⟨code, hcode⟩ : ∃ code, reC f from' to' = code := ⟨_, rfl⟩
  have hFl : F.length ≤ 1000000 := by rw [← hF]; exact reF_len f from' to' hl
  have HTN := hid (fun w h => toNodeS_row f a cap hl w h)
  have HSN := hid (fun b w h => specRe_any f b f.length from' to' (by omega) (by omega) w h HI.out.ok hl F code hF hcode)
  have HIN := hid (fun b w h hk hg => implRe_any f b f.length from' to' (by omega) (by omega) w h HI.out.ok hl hk hg F code hF hcode)
  have HEQ := hid (fun a1 a2 d1 d2 w n1 n2 => eqFoA F F.length rfl a1 a2 d1 d2 code (by omega) w n1 n2)
  have HHO := hid (fun fa fc w h1 => heldFoA F.length fa fc code hFl w h1)
  simp only [HU.out] at HEQ HHO
  clear hF hcode
  go_wp2_with fail
  refine (HTN.out _ (HI.out.arg.below HB1.out (Nat.le_refl _))).mono ?_
  rintro e w2 ⟨b2, rfl, hb2, hn2, _, _, hbl2⟩
  have HB2 := hid (HB1.out.trans (hbl2.mono (by omega)))
  have hz2 := hbl2.size
  have XA2 := hid hn2
  clear hn2
  clear hbl2
  go_wp2_with fail
  refine (HSN.out b2 _ XA2.out).mono ?_
  rintro e w3 ⟨fa0, fc0, rfl, hn3, hf3, hbl3⟩
  have HB3 := hid (HB2.out.trans (hbl3.mono (by omega)))
  have hz3 := hbl3.size
  have NW3 := hid hn3
  have HF0 := hid hf3
  clear hn3 hf3
  clear hbl3
  go_wp2_with fail
  have hbl4 := fo_one w3 (.cells #[.slice fa0 F.length fc0, .int .i64 code] 26)
  have HB4 := hid (HB3.out.trans (hbl4.mono (by omega)))
  have NW4 := hid (NW3.out.on hbl4)
  have HW4 := hid (FoBox.new w3 fa0 F.length fc0 code 26)
  have hz4 : w3.heap.size < (w3.alloc (.cells #[.slice fa0 F.length fc0, .int .i64 code] 26)).heap.size := by simp
  clear hbl4
  generalize w3.alloc (.cells #[.slice fa0 F.length fc0, .int .i64 code] 26) = w4 at *
  refine (HTN.out _ (HI.out.arg.below HB4.out (Nat.le_refl _))).mono ?_
  rintro e w5 ⟨b5, rfl, hb5, hn5, ⟨z5, hr5⟩, _, hbl5⟩
  have HB5 := hid (HB4.out.trans (hbl5.mono (by omega)))
  have hz5 := hbl5.size
  have NW5 := hid (NW4.out.on hbl5)
  have HW5 := hid (HW4.out.on hbl5)
  have XX5 := hid (show XRf _ b5 f from ⟨hn5, Or.inr ⟨b5, _, z5, rfl, Nat.le_refl _, hr5⟩⟩)
  have hb5l := hn5.1
  clear hn5 hr5
  clear hbl5
  go_wp2_with fail
  refine (HIN.out b5 _ XX5.out.at' (HK.out.below HB5.out hg) (by omega)).mono ?_
  rintro e w6 ⟨ga, gc, rfl, hn6, hr6, hf6, hbl6⟩
  have HB6 := hid (HB5.out.trans (hbl6.mono (by omega)))
  have hz6 := hbl6.size
  have NW6 := hid (NW5.out.on hbl6)
  have HW6 := hid (HW5.out.on hbl6)
  have XX6 := hid (XX5.out.on hbl6)
  have NG6 := hid hn6
  have RG6 := hid hr6
  have HGf := hid hf6
  clear hn6 hr6 hf6
  clear hbl6
  obtain ⟨u0, c00, c01⟩ := HW6.out
  go_wp2_with fail
  have hbl7 := fo_one w6 (.cells #[.slice ga F.length gc, .int .i64 code] 26)
  have HB7 := hid (HB6.out.trans (hbl7.mono (by omega)))
  have NW7 := hid (NW6.out.on hbl7)
  have HW7 := hid (HW6.out.on hbl7)
  have XX7 := hid (XX6.out.on hbl7)
  have NG7 := hid (NG6.out.on hbl7)
  have RG7 := hid (RG6.out.on hbl7)
  have HG7 := hid (FoBox.new w6 ga F.length gc code 26)
  have hz7 : w6.heap.size < (w6.alloc (.cells #[.slice ga F.length gc, .int .i64 code] 26)).heap.size := by simp
  clear hbl7
  generalize w6.alloc (.cells #[.slice ga F.length gc, .int .i64 code] 26) = w7 at *
  refine (HEQ.out ga fa0 gc fc0 _ NG7.out NW7.out).mono ?_
  rintro e w8 ⟨rfl, hbl8⟩
  have HB8 := hid (HB7.out.trans (hbl8.mono (by omega)))
  have hz8 := hbl8.size
  have NW8 := hid (NW7.out.on hbl8)
  have HW8 := hid (HW7.out.on hbl8)
  have XX8 := hid (XX7.out.on hbl8)
  have NG8 := hid (NG7.out.on hbl8)
  have RG8 := hid (RG7.out.on hbl8)
  have HG8 := hid (HG7.out.on hbl8)
  clear hbl8
  clear u0 c00 c01
  go_wp2_with fail
  refine (HTN.out _ (HI.out.arg.below HB8.out (Nat.le_refl _))).mono ?_
  rintro e w9 ⟨b9, rfl, hb9, hn9, _, _, hbl9⟩
  have HB9 := hid (HB8.out.trans (hbl9.mono (by omega)))
  have hz9 := hbl9.size
  have NW9 := hid (NW8.out.on hbl9)
  have HW9 := hid (HW8.out.on hbl9)
  have XX9 := hid (XX8.out.on hbl9)
  have NG9 := hid (NG8.out.on hbl9)
  have RG9 := hid (RG8.out.on hbl9)
  have HG9 := hid (HG8.out.on hbl9)
  have XB9 := hid hn9
  clear hn9
  clear hbl9
  go_wp2_with fail
  refine (eqNodeS_same f b5 b9 f.length f.length hl _ XX9.out.at' XB9.out).mono ?_
  rintro e w10 ⟨rfl, hbl10⟩
  have HB10 := hid (HB9.out.trans (hbl10.mono (by omega)))
  have hz10 := hbl10.size
  have NW10 := hid (NW9.out.on hbl10)
  have HW10 := hid (HW9.out.on hbl10)
  have XX10 := hid (XX9.out.on hbl10)
  have NG10 := hid (NG9.out.on hbl10)
  have RG10 := hid (RG9.out.on hbl10)
  have HG10 := hid (HG9.out.on hbl10)
  clear hbl10
  go_wp2_with fail
  refine (markNs f.length (some ⟨b5, 0, none⟩) f.length hl _ XX10.out.row).mono ?_
  rintro e w11 ⟨rfl, _, hs11⟩
  have HB11 := hid (HB10.out.trans (hs11.below (B := w.heap.size) (by omega) (fun j hj => by have := ofB_flat hj; omega)))
  have hz11 := hs11.size
  have NW11 := hid (NW10.out.save hs11 (fun q e h => by have := ofB_flat h; have := HF0.out q e; omega))
  have HW11 := hid (HW10.out.save hs11 (fun h => by have := ofB_flat h; omega))
  have NG11 := hid (NG10.out.save hs11 (fun q e h => by have := ofB_flat h; have := HGf.out q e; omega))
  have RG11 := hid (RG10.out.save hs11 (fun q e h => by have := ofB_flat h; have := HGf.out q e; omega))
  have HG11 := hid (HG10.out.save hs11 (fun h => by have := ofB_flat h; omega))
  clear hs11
  have hk0 : ¬ ((1 + f.length * 6 : Nat) : Int) < 0 := by omega
  obtain ⟨u0, c00, c01⟩ := HG11.out
  obtain ⟨u1, c10, c11⟩ := HW11.out
  go_wp2_with fail
  refine (HEQ.out ga fa0 gc fc0 _ NG11.out NW11.out).mono ?_
  rintro e w12 ⟨rfl, hbl12⟩
  have HB12 := hid (HB11.out.trans (hbl12.mono (by omega)))
  have hz12 := hbl12.size
  have NW12 := hid (NW11.out.on hbl12)
  have HW12 := hid (HW11.out.on hbl12)
  have NG12 := hid (NG11.out.on hbl12)
  have RG12 := hid (RG11.out.on hbl12)
  have HG12 := hid (HG11.out.on hbl12)
  clear hbl12 u0 c00 c01 u1 c10 c11
  have HMO := hid (markFoA F ga gc code hFl w12 (fun q e => by have := HGf.out q e; omega) RG12.out)
  rw [HU.out] at HMO
  obtain ⟨u0, c00, c01⟩ := HG12.out
  go_wp2_with fail
  refine (HMO.out).mono ?_
  rintro e w13 ⟨rfl, hn13, hs13⟩
  have HB13 := hid (HB12.out.trans (hs13.below (B := w.heap.size) (by omega) (fun j hj => by obtain ⟨p, e2, h⟩ := hj; (have := HGf.out p e2; omega))))
  have hz13 := hs13.size
  have NW13 := hid (NW12.out.save hs13 (fun q e h => by obtain ⟨p, e2, h⟩ := h; exact absurd h (by have := HGf.out p e2; have := HF0.out q e; omega)))
  have HW13 := hid (HW12.out.save hs13 (fun h => by obtain ⟨p, e2, h⟩ := h; exact absurd h (by have := HGf.out p e2; omega)))
  have HG13 := hid (HG12.out.save hs13 (fun h => by obtain ⟨p, e2, h⟩ := h; exact absurd h (by have := HGf.out p e2; omega)))
  have NM13 := hid hn13
  clear hn13
  clear hs13 u0 c00 c01
  obtain ⟨u0, c00, c01⟩ := HG13.out
  go_wp2_with fail
  refine (HHO.out ga gc _ NM13.out).mono ?_
  rintro e w14 ⟨rfl, hbl14⟩
  have HB14 := hid (HB13.out.trans (hbl14.mono (by omega)))
  have hz14 := hbl14.size
  have NW14 := hid (NW13.out.on hbl14)
  have HW14 := hid (HW13.out.on hbl14)
  have HG14 := hid (HG13.out.on hbl14)
  have NM14 := hid (NM13.out.on hbl14)
  clear hbl14 u0 c00 c01
  have hq0 : ¬ ((1 + F.length * 6 : Nat) : Int) < 0 := by omega
  go_wp2_with fail
  refine (HTN.out _ (HI.out.arg.below HB14.out (Nat.le_refl _))).mono ?_
  rintro e w15 ⟨b15, rfl, hb15, hn15, _, _, hbl15⟩
  have HB15 := hid (HB14.out.trans (hbl15.mono (by omega)))
  have hz15 := hbl15.size
  have NW15 := hid (NW14.out.on hbl15)
  have HW15 := hid (HW14.out.on hbl15)
  have HG15 := hid (HG14.out.on hbl15)
  have NM15 := hid (NM14.out.on hbl15)
  have XC15 := hid hn15
  clear hn15
  clear hbl15
  go_wp2_with fail
  refine (HIN.out b15 _ XC15.out (HK.out.below HB15.out hg) (by omega)).mono ?_
  rintro e w16 ⟨ha, hc, rfl, hn16, _, _, hbl16⟩
  have HB16 := hid (HB15.out.trans (hbl16.mono (by omega)))
  have hz16 := hbl16.size
  have NW16 := hid (NW15.out.on hbl16)
  have HW16 := hid (HW15.out.on hbl16)
  have HG16 := hid (HG15.out.on hbl16)
  have NM16 := hid (NM15.out.on hbl16)
  have NH16 := hid hn16
  clear hn16
  clear hbl16
  obtain ⟨u0, c00, c01⟩ := HW16.out
  go_wp2_with fail
  have hbl17 := fo_one w16 (.cells #[.slice ha F.length hc, .int .i64 code] 26)
  have HB17 := hid (HB16.out.trans (hbl17.mono (by omega)))
  have NW17 := hid (NW16.out.on hbl17)
  have HW17 := hid (HW16.out.on hbl17)
  have HG17 := hid (HG16.out.on hbl17)
  have NM17 := hid (NM16.out.on hbl17)
  have NH17 := hid (NH16.out.on hbl17)
  have HH17 := hid (FoBox.new w16 ha F.length hc code 26)
  have hz17 : w16.heap.size < (w16.alloc (.cells #[.slice ha F.length hc, .int .i64 code] 26)).heap.size := by simp
  clear hbl17
  generalize w16.alloc (.cells #[.slice ha F.length hc, .int .i64 code] 26) = w17 at *
  refine (HEQ.out ha fa0 hc fc0 _ NH17.out NW17.out).mono ?_
  rintro e w18 ⟨rfl, hbl18⟩
  have HB18 := hid (HB17.out.trans (hbl18.mono (by omega)))
  have hz18 := hbl18.size
  have NW18 := hid (NW17.out.on hbl18)
  have HW18 := hid (HW17.out.on hbl18)
  have HG18 := hid (HG17.out.on hbl18)
  have NM18 := hid (NM17.out.on hbl18)
  have NH18 := hid (NH17.out.on hbl18)
  have HH18 := hid (HH17.out.on hbl18)
  clear hbl18
  clear u0 c00 c01
  obtain ⟨u0, c00, c01⟩ := HG18.out
  go_wp2_with fail
  refine (HHO.out ga gc _ NM18.out).mono ?_
  rintro e w19 ⟨rfl, hbl19⟩
  have HB19 := hid (HB18.out.trans (hbl19.mono (by omega)))
  have hz19 := hbl19.size
  have NW19 := hid (NW18.out.on hbl19)
  have HW19 := hid (HW18.out.on hbl19)
  have HG19 := hid (HG18.out.on hbl19)
  have NM19 := hid (NM18.out.on hbl19)
  have NH19 := hid (NH18.out.on hbl19)
  have HH19 := hid (HH18.out.on hbl19)
  clear hbl19 u0 c00 c01
  go_wp2_with fail
  go_ret
  exact ⟨rfl, HB19.out⟩
end Go.Proofs.YtjefdkmbakhngaaDoor
