/-
  The program's maker of nodes: newMaker, put, told, by their contracts (rules: none).
  The program's takeIn, by its contract.
  What a row of nodes becomes in a store that holds something already (plain).
  What a walk over nodes comes to: it is closed, and within whatever is closed; all that a row of nodes became is reached from what its last became (plain).
  All that a row of nodes became is reached from what its last became (plain).
  A right formula laid into an empty store stays as it is; what Negate comes to (plain).
  The program's rule that not not so is so, by its contract.
  The store's add where it is full, by its contract.
  The program's maker with the rule of not not: not, told, by their contracts.
  The program's maker with the rule of not not: put of a not into a full store, told with err set.
  The program's Negate, the parts: not and told, by what the whole is.
  Rename: what it tells; plain facts; names turned in a row of nodes.
  The program's Rename, by its contract.
  The program's Negate, by its contract.
  The model's l07Done over stores of more than 24 nodes, by its contract.
  The model's l07Lay, from a store that holds something already.
  The model's not, by its contract.
  The model's Negate, by its contract.
  Negate: both contracts, the kinds' words and the error of too many nodes held together.
  The walk of the law FnExactNegate.
-/
import Derived.Test.YtagklhfejbdkdaaDoorFmD
import Derived.Test.YtagklhfejbdkdaaDoorPartA
import Derived.Test.YtagklhfejbdkdaaDoorFmP
import Derived.Test.YtagklhfejbdkdaaDoorOrder
import Derived.Test.YtagklhfejbdkdaaDoorStore
import Derived.Laws.EntriesVeiled
import Derived.Test.YtagklhfejbdkdaaDoorFcA
import Derived.Test.YtagklhfejbdkdaaDoorFmL
import Derived.Test.YtagklhfejbdkdaaDoorFoK
namespace Go.Proofs.YtagklhfejbdkdaaDoor
open Go.RowKit
set_option linter.unusedVariables false
set_option linter.unusedSimpArgs false
/-- A maker without rules lies in a block: its nodes are g. -/
structure MakeAt (w : World) (kb sb mb base : Nat) (v : Value) (g : List Nd) : Prop where
  st : StoreAt w sb mb base v g
  ltk : kb < base
  n1 : kb ≠ sb
  n2 : kb ≠ mb
  k0 : w.cell? ⟨kb, 0, none⟩ = some (.pointer (some ⟨sb, 0, none⟩))
  k1 : w.cell? ⟨kb, 1, none⟩ = some (.slice none 0 0)
  k2 : w.cell? ⟨kb, 2, none⟩ = some .nilIface
def MakeB (kb sb mb : Nat) (v : Value) (b : Nat) : Prop := b = kb ∨ StoreS sb mb v b
theorem MakeAt.save {w w' : World} {kb sb mb base : Nat} {v : Value} {g : List Nd} {S : Nat → Prop} (h : MakeAt w kb sb mb base v g) (hs : Save w w' S) (hS : ∀ b, MakeB kb sb mb v b → ¬ S b) : MakeAt w' kb sb mb base v g := by
  have hl := h.ltk; have hb := h.st.ltb
  have e1 : ¬ S kb := hS kb (Or.inl rfl)
  exact ⟨h.st.save hs (fun b hb => hS b (Or.inr hb)), h.ltk, h.n1, h.n2, (hs.cell (p := ⟨kb, _, none⟩) (by simp only; omega) e1).trans h.k0, (hs.cell (p := ⟨kb, _, none⟩) (by simp only; omega) e1).trans h.k1, (hs.cell (p := ⟨kb, _, none⟩) (by simp only; omega) e1).trans h.k2⟩
theorem MakeAt.on {w w' : World} {kb sb mb base : Nat} {v : Value} {g : List Nd} (h : MakeAt w kb sb mb base v g) (hb : Below w.heap.size w w') : MakeAt w' kb sb mb base v g :=
  h.save (S := fun _ => False) (Save.of_below hb _ (fun j h1 h2 => absurd h1 (by omega))) (fun _ _ h => h)
set_option maxRecDepth 20000 in
set_option maxHeartbeats 1000000 in
theorem newMaker_any (w : World) :
    Calls Tryd.prog 31 #[.int .i64 24] w fun e w' => ∃ kb sb mb, e = .returned (.pointer (some ⟨kb, 0, none⟩)) ∧ w.heap.size ≤ kb ∧ w.heap.size ≤ sb ∧ w.heap.size ≤ mb ∧ MakeAt w' kb sb mb w'.heap.size (.slice none 0 0) [] ∧ Below w.heap.size w w' := by
  go_enter Tryd.func31, Tryd.ntmps31
  go_wp2_with (go_at_call 52; refine (newStore_any w).mono ?_; rintro e w1 ⟨sb, mb, rfl, hsb, hmb, hst, hb1⟩; have HSt := hid hst; have HB1 := hid hb1; have hz1 := hb1.size; clear hst hb1)
  go_ret
  have hl1 := HSt.out.lts
  have hl2 := HSt.out.ltm
  have hS := HSt.out.save (S := fun _ => False) ((Save.refl w1 (fun _ => False)).alloc (.cells #[.pointer (some ⟨sb, 0, none⟩), .slice none 0 0, .nilIface] 64)) (fun _ _ h => h)
  refine ⟨w1.heap.size, sb, mb, rfl, hz1, hsb, hmb, ⟨⟨by simp; omega, by simp; omega, hS.ne, Nat.le_refl _, hS.cell0, hS.cell1, hS.cell2, hS.free, World.ownsRow_nil _ _ _ _, hS.map, hS.ok, hS.le⟩, by simp, by omega, by omega, by simp [go_sem], by simp [go_sem], by simp [go_sem]⟩, HB1.out.trans (((Below.refl _ _).alloc (Nat.le_refl _) _).mono hz1)⟩
theorem good_apart {g : List Nd} (hg : goodTo g g.length = true) : ∀ i j, i < j → j < g.length → ndAt g i ≠ ndAt g j := fun i j hij hj => (goodTo_at g j g.length hj hg).2 i hij
set_option maxRecDepth 20000 in
set_option maxHeartbeats 4000000 in
theorem mput_any (x : Nd) (hx : ndOk x) (g : List Nd) (hg : goodTo g g.length = true) (hlen : g.length < 24) (kb sb mb base : Nat) (v : Value) (w : World) (hM : MakeAt w kb sb mb base v g) :
    Calls Tryd.prog 44 #[.pointer (some ⟨kb, 0, none⟩), ndV x] w fun e w' => e = .returned (.int .i64 (plG g x : Nat)) ∧ ∃ v', MakeAt w' kb sb mb base v' (putG g x) ∧ Save w w' (StoreS sb mb v) ∧ (∀ k, v'.ownBlock = some k → v.ownBlock = some k ∨ w.heap.size ≤ k) := by
  have HM := hid hM
  have hkb : kb < w.heap.size := Nat.lt_of_lt_of_le hM.ltk hM.st.ltb
  have HBX := hid (box_node w x 46)
  have HB0 := hid (fone w (.cells #[.int .i64 x.k, .int .i64 x.a, .int .i64 x.b, .int .i64 x.lo, .int .i64 x.hi, .string x.nm] 46))
  have HM0 := hid (hM.on HB0.out)
  have HU : Hid (∀ x : Nd, ndV x = .agg #[.int .i64 x.k, .int .i64 x.a, .int .i64 x.b, .int .i64 x.lo, .int .i64 x.hi, .string x.nm]) := fun _ => rfl
  have HAd : Hid (∀ w', MakeAt w' kb sb mb base v g → Calls Tryd.prog 62 #[.pointer (some ⟨sb, 0, none⟩), ndV x] w' fun e w'' => e = .returned (.tuple #[.int .i64 (plG g x : Nat), .nilIface]) ∧ ∃ v', StoreAt w'' sb mb base v' (putG g x) ∧ Save w' w'' (StoreS sb mb v) ∧ (∀ k, v'.ownBlock = some k → v.ownBlock = some k ∨ w'.heap.size ≤ k)) := fun w' h => by
    by_cases hp : plG g x < g.length
    · refine (add_old x hx g sb mb base v w' h.st (plG g x) hp (plG_at hp) (fun i h1 h2 e => ?_)).mono ?_
      · exact good_apart hg (plG g x) i h1 h2 ((plG_at hp).trans e.symm)
      · rintro e w'' ⟨rfl, hb⟩
        have hs : Save w' w'' (fun _ => False) := Save.of_below hb _ (fun j h1 h2 => absurd h1 (by omega))
        exact ⟨rfl, v, by rw [putG_old hp]; exact h.st.save hs (fun _ _ h => h), hs.mono (fun _ _ h => h.elim), fun k hk => Or.inl hk⟩
    · have h3 : plG g x = g.length := by have := plG_le g x; omega
      refine (add_new x hx g sb mb base v w' h.st hlen (fun i hi => plG_new hp i hi)).mono ?_
      rintro e w'' ⟨rfl, v', hst, hs, hv⟩
      exact ⟨by rw [h3], v', by rw [putG_new hp]; exact hst, hs, hv⟩
  rw [HU.out] at HAd
  generalize hP : plG g x = P at *
  generalize hG : putG g x = G at *
  clear hM hP hG hg
  rw [HU.out]
  go_enter Tryd.func44, Tryd.ntmps44
  have c0 := HM0.out.k0
  have c1 := HM0.out.k1
  have c2 := HM0.out.k2
  go_wp2_with fail
  have hz0 : w.heap.size < (w.alloc (.cells #[.int .i64 x.k, .int .i64 x.a, .int .i64 x.b, .int .i64 x.lo, .int .i64 x.hi, .string x.nm] 46)).heap.size := by simp
  generalize w.alloc (.cells #[.int .i64 x.k, .int .i64 x.a, .int .i64 x.b, .int .i64 x.lo, .int .i64 x.hi, .string x.nm] 46) = W0 at *
  go_loopw [16] (fun t wr => t = .int .i64 0 ∧ wr = W0) (fun _ _ => 0)
  case atStart => exact ⟨rfl, rfl⟩
  case round =>
    obtain ⟨rfl, rfl⟩ := hrel
    obtain ⟨d0, d1, d2, d3, d4, d5⟩ := (show NodeAt wr w.heap.size 0 (x.k, x.a, x.b, x.lo, x.hi, x.nm) from HBX.out).zero
    go_wp2_with fail
    have HMd : Hid (∀ W, Save wr W (fun _ => False) → MakeAt W kb sb mb base v g) := fun W h => HM0.out.save h (fun _ _ h => h)
    go_region_with (go_at_call 62; refine (HAd.out _ (HMd.out _ (by repeat (first | exact Save.refl _ _ | refine Save.drew ?_)))).mono ?_; rintro e w2 ⟨rfl, v', hst, hs2, hv2⟩; have HSt := hid hst; have HS2 := hid hs2; have HV2 := hid hv2; clear hst hs2 hv2)
    all_goals
      have hkn : ¬ StoreS sb mb v kb := by
        rintro (h | h | h)
        · exact HM0.out.n1 h
        · exact HM0.out.n2 h
        · have := (World.ownsRow.lt HM0.out.st.own _ h).1; have := HM0.out.ltk; omega
      have hkw : kb < wr.heap.size := by omega
      go_wp2_with fail
      go_ret
      exact ⟨rfl, v', ⟨HSt.out, HM0.out.ltk, HM0.out.n1, HM0.out.n2, (HS2.out.cell (p := ⟨kb, 0, none⟩) hkw hkn).trans HM0.out.k0, (HS2.out.cell (p := ⟨kb, 1, none⟩) hkw hkn).trans HM0.out.k1, (HS2.out.cell (p := ⟨kb, 2, none⟩) hkw hkn).trans HM0.out.k2⟩, (Save.of_below HB0.out (StoreS sb mb v) (fun j h1 h2 => absurd h1 (by omega))).drew.trans HS2.out, fun k hk => (HV2.out k hk).imp id (fun h => by have h' : wr.heap.size ≤ k := h; omega)⟩
set_option maxRecDepth 20000 in
set_option maxHeartbeats 4000000 in
theorem told_any (g : List Nd) (hg : goodTo g g.length = true) (i : Nat) (hi : i < g.length) (F : List Nd) (hF : partG g i = F) (kb sb mb base : Nat) (v : Value) (w : World) (hM : MakeAt w kb sb mb base v g) :
    Calls Tryd.prog 37 #[.pointer (some ⟨kb, 0, none⟩), .int .i64 i] w fun e w' => ∃ fa fc, e = .returned (.agg #[.slice fa F.length fc, .int .i64 0]) ∧ NsA w' fa F ∧ RowA w' fa F.length ∧ (∀ q, fa = some q → q = ⟨q.block, 0, none⟩ ∧ w.heap.size ≤ q.block ∧ q.block < w'.heap.size) ∧ Below w.heap.size w w' := by
  have hl := hM.st.le
  have hFl : F.length ≤ 24 := by rw [← hF]; have := partG_len hg hi; omega
  have HB0 := hid (fone w (.cells #[.slice none 0 0, .int .i64 0] 26))
  have HX0 := hid (foz w).1
  have HG0 := hid (foz w).2
  have HM0 := hid (hM.on HB0.out)
  have hkb : kb < w.heap.size := Nat.lt_of_lt_of_le hM.ltk hM.st.ltb
  have hsb : sb < w.heap.size := Nat.lt_of_lt_of_le hM.st.lts hM.st.ltb
  obtain ⟨va, vc, rfl, hvf⟩ := hM.st.own.form
  obtain ⟨gb, rfl⟩ : ∃ gb, va = some ⟨gb, 0, none⟩ := by
    rcases hvf with rfl | ⟨b, rfl, _, _⟩
    · exfalso
      rcases hM.st.own.2 with ⟨_, h0⟩ | ⟨q, cp, cu, e, _⟩
      · omega
      · cases e
    · exact ⟨b, rfl⟩
  have HPt := hid (partAt_good g gb vc i _ HM0.out.st.own.at ⟨by omega, hl, hg⟩ hi HM0.out.st.ok)
  have hFe : partTo g (walkF g g.length i []) (walkF g g.length i []).length = F := hF
  have hFn : (walkF g g.length i []).length = F.length := by rw [← hFe, partTo_len]
  rw [hFe, hFn] at HPt
  have c0 := HM0.out.k0
  have c2 := HM0.out.k2
  have s0 := HM0.out.st.cell0
  clear hM hg hF hFe hFn
  go_enter Tryd.func37, Tryd.ntmps37
  go_wp2_with (go_at_call 59; refine HPt.out.mono ?_; rintro e w1 ⟨pb, z, rfl, hpb, hr1, hb1⟩; have HR := hid hr1; have HB1 := hid (HB0.out.trans (hb1.mono HB0.out.size)); obtain ⟨hq0, o0, o1⟩ := HX0.out.on hb1; obtain ⟨g0, g1⟩ := HG0.out.on hb1 HX0.out.lt; have hz1 := hb1.size; clear hr1 hb1)
  refine bodyPost_ret (v := .agg #[.slice (some ⟨pb, 0, none⟩) F.length F.length, .int .i64 0]) (by simp [results, Tryd.results37, go_sem, o0, o1, g0, g1]) rfl ?_
  have s2 := foset2 w1 w.heap.size (.slice (some ⟨pb, 0, none⟩) F.length F.length) (.int .i64 0)
  have hz2 := s2.size
  have hz0 : w.heap.size < (w.alloc (.cells #[.slice none 0 0, .int .i64 0] 26)).heap.size := by simp
  have hrl := HR.out.lt
  have hr2 := HR.out.of_block (s2.block pb hrl (by show ¬ pb = w.heap.size; omega))
  exact ⟨_, _, rfl, Or.inr ⟨pb, rfl, row_nodes_long hr2 (Nat.le_refl _)⟩, Or.inr ⟨pb, _, _, rfl, Nat.le_refl _, hr2⟩, (fun q e => by injection e with e; subst e; exact ⟨rfl, by show _ ≤ pb; omega, by show pb < _; omega⟩), HB1.out.trans (s2.below (B := w.heap.size) HB1.out.size (fun j h => by omega))⟩
end Go.Proofs.YtagklhfejbdkdaaDoor
namespace Go.Proofs.YtagklhfejbdkdaaDoor
open Go.RowKit
set_option linter.unusedVariables false
set_option linter.unusedSimpArgs false
set_option maxRecDepth 20000 in
set_option maxHeartbeats 8000000 in
theorem takeIn_any (f : List Nd) (b cap kb sb mb base : Nat) (h0 : 0 < f.length) (hn : f.length ≤ 24) (hok : ∀ i, i < f.length → ndOk (ndAt f i)) (hL : okL f f.length) (hbb : b < base) (hb1 : b ≠ sb) (hb2 : b ≠ mb) (w : World) (hN : NodesAt w b f) (v0 : Value) (hM : MakeAt w kb sb mb base v0 []) :
    Calls Tryd.prog 38 #[.pointer (some ⟨kb, 0, none⟩), .slice (some ⟨b, 0, none⟩) f.length cap] w fun e w' => e = .returned (.int .i64 ((layS f f.length).2 (f.length - 1))) ∧ ∃ v', MakeAt w' kb sb mb base v' (layS f f.length).1 ∧ Save w w' (fun j => j = sb ∨ j = mb ∨ base ≤ j) := by
  have HM := hid hM
  have HN := hid hN
  have HOk := hid hok
  have HL := hid (fun k (hk : k ≤ f.length) => laid_all f f.length hL k hk)
  have HLt := hid hL
  have hmk := run_make_row' (P := Tryd.prog) 45 2 (.int .i64 0) 8 Tryd.underlying45 Tryd.infoI rfl .i64 .i64 f.length (by omega) (by omega)
  have hkb := hM.ltk
  have hsb := hM.st.lts
  have hmb := hM.st.ltm
  have hltb := hM.st.ltb
  have HR0 : Hid (RowD (w.alloc (.cells (madeCells #[.int .i64 0] f.length) 2)) w.heap.size f.length (fun _ => 0)) := World.rowIs_made _ _ _ _
  have HW0 := hid (fone w (.cells (madeCells #[.int .i64 0] f.length) 2))
  clear hM hN hok hL
  go_enter Tryd.func38, Tryd.ntmps38
  go_wp2_with fail
  have hvo0 : ∀ q, v0.ownBlock = some q → q ≠ w.heap.size := fun q hq => by have := (World.ownsRow.lt HM.out.st.own q hq).2; omega
  have HM1 := hid (HM.out.on HW0.out)
  have HN1 := hid (HN.out.below HW0.out HN.out.1)
  have hsz1 : w.heap.size < (w.alloc (.cells (madeCells #[.int .i64 0] f.length) 2)).heap.size := by simp
  generalize w.alloc (.cells (madeCells #[.int .i64 0] f.length) 2) = W1 at *
  clear hmk
  go_loopw [13] (fun t wr => ∃ (k : Nat) (v : Value), k ≤ f.length ∧ t = .int .i64 k ∧ (∀ q, v.ownBlock = some q → q ≠ w.heap.size) ∧ RowD wr w.heap.size f.length (layS f k).2 ∧ MakeAt wr kb sb mb base v (layS f k).1 ∧ Save W1 wr (fun j => j = sb ∨ j = mb ∨ base ≤ j)) (fun t _ => f.length - (intOf t).toNat)
  case atStart => exact ⟨0, v0, Nat.zero_le _, rfl, hvo0, HR0.out, HM1.out, Save.refl _ _⟩
  case round =>
    obtain ⟨k, v, hk, rfl, hvo, hrow, hM, hsv⟩ := hrel
    have HRow := hid hrow
    have HMr := hid hM
    have HSv := hid hsv
    have hszr := hsv.size
    have hrl := hrow.lt
    have hbw : b < w.heap.size := HN.out.1
    have HNr := hid (hsv.nodes HN1.out (by rintro (h | h | h) <;> omega))
    clear hrow hM hsv
    by_cases hlt : k < f.length
    · have HLg := hid (HL.out k (by omega))
      have HOy := hid (moved_ok (HOk.out k hlt) (lay_to (HL.out k (by omega)) (n := f.length) (by omega) (by omega)))
      have HOb := hid (fun j (h : v.ownBlock = some j) => (World.ownsRow.lt HMr.out.st.own j h).1)
      have hx := HLt.out k hlt
      obtain ⟨c0, c1, c2, c3, c4, c5⟩ := HNr.out.2 k hlt
      have hbr' := HNr.out.1
      have hRE : ∀ j, (layS f (k + 1)).2 j = if j = k then ((plG (layS f k).1 (movedN (layS f k).2 (ndAt f k)) : Nat) : Int) else (layS f k).2 j := fun j => rfl
      have HGE : Hid ((layS f (k + 1)).1 = putG (layS f k).1 (movedN (layS f k).2 (ndAt f k))) := rfl
      have hkd : isB (ndAt f k).k 1 9 = true := by simp only [nodeB, Bool.and_eq_true] at hx; exact hx.1
      have har : armsOk (ndAt f k) f.length := (nodeB_arms _ _ hx).mono (by omega)
      have HMv := hid (fun w' h => moved_any (ndAt f k) w.heap.size f.length f.length (layS f k).2 w' h hkd har hn)
      have HPt := hid (fun w' h => mput_any (movedN (layS f k).2 (ndAt f k)) HOy.out (layS f k).1 HLg.out.good (by have := HLg.out.len; omega) kb sb mb base v w' h)
      have HRE := hid hRE
      have HUn : Hid (ndV (ndAt f k) = .agg #[.int .i64 (ndAt f k).k, .int .i64 (ndAt f k).a, .int .i64 (ndAt f k).b, .int .i64 (ndAt f k).lo, .int .i64 (ndAt f k).hi, .string (ndAt f k).nm]) := rfl
      have HMr2 := hid (fun (W : World) (h : Save wr W (fun _ => False)) => HMr.out.save h (fun _ _ h => h))
      have HRow2 := hid (fun (W : World) (h : Save wr W (fun _ => False)) => (show RowD W w.heap.size f.length (layS f k).2 from World.rowIs.of_block HRow.out (h.block w.heap.size HRow.out.lt (fun h => h))))
      rw [HUn.out] at HMv
      generalize hP : plG (layS f k).1 (movedN (layS f k).2 (ndAt f k)) = P at *
      generalize hG : putG (layS f k).1 (movedN (layS f k).2 (ndAt f k)) = G at *
      generalize hY : ndV (movedN (layS f k).2 (ndAt f k)) = Y at *
      clear hP hG hY hRE hx hkd har HOy HUn
      generalize ndAt f k = x at *
      have HS0 : Hid (Save wr (wr.alloc (.cells #[.int .i64 x.k, .int .i64 x.a, .int .i64 x.b, .int .i64 x.lo, .int .i64 x.hi, .string x.nm] 46)) (fun _ => False)) := (Save.refl wr _).alloc _
      go_wp2_with (first | (go_at_call 60; refine (HMv.out _ (HRow2.out _ HS0.out)).mono ?_; rintro e w1 ⟨rfl, hb1⟩; have HS1 := hid (HS0.out.trans (Save.of_below hb1 (fun _ => False) (fun j h1 h2 => absurd h1 (by omega)))); clear hb1) | (go_at_call 44; refine (HPt.out _ (HMr2.out _ HS1.out)).mono ?_; rintro e w2 ⟨rfl, v', hM2, hs2, hv2⟩; have HM2 := hid hM2; have HS2 := hid ((HS1.out.mono (fun _ _ h => h.elim)).trans hs2); have HV2 := hid hv2; have HR2 := hid (World.rowIs.of_block (HRow2.out _ HS1.out) (hs2.block w.heap.size (HRow2.out _ HS1.out).lt (by rintro (h | h | h); exact absurd h (by omega); exact absurd h (by omega); exact hvo _ h rfl))); have d2 := HR2.out.cell (i := k) hlt; have f2 := HR2.out.frozen k; have hz1 := HS1.out.size; clear hM2 hs2 hv2))
      go_roundw
      case rel =>
        have hvo' : ∀ q, v'.ownBlock = some q → q ≠ w.heap.size := fun q hq => by
          rcases HV2.out q hq with h | h
          · exact hvo q h
          · omega
        have hs3 := Save.setCell (S := fun j => j = w.heap.size) (Save.refl w2 _) (p := ⟨w.heap.size, k, none⟩) (fun _ => rfl) (.int .i64 (P : Nat))
        refine ⟨k + 1, v', by omega, by go_num, hvo', (RowD.set HR2.out k (P : Nat)).congr (fun j => by rw [HRE.out]), ?_, ?_⟩
        · rw [HGE.out]; exact HM2.out.save hs3 (by
            rintro j (h | h | h | h) h2
            · have h2' : j = w.heap.size := h2; omega
            · have h2' : j = w.heap.size := h2; omega
            · have h2' : j = w.heap.size := h2; omega
            · exact absurd h2 (hvo' j h))
        · exact (HSv.out.trans (HS2.out.mono (fun j _ h => by rcases h with h | h | h; exact Or.inl h; exact Or.inr (Or.inl h); exact Or.inr (Or.inr (HOb.out j h))))).setCell (p := ⟨w.heap.size, k, none⟩) (fun _ => Or.inr (Or.inr hltb)) _
      case measure => simp [intOf]; omega
    · have hk' : k = f.length := by omega
      subst hk'
      have d := HRow.out.cell (i := f.length - 1) (by omega)
      have hidx : ((f.length : Int) - 1).toNat = f.length - 1 := by omega
      have hidx2 : (f.length : Int) - 1 = ((f.length - 1 : Nat) : Int) := by omega
      have hlt1 : f.length - 1 < f.length := by omega
      go_wp2_with fail
      go_ret
      exact ⟨rfl, v, HMr.out, (Save.of_below HW0.out _ (fun j h1 h2 => absurd h1 (by omega))).trans HSv.out⟩
end Go.Proofs.YtagklhfejbdkdaaDoor
namespace Go.Proofs.YtagklhfejbdkdaaDoor
open Go.RowKit
set_option linter.unusedVariables false
set_option linter.unusedSimpArgs false
/-- What a row of nodes becomes, one after the other, from the store g0 on: the store, and the place of each. -/
def layF (g0 f : List Nd) : Nat → List Nd × (Nat → Int)
  | 0 => (g0, fun _ => 0)
  | k + 1 => (putG (layF g0 f k).1 (movedN (layF g0 f k).2 (ndAt f k)), fun j => if j = k then (plG (layF g0 f k).1 (movedN (layF g0 f k).2 (ndAt f k)) : Nat) else (layF g0 f k).2 j)
theorem layF_nil (f : List Nd) : ∀ k, layF [] f k = layS f k
  | 0 => rfl
  | k + 1 => by unfold layF layS; rw [layF_nil f k]
/-- What holds of what has been laid. -/
structure LaidF (g0 f : List Nd) (k : Nat) : Prop where
  good : goodTo (layF g0 f k).1 (layF g0 f k).1.length = true
  len : (layF g0 f k).1.length ≤ g0.length + k
  to : ∀ j, j < k → 0 ≤ (layF g0 f k).2 j ∧ (layF g0 f k).2 j < (layF g0 f k).1.length
  zero : ∀ j, k ≤ j → (layF g0 f k).2 j = 0
  more : g0.length ≤ (layF g0 f k).1.length
  keep : ∀ i, i < g0.length → ndAt (layF g0 f k).1 i = ndAt g0 i
theorem laidF_all (g0 f : List Nd) (hg0 : goodTo g0 g0.length = true) (n : Nat) (h : okL f n) : ∀ k, k ≤ n → LaidF g0 f k
  | 0, _ => ⟨hg0, Nat.le_refl _, fun j hj => by omega, fun j _ => rfl, Nat.le_refl _, fun _ _ => rfl⟩
  | k + 1, hk => by
    obtain ⟨h1, h2, h3, h4, h5, h6⟩ := laidF_all g0 f hg0 n h k (by omega)
    have hx := moved_right (h k (by omega)) h3
    have hl := putG_len (layF g0 f k).1 (movedN (layF g0 f k).2 (ndAt f k))
    refine ⟨good_put _ _ h1 hx, by show (putG _ _).length ≤ _; omega, fun j hj => ?_, fun j hj => ?_, by show _ ≤ (putG _ _).length; omega, fun i hi => (ndAt_put _ _ i (by omega)).trans (h6 i hi)⟩
    · show 0 ≤ (if j = k then _ else _) ∧ (if j = k then _ else _) < ((putG _ _).length : Int)
      by_cases e : j = k
      · rw [if_pos e]
        have := plG_lt (layF g0 f k).1 (movedN (layF g0 f k).2 (ndAt f k))
        omega
      · rw [if_neg e]
        have := h3 j (by omega)
        omega
    · show (if j = k then _ else (layF g0 f k).2 j) = 0
      rw [if_neg (by omega)]
      exact h4 j (by omega)
end Go.Proofs.YtagklhfejbdkdaaDoor
namespace Go.Proofs.YtagklhfejbdkdaaDoor
open Go.RowKit
set_option linter.unusedVariables false
set_option linter.unusedSimpArgs false
/-- The places that a node speaks of are within. -/
def inArms (D : Nat → Prop) (x : Nd) : Prop := (0 < armsN x.k → D x.a.toNat) ∧ (1 < armsN x.k → D x.b.toNat)
theorem inArms.mono {D E : Nat → Prop} {x : Nd} (h : inArms D x) (hi : ∀ j, D j → E j) : inArms E x := ⟨fun c => hi _ (h.1 c), fun c => hi _ (h.2 c)⟩
/-- A walk stays within what is closed. -/
theorem walk_within (f : List Nd) (D : Nat → Prop) (n : Nat) : ∀ (i : Nat) (l : List Nat), (∀ j, j ≤ i → D j → inArms D (ndAt f j)) → downTo f (i + 1) → D i → (∀ j ∈ l, D j) → ∀ j ∈ walkF f n i l, D j := by
  induction n with
  | zero => intro i l _ _ _ hl; simpa [walkF] using hl
  | succ n ih =>
    intro i l hD hd hi hl
    have hin := hD i (Nat.le_refl _) hi
    have har := hd i (by omega)
    simp only [walkF]
    split
    · exact hl
    · have h1 : ∀ j ∈ (if 0 < armsN (ndAt f i).k then walkF f n (ndAt f i).a.toNat l else l), D j := by
        split
        · next c => exact ih _ _ (fun j hj => hD j (by have := har.1 c; omega)) (fun j hj => hd j (by have := har.1 c; omega)) (hin.1 c) hl
        · exact hl
      intro j hj
      rcases List.mem_append.1 hj with h | h
      · revert h
        split
        · next c => exact ih _ _ (fun j hj => hD j (by have := har.2 c; omega)) (fun j hj => hd j (by have := har.2 c; omega)) (hin.2 c) h1 j
        · exact h1 j
      · rw [List.mem_singleton.1 h]; exact hi
/-- What a walk comes to is closed. -/
theorem walk_closed (f : List Nd) (n : Nat) : ∀ (i : Nat) (l : List Nat), downTo f (i + 1) → i < n → (∀ j ∈ l, inArms (· ∈ l) (ndAt f j)) → ∀ j ∈ walkF f n i l, inArms (· ∈ walkF f n i l) (ndAt f j) := by
  induction n with
  | zero => intro i l _ h; omega
  | succ n ih =>
    intro i l hd h1 hl
    have har := hd i (by omega)
    by_cases hil : i ∈ l
    · rw [walkF_in f n i l hil]; exact hl
    rcases armsN_012 (ndAt f i).k with ha | ha | ha
    · rw [walkF_0 f n i l hil ha]
      intro j hj
      rcases List.mem_append.1 hj with h | h
      · exact (hl j h).mono (fun k hk => List.mem_append_left _ hk)
      · rw [List.mem_singleton.1 h]; exact ⟨fun c => by omega, fun c => by omega⟩
    · rw [walkF_1 f n i l hil ha]
      have q1 := har.1 (by omega)
      have hc := ih (ndAt f i).a.toNat l (fun j hj => hd j (by omega)) (by omega) hl
      have hm := (walkF_grows f n (ndAt f i).a.toNat l (fun j hj => hd j (by omega)) (by omega)).2
      intro j hj
      rcases List.mem_append.1 hj with h | h
      · exact (hc j h).mono (fun k hk => List.mem_append_left _ hk)
      · rw [List.mem_singleton.1 h]; exact ⟨fun c => List.mem_append_left _ hm, fun c => by omega⟩
    · rw [walkF_2 f n i l hil ha]
      have q1 := har.1 (by omega)
      have q2 := har.2 (by omega)
      have hc := ih (ndAt f i).a.toNat l (fun j hj => hd j (by omega)) (by omega) hl
      have hm := (walkF_grows f n (ndAt f i).a.toNat l (fun j hj => hd j (by omega)) (by omega)).2
      have hc2 := ih (ndAt f i).b.toNat _ (fun j hj => hd j (by omega)) (by omega) hc
      obtain ⟨⟨t, ht, _⟩, hm2⟩ := walkF_grows f n (ndAt f i).b.toNat (walkF f n (ndAt f i).a.toNat l) (fun j hj => hd j (by omega)) (by omega)
      intro j hj
      rcases List.mem_append.1 hj with h | h
      · exact (hc2 j h).mono (fun k hk => List.mem_append_left _ hk)
      · rw [List.mem_singleton.1 h]
        exact ⟨fun c => List.mem_append_left _ (by rw [ht]; exact List.mem_append_left _ hm), fun c => List.mem_append_left _ hm2⟩
/-- Of a right row: whatever is closed and holds the last, holds all. -/
theorem right_all {f : List Nd} (h : rightB f = true) (D : Nat → Prop) (hD : ∀ j, j < f.length → D j → inArms D (ndAt f j)) (hl : D (f.length - 1)) : ∀ j, j < f.length → D j := by
  unfold rightB at h
  simp only [Bool.and_eq_true, decide_eq_true_eq, beq_iff_eq] at h
  obtain ⟨⟨h1, _⟩, hg, hw⟩ := h
  intro j hj
  have hd := goodTo_down f _ hg
  refine walk_within f D f.length (f.length - 1) [] (fun j hj => hD j (by omega)) (fun j hj => hd j (by omega)) hl (fun j h => by cases h) j ?_
  rw [hw, List.mem_range]; exact hj
end Go.Proofs.YtagklhfejbdkdaaDoor
namespace Go.Proofs.YtagklhfejbdkdaaDoor
open Go.RowKit
set_option linter.unusedVariables false
set_option linter.unusedSimpArgs false
theorem movedN_congr {T U : Nat → Int} {x : Nd} {n : Nat} (ha : armsOk x n) (h : ∀ j, j < n → T j = U j) : movedN T x = movedN U x := by
  unfold movedN
  have e1 : (if 0 < armsN x.k then T x.a.toNat else x.a) = (if 0 < armsN x.k then U x.a.toNat else x.a) := by
    split
    · next c => exact h _ (by have := ha.1 c; omega)
    · rfl
  have e2 : (if 1 < armsN x.k then T x.b.toNat else x.b) = (if 1 < armsN x.k then U x.b.toNat else x.b) := by
    split
    · next c => exact h _ (by have := ha.2 c; omega)
    · rfl
  rw [e1, e2]
theorem layF_at (g0 f : List Nd) (hg0 : goodTo g0 g0.length = true) (n : Nat) (h : okL f n) : ∀ k, k ≤ n → ∀ j, j < k → ndAt (layF g0 f k).1 ((layF g0 f k).2 j).toNat = movedN (layF g0 f k).2 (ndAt f j)
  | 0, _, j, hj => by omega
  | k + 1, hk, j, hj => by
    have ih := layF_at g0 f hg0 n h k (by omega)
    have hl := laidF_all g0 f hg0 n h k (by omega)
    have hm : movedN (layF g0 f (k + 1)).2 (ndAt f j) = movedN (layF g0 f k).2 (ndAt f j) := movedN_congr (nodeB_arms _ _ (h j (by omega))) (fun i hi => by show (if i = k then _ else _) = _; rw [if_neg (by omega)])
    rw [hm]
    show ndAt (putG _ _) (if j = k then ((plG _ _ : Nat) : Int) else (layF g0 f k).2 j).toNat = _
    by_cases e : j = k
    · subst e; rw [if_pos rfl, Int.toNat_natCast, ndAt_put_at]
    · rw [if_neg e]
      have := hl.to j (by omega)
      rw [ndAt_put _ _ _ (by omega)]
      exact ih j (by omega)
theorem layF_onto (g0 f : List Nd) : ∀ k i, g0.length ≤ i → i < (layF g0 f k).1.length → ∃ j, j < k ∧ (layF g0 f k).2 j = (i : Int)
  | 0, i, h1, h2 => by
    have : (layF g0 f 0).1 = g0 := rfl
    rw [this] at h2; omega
  | k + 1, i, h1, h2 => by
    by_cases h3 : i < (layF g0 f k).1.length
    · obtain ⟨j, hj, e⟩ := layF_onto g0 f k i h1 h3
      exact ⟨j, by omega, by show (if j = k then _ else _) = _; rw [if_neg (by omega)]; exact e⟩
    · refine ⟨k, by omega, ?_⟩
      show (if k = k then ((plG _ _ : Nat) : Int) else _) = _
      rw [if_pos rfl]
      have h2' : i < (putG (layF g0 f k).1 (movedN (layF g0 f k).2 (ndAt f k))).length := h2
      have h4 := putG_len (layF g0 f k).1 (movedN (layF g0 f k).2 (ndAt f k))
      have h6 := plG_le (layF g0 f k).1 (movedN (layF g0 f k).2 (ndAt f k))
      by_cases h5 : plG (layF g0 f k).1 (movedN (layF g0 f k).2 (ndAt f k)) < (layF g0 f k).1.length
      · rw [putG_old h5] at h2'; omega
      · congr 1; omega
/-- Whatever is closed and holds what the whole became, holds all that came in with it. -/
theorem lay_reach (g0 f : List Nd) (hg0 : goodTo g0 g0.length = true) (hr : rightB f = true) (W : Nat → Prop) (hW : ∀ j, j < (layF g0 f f.length).1.length → W j → inArms W (ndAt (layF g0 f f.length).1 j)) (hl : W ((layF g0 f f.length).2 (f.length - 1)).toNat) :
    ∀ i, g0.length ≤ i → i < (layF g0 f f.length).1.length → W i := by
  have hg : goodTo f f.length = true := by unfold rightB at hr; simp only [Bool.and_eq_true] at hr; exact hr.2.1
  have hL : okL f f.length := fun i hi => (goodTo_at f i _ hi hg).1
  have hF := laidF_all g0 f hg0 f.length hL f.length (Nat.le_refl _)
  have hA := layF_at g0 f hg0 f.length hL f.length (Nat.le_refl _)
  have hall := right_all hr (fun j => W ((layF g0 f f.length).2 j).toNat) (fun j hj hD => by
    have ht := hF.to j hj
    have h1 := hW _ (by omega) hD
    rw [hA j hj] at h1
    refine ⟨fun c => ?_, fun c => ?_⟩
    · have h2 := h1.1 c
      have e : (movedN (layF g0 f f.length).2 (ndAt f j)).a = (layF g0 f f.length).2 (ndAt f j).a.toNat := by show (if 0 < armsN (ndAt f j).k then _ else _) = _; rw [if_pos c]
      rw [e] at h2; exact h2
    · have h2 := h1.2 c
      have e : (movedN (layF g0 f f.length).2 (ndAt f j)).b = (layF g0 f f.length).2 (ndAt f j).b.toNat := by show (if 1 < armsN (ndAt f j).k then _ else _) = _; rw [if_pos c]
      rw [e] at h2; exact h2) hl
  intro i h1 h2
  obtain ⟨j, hj, e⟩ := layF_onto g0 f f.length i h1 h2
  have := hall j hj
  simp only [e, Int.toNat_natCast] at this
  exact this
theorem holds_len : ∀ (n : Nat) (l : List Nat), (∀ i, i < n → i ∈ l) → n ≤ l.length
  | 0, _, _ => Nat.zero_le _
  | n + 1, l, h => by
    have hn := h n (by omega)
    have h1 := holds_len n (l.erase n) (fun i hi => (List.mem_erase_of_ne (by omega)).2 (h i (by omega)))
    rw [List.length_erase_of_mem hn] at h1
    have := List.length_pos_of_mem hn
    omega
/-- All of a store is in the part of a node from which all is reached. -/
theorem part_all (g : List Nd) (r : Nat) (h : ∀ i, i < g.length → i ∈ walkF g g.length r []) : g.length ≤ (partG g r).length := by
  unfold partG
  rw [partTo_len]
  exact holds_len _ _ h
end Go.Proofs.YtagklhfejbdkdaaDoor
namespace Go.Proofs.YtagklhfejbdkdaaDoor
open Go.RowKit
set_option linter.unusedVariables false
set_option linter.unusedSimpArgs false
theorem movedN_self {T : Nat → Int} {x : Nd} {n : Nat} (ha : armsOk x n) (h : ∀ j : Nat, j < n → T j = (j : Int)) : movedN T x = x := by
  have e1 : (if 0 < armsN x.k then T x.a.toNat else x.a) = x.a := by
    split
    · next c => have := ha.1 c; rw [h _ (by omega)]; omega
    · rfl
  have e2 : (if 1 < armsN x.k then T x.b.toNat else x.b) = x.b := by
    split
    · next c => have := ha.2 c; rw [h _ (by omega)]; omega
    · rfl
  unfold movedN
  rw [e1, e2]
  rfl
theorem layS_self {f : List Nd} (hg : goodTo f f.length = true) : ∀ k, k ≤ f.length → (layS f k).1 = f.take k ∧ ∀ j : Nat, j < k → (layS f k).2 j = (j : Int)
  | 0, _ => ⟨by simp [layS], fun j hj => by omega⟩
  | k + 1, hk => by
    obtain ⟨h1, h2⟩ := layS_self hg k (by omega)
    obtain ⟨hx, hd⟩ := goodTo_at f k _ (by omega) hg
    have hm : movedN (layS f k).2 (ndAt f k) = ndAt f k := movedN_self (nodeB_arms _ _ hx) h2
    have hl : (f.take k).length = k := by rw [List.length_take]; omega
    have hp : plG (f.take k) (ndAt f k) = k := by
      have := plG_none (g := f.take k) (x := ndAt f k) (fun i hi => by rw [ndAt_take f k i (by omega)]; exact hd i (by omega))
      omega
    constructor
    · show putG (layS f k).1 (movedN (layS f k).2 (ndAt f k)) = _
      rw [hm, h1, putG_new (by rw [hp, hl]; omega), List.take_add_one]
      congr 1
      simp [ndAt, List.getD, List.getElem?_eq_getElem (show k < f.length by omega)]
    · intro j hj
      show (if j = k then ((plG (layS f k).1 (movedN (layS f k).2 (ndAt f k)) : Nat) : Int) else (layS f k).2 j) = _
      rw [hm, h1, hp]
      by_cases e : j = k
      · rw [if_pos e, e]
      · rw [if_neg e]; exact h2 j (by omega)
theorem layS_whole {f : List Nd} (hg : goodTo f f.length = true) (h0 : 0 < f.length) : (layS f f.length).1 = f ∧ (layS f f.length).2 (f.length - 1) = ((f.length - 1 : Nat) : Int) := by
  obtain ⟨h1, h2⟩ := layS_self hg f.length (Nat.le_refl _)
  exact ⟨by rw [h1, List.take_length], h2 _ (by omega)⟩
/-- Not, of a node's place. -/
def notN (a : Nat) : Nd := (3, (a : Int), 0, 0, 0, ⟨#[]⟩)
/-- Not, of a place of a store: the store, and the place. -/
def notG (g : List Nd) (a : Nat) : List Nd × Nat := if (ndAt g a).k = 3 then (g, (ndAt g a).a.toNat) else (putG g (notN a), plG g (notN a))
theorem notN_right {a m : Nat} (h : a < m) : nodeB (notN a) m = true := by
  have e1 : armsN (notN a).k = 1 := show armsN 3 = 1 by decide
  have e2 : (notN a).a = (a : Int) := rfl
  have e3 : (notN a).b = 0 := rfl
  have e4 : (notN a).lo = 0 := rfl
  have e5 : (notN a).hi = 0 := rfl
  have e6 : (notN a).nm = ⟨#[]⟩ := rfl
  have e7 : (notN a).k = 3 := rfl
  simp [nodeB, e1, e2, e3, e4, e5, e6, e7, isB]
  have q1 : emptyB ⟨#[]⟩ = true := by first | rfl | (unfold emptyB; rfl) | (unfold emptyB; decide) | (simp [emptyB, ByteArray.size])
  have q2 : armsN 3 = 1 := by decide
  have q3 : timedB 3 = false := by decide
  refine ⟨q1, by rw [q2, if_pos (by omega)]; omega, Or.inl (by omega), Or.inl q3⟩
theorem notG_good {g : List Nd} {a : Nat} (hg : goodTo g g.length = true) (ha : a < g.length) : goodTo (notG g a).1 (notG g a).1.length = true ∧ (notG g a).2 < (notG g a).1.length ∧ (notG g a).1.length ≤ g.length + 1 := by
  unfold notG
  split
  · next hk =>
    have har := (nodeB_arms _ _ (goodTo_at g a _ ha hg).1).1 (by rw [hk]; decide)
    exact ⟨hg, by show (ndAt g a).a.toNat < g.length; omega, Nat.le_succ _⟩
  · exact ⟨good_put g _ hg (notN_right ha), plG_lt g _, (putG_len g _).2⟩
def ngG (f : List Nd) : List Nd := partG (notG f (f.length - 1)).1 (notG f (f.length - 1)).2
def ngC (f : List Nd) : Int := if 400 < f.length then 2 else if rightB f = true then (if 24 < (ngG f).length then 9 else 0) else 1
def ngF (f : List Nd) : List Nd := if ngC f = 0 then ngG f else []
theorem ngF_no {f : List Nd} {c : Int} (h : ngC f = c) (hc : c ≠ 0) : ngF f = [] := by unfold ngF; rw [h, if_neg hc]
theorem ngF_yes {f : List Nd} (h : ngC f = 0) : ngF f = ngG f := by unfold ngF; rw [if_pos h]
end Go.Proofs.YtagklhfejbdkdaaDoor
namespace Go.Proofs.YtagklhfejbdkdaaDoor
open Go.RowKit
set_option linter.unusedVariables false
set_option linter.unusedSimpArgs false
set_option maxRecDepth 20000 in
set_option maxHeartbeats 1000000 in
theorem notRule_any (kb : Nat) (w : World) :
    Calls Tryd.prog 32 #[.pointer (some ⟨kb, 0, none⟩)] w fun e w' => e = .returned (.func (.func 53) #[] #[.pointer (some ⟨w.heap.size, 0, none⟩)]) ∧ w' = w.alloc (.cells #[.pointer (some ⟨kb, 0, none⟩)] 54) := by
  have hmf : ∀ (fn : Fn) (first cap : Array Value) (w : World), (Instr.makeFunc fn first cap).run Tryd.prog w = .ok (.func fn first cap) w := fun _ _ _ _ => rfl
  go_enter Tryd.func32, Tryd.ntmps32
  go_wp2_with fail
  go_ret
  exact ⟨rfl, rfl⟩
set_option maxRecDepth 20000 in
set_option maxHeartbeats 1000000 in
theorem notLit_any (q kb sb mb base a : Nat) (v : Value) (g : List Nd) (hg : goodTo g g.length = true) (ha : a < g.length) (w : World) (hqz : q < w.heap.size) (hkz : kb < w.heap.size) (hq : w.cell? ⟨q, 0, none⟩ = some (.pointer (some ⟨kb, 0, none⟩))) (hk : w.cell? ⟨kb, 0, none⟩ = some (.pointer (some ⟨sb, 0, none⟩))) (hS : StoreAt w sb mb base v g) :
    Calls Tryd.prog 53 #[ndV (notN a), .pointer (some ⟨q, 0, none⟩)] w fun e w' => e = .returned (.tuple #[.int .i64 (ndAt g a).a, .bool (decide ((ndAt g a).k = 3))]) ∧ Below w.heap.size w w' := by
  have e : ndV (notN a) = .agg #[.int .i64 3, .int .i64 a, .int .i64 0, .int .i64 0, .int .i64 0, .string ⟨#[]⟩] := rfl
  obtain ⟨va, vc, rfl, hvf⟩ := hS.own.form
  obtain ⟨gb, rfl⟩ : ∃ gb, va = some ⟨gb, 0, none⟩ := by
    rcases hvf with rfl | ⟨b, rfl, _, _⟩
    · exfalso
      rcases hS.own.2 with ⟨_, h0⟩ | ⟨q, cp, cu, e, _⟩
      · omega
      · cases e
    · exact ⟨b, rfl⟩
  have hN := hS.own.at
  obtain ⟨n0, n1, n2, n3, n4, n5⟩ := hN.2 a ha
  have hgb := hN.1
  have s0 := hS.cell0
  have hi0 : ((a : Int) * 6).toNat = a * 6 := by omega
  have hsb : sb < w.heap.size := Nat.lt_of_lt_of_le hS.lts hS.ltb
  have HBx := hid (fone w (.cells #[.int .i64 3, .int .i64 a, .int .i64 0, .int .i64 0, .int .i64 0, .string ⟨#[]⟩] 46))
  obtain ⟨x0, x1, x2, x3, x4, x5⟩ := (show NodeAt (w.alloc (.cells #[.int .i64 3, .int .i64 a, .int .i64 0, .int .i64 0, .int .i64 0, .string ⟨#[]⟩] 46)) w.heap.size 0 (3, (a : Int), 0, 0, 0, ⟨#[]⟩) from box_node w (notN a) 46).zero
  have hz0 : w.heap.size < (w.alloc (.cells #[.int .i64 3, .int .i64 a, .int .i64 0, .int .i64 0, .int .i64 0, .string ⟨#[]⟩] 46)).heap.size := by simp
  have q' := (HBx.out.cell (p := ⟨q, 0, none⟩) hqz).trans hq
  have k' := (HBx.out.cell (p := ⟨kb, 0, none⟩) hkz).trans hk
  have s' := (HBx.out.cell (p := ⟨sb, 0, none⟩) hsb).trans s0
  have m0 := (HBx.out.cell (p := ⟨gb, a * 6, none⟩) hgb).trans n0
  have m1 := (HBx.out.cell (p := ⟨gb, a * 6 + 1, none⟩) hgb).trans n1
  have m2 := (HBx.out.cell (p := ⟨gb, a * 6 + 2, none⟩) hgb).trans n2
  have m3 := (HBx.out.cell (p := ⟨gb, a * 6 + 3, none⟩) hgb).trans n3
  have m4 := (HBx.out.cell (p := ⟨gb, a * 6 + 4, none⟩) hgb).trans n4
  have m5 := (HBx.out.cell (p := ⟨gb, a * 6 + 5, none⟩) hgb).trans n5
  rw [e]
  clear e hS hN
  by_cases h3 : (ndAt g a).k = 3
  · rw [h3] at m0
    go_enter Tryd.func53, Tryd.ntmps53
    go_wp2_with fail
    generalize w.alloc (.cells #[.int .i64 3, .int .i64 a, .int .i64 0, .int .i64 0, .int .i64 0, .string ⟨#[]⟩] 46) = W0 at *
    have hzq : q < W0.heap.size := by omega
    have hzk : kb < W0.heap.size := by omega
    have hzs : sb < W0.heap.size := by omega
    have hzg : gb < W0.heap.size := by omega
    have HBz := hid (fone W0 (.cells #[.int .i64 0, .int .i64 0, .int .i64 0, .int .i64 0, .int .i64 0, .string ⟨#[]⟩] 46))
    have zq := (HBz.out.cell (p := ⟨q, 0, none⟩) hzq).trans q'
    have zk := (HBz.out.cell (p := ⟨kb, 0, none⟩) hzk).trans k'
    have zs := (HBz.out.cell (p := ⟨sb, 0, none⟩) hzs).trans s'
    have z0 := (HBz.out.cell (p := ⟨gb, a * 6, none⟩) hzg).trans m0
    have z1 := (HBz.out.cell (p := ⟨gb, a * 6 + 1, none⟩) hzg).trans m1
    have z2 := (HBz.out.cell (p := ⟨gb, a * 6 + 2, none⟩) hzg).trans m2
    have z3 := (HBz.out.cell (p := ⟨gb, a * 6 + 3, none⟩) hzg).trans m3
    have z4 := (HBz.out.cell (p := ⟨gb, a * 6 + 4, none⟩) hzg).trans m4
    have z5 := (HBz.out.cell (p := ⟨gb, a * 6 + 5, none⟩) hzg).trans m5
    have zx := (HBz.out.cell (p := ⟨w.heap.size, 1, none⟩) hz0).trans x1
    go_region
    all_goals
      go_wp2_with fail
      go_region
      all_goals
        go_wp2_with fail
        go_ret2
        exact ⟨by first | rfl | simp [h3], HBx.out.trans (Below.mono (B := W0.heap.size) (by repeat (first | exact fone W0 _ | exact Below.refl _ _ | refine below_dr ?_)) (by omega))⟩
  · go_enter Tryd.func53, Tryd.ntmps53
    go_wp2_with fail
    generalize w.alloc (.cells #[.int .i64 3, .int .i64 a, .int .i64 0, .int .i64 0, .int .i64 0, .string ⟨#[]⟩] 46) = W0 at *
    have hzq : q < W0.heap.size := by omega
    have hzk : kb < W0.heap.size := by omega
    have hzs : sb < W0.heap.size := by omega
    have hzg : gb < W0.heap.size := by omega
    have HBz := hid (fone W0 (.cells #[.int .i64 0, .int .i64 0, .int .i64 0, .int .i64 0, .int .i64 0, .string ⟨#[]⟩] 46))
    have zq := (HBz.out.cell (p := ⟨q, 0, none⟩) hzq).trans q'
    have zk := (HBz.out.cell (p := ⟨kb, 0, none⟩) hzk).trans k'
    have zs := (HBz.out.cell (p := ⟨sb, 0, none⟩) hzs).trans s'
    have z0 := (HBz.out.cell (p := ⟨gb, a * 6, none⟩) hzg).trans m0
    have z1 := (HBz.out.cell (p := ⟨gb, a * 6 + 1, none⟩) hzg).trans m1
    have z2 := (HBz.out.cell (p := ⟨gb, a * 6 + 2, none⟩) hzg).trans m2
    have z3 := (HBz.out.cell (p := ⟨gb, a * 6 + 3, none⟩) hzg).trans m3
    have z4 := (HBz.out.cell (p := ⟨gb, a * 6 + 4, none⟩) hzg).trans m4
    have z5 := (HBz.out.cell (p := ⟨gb, a * 6 + 5, none⟩) hzg).trans m5
    have zx := (HBz.out.cell (p := ⟨w.heap.size, 1, none⟩) hz0).trans x1
    go_region
    all_goals
      go_wp2_with fail
      go_region
      all_goals
        go_wp2_with fail
        go_ret2
        exact ⟨by first | rfl | simp [h3], HBx.out.trans (Below.mono (B := W0.heap.size) (by repeat (first | exact fone W0 _ | exact Below.refl _ _ | refine below_dr ?_)) (by omega))⟩
end Go.Proofs.YtagklhfejbdkdaaDoor
namespace Go.Proofs.YtagklhfejbdkdaaDoor
open Go.RowKit
set_option linter.unusedVariables false
set_option linter.unusedSimpArgs false
theorem fone' (w : World) (o : Obj) : Below w.heap.size w (w.alloc o) := (Below.refl _ _).alloc (Nat.le_refl _) o
set_option maxRecDepth 20000 in
set_option maxHeartbeats 1000000 in
theorem add_full (x : Nd) (hx : ndOk x) (g : List Nd) (sb mb base : Nat) (v : Value) (w : World) (hS : StoreAt w sb mb base v g) (hlen : g.length = 24) (ev : Value) (hev : w.cell? ⟨0, 0, none⟩ = some ev) (hel : 0 < w.heap.size) (hu : ∀ i, i < g.length → ndAt g i ≠ x) :
    Calls Tryd.prog 62 #[.pointer (some ⟨sb, 0, none⟩), ndV x] w fun e w' => e = .returned (.tuple #[.int .i64 0, ev]) ∧ Below w.heap.size w w' := by
  have hsb : sb < w.heap.size := Nat.lt_of_lt_of_le hS.lts hS.ltb
  have i1 := placesD_none g x hx g.length hS.ok hu
  have hl : ∀ m, Sem.run Tryd.prog (Instr.lookup 78 (.map (some mb)) (.agg #[.int .i64 x.k, .int .i64 x.a, .int .i64 x.b, .int .i64 x.lo, .int .i64 x.hi, .string x.nm]) true) ((w.alloc (.cells #[.int .i64 x.k, .int .i64 x.a, .int .i64 x.b, .int .i64 x.lo, .int .i64 x.hi, .string x.nm] 46)).drewN m) = .ok (.tuple #[.int .i64 0, .bool false]) ((w.alloc (.cells #[.int .i64 x.k, .int .i64 x.a, .int .i64 x.b, .int .i64 x.lo, .int .i64 x.hi, .string x.nm] 46)).drewN m) := by
    intro m
    obtain ⟨c, hc, hr⟩ := look_node (ownsMap_drewN (hS.map.alloc (.cells #[.int .i64 x.k, .int .i64 x.a, .int .i64 x.b, .int .i64 x.lo, .int .i64 x.hi, .string x.nm] 46)) m) x hx
    rw [i1] at hr
    rw [Maps.atKey_of_not_has i1] at hc
    simp at hc
    subst hc
    exact hr
  have HS0 := hid hS
  have i24 : ¬ (g.length : Int) < 24 := by omega
  have i24' : (g.length : Int) ≥ 24 := by omega
  have c1 := hS.cell1
  have HBX := hid (box_node w x 46)
  clear hS i1
  unfold ndV
  go_enter Tryd.func62, Tryd.ntmps62
  go_wp2
  go_quiet (fail)
  have HS1 : Hid (StoreAt ((w.alloc (.cells #[.int .i64 x.k, .int .i64 x.a, .int .i64 x.b, .int .i64 x.lo, .int .i64 x.hi, .string x.nm] 46)).drewN nq) sb mb base v g) := HS0.out.save (S := fun _ => False) (((Save.refl w _).alloc _).drewN _) (fun _ _ h => h)
  have HV1 : Hid (Save w ((w.alloc (.cells #[.int .i64 x.k, .int .i64 x.a, .int .i64 x.b, .int .i64 x.lo, .int .i64 x.hi, .string x.nm] 46)).drewN nq) (StoreS sb mb v)) := (((Save.refl w _).alloc _).drewN _)
  have HN1 : Hid (NodeAt ((w.alloc (.cells #[.int .i64 x.k, .int .i64 x.a, .int .i64 x.b, .int .i64 x.lo, .int .i64 x.hi, .string x.nm] 46)).drewN nq) w.heap.size 0 x) := ⟨HBX.out.c0, HBX.out.c1, HBX.out.c2, HBX.out.c3, HBX.out.c4, HBX.out.c5⟩
  have hz1 : w.heap.size < ((w.alloc (.cells #[.int .i64 x.k, .int .i64 x.a, .int .i64 x.b, .int .i64 x.lo, .int .i64 x.hi, .string x.nm] 46)).drewN nq).heap.size := by simp
  have b0 := fone' w (.cells #[.int .i64 x.k, .int .i64 x.a, .int .i64 x.b, .int .i64 x.lo, .int .i64 x.hi, .string x.nm] 46)
  have HE1 := (by simpa [go_sem] using ((fone' w (.cells #[.int .i64 x.k, .int .i64 x.a, .int .i64 x.b, .int .i64 x.lo, .int .i64 x.hi, .string x.nm] 46)).cell (p := ⟨0, 0, none⟩) hel).trans hev : ((w.alloc (.cells #[.int .i64 x.k, .int .i64 x.a, .int .i64 x.b, .int .i64 x.lo, .int .i64 x.hi, .string x.nm] 46)).drewN nq).cell? ⟨0, 0, none⟩ = some ev)
  have HB1 : Hid (Below w.heap.size w ((w.alloc (.cells #[.int .i64 x.k, .int .i64 x.a, .int .i64 x.b, .int .i64 x.lo, .int .i64 x.hi, .string x.nm] 46)).drewN nq)) := ⟨b0.os, b0.tape, b0.output, b0.size, b0.block⟩
  generalize ((w.alloc (.cells #[.int .i64 x.k, .int .i64 x.a, .int .i64 x.b, .int .i64 x.lo, .int .i64 x.hi, .string x.nm] 46)).drewN nq) = w1 at *
  clear hl c1
  have c0 := HS1.out.cell0
  have c1 := HS1.out.cell1
  have c2 := HS1.out.cell2
  obtain ⟨va, vc, hv, hvf⟩ := HS1.out.own.form
  rw [hv] at c0
  go_wp2
  go_quiet (fail)
  have HS2 : Hid (StoreAt (w1.drewN nq) sb mb base v g) := HS1.out.save (S := fun _ => False) ((Save.refl w1 _).drewN _) (fun _ _ h => h)
  have HV2 : Hid (Save w (w1.drewN nq) (StoreS sb mb v)) := HV1.out.drewN _
  have HN2 : Hid (NodeAt (w1.drewN nq) w.heap.size 0 x) := ⟨HN1.out.c0, HN1.out.c1, HN1.out.c2, HN1.out.c3, HN1.out.c4, HN1.out.c5⟩
  have hz2 : w.heap.size < (w1.drewN nq).heap.size := hz1
  go_wp2
  go_region
  all_goals
    go_wp2
    go_ret2
    exact ⟨rfl, by repeat (first | exact HB1.out | refine Below.drew ?_ | exact ⟨HB1.out.os, HB1.out.tape, HB1.out.output, HB1.out.size, HB1.out.block⟩)⟩
end Go.Proofs.YtagklhfejbdkdaaDoor
namespace Go.Proofs.YtagklhfejbdkdaaDoor
open Go.RowKit
set_option linter.unusedVariables false
set_option linter.unusedSimpArgs false
/-- A maker with the one rule lies in a block: its nodes are g. -/
structure RuleAt (w : World) (kb sb mb lb qb base : Nat) (v : Value) (g : List Nd) : Prop where
  st : StoreAt w sb mb base v g
  ltk : kb < base
  n1 : kb ≠ sb
  n2 : kb ≠ mb
  k0 : w.cell? ⟨kb, 0, none⟩ = some (.pointer (some ⟨sb, 0, none⟩))
  k1 : w.cell? ⟨kb, 1, none⟩ = some (.slice (some ⟨lb, 0, none⟩) 1 1)
  k2 : w.cell? ⟨kb, 2, none⟩ = some .nilIface
  kf : w.frozen? ⟨kb, 2, none⟩ = false
  l0 : w.cell? ⟨lb, 0, none⟩ = some (.func (.func 53) #[] #[.pointer (some ⟨qb, 0, none⟩)])
  q0 : w.cell? ⟨qb, 0, none⟩ = some (.pointer (some ⟨kb, 0, none⟩))
  ll : lb < w.heap.size
  lq : qb < w.heap.size
theorem RuleAt.ltw {w : World} {kb sb mb lb qb base : Nat} {v : Value} {g : List Nd} (h : RuleAt w kb sb mb lb qb base v g) : kb < w.heap.size := Nat.lt_of_lt_of_le h.ltk h.st.ltb
theorem RuleAt.on {w w' : World} {kb sb mb lb qb base : Nat} {v : Value} {g : List Nd} (h : RuleAt w kb sb mb lb qb base v g) (hb : Below w.heap.size w w') : RuleAt w' kb sb mb lb qb base v g :=
  ⟨h.st.save (S := fun _ => False) (Save.of_below hb _ (fun j h1 h2 => absurd h1 (by omega))) (fun _ _ h => h), h.ltk, h.n1, h.n2, (hb.cell (p := ⟨kb, _, none⟩) h.ltw).trans h.k0, (hb.cell (p := ⟨kb, _, none⟩) h.ltw).trans h.k1, (hb.cell (p := ⟨kb, _, none⟩) h.ltw).trans h.k2, (hb.frozen (p := ⟨kb, _, none⟩) h.ltw).trans h.kf, (hb.cell (p := ⟨lb, _, none⟩) h.ll).trans h.l0, (hb.cell (p := ⟨qb, _, none⟩) h.lq).trans h.q0, Nat.lt_of_lt_of_le h.ll hb.size, Nat.lt_of_lt_of_le h.lq hb.size⟩
theorem notN_okI (a : Nat) (h : a ≤ 1000) : ndOk (notN a) := by
  unfold notN
  refine ⟨?_, ?_, ?_, ?_, ?_, ?_⟩ <;> first | (show (ByteArray.mk #[]).size ≤ maxLen; unfold maxLen; decide) | (simp [Nd.k, Nd.a, Nd.b, Nd.lo, Nd.hi, Nd.nm] <;> omega)
/-- What put of a not leaves: the store, the place. -/
theorem notG_old {g : List Nd} {a : Nat} (hg : goodTo g g.length = true) (ha : a < g.length) (h3 : (ndAt g a).k = 3) : (notG g a).1 = g ∧ (((notG g a).2 : Nat) : Int) = (ndAt g a).a := by
  have har := (nodeB_arms _ _ (goodTo_at g a _ ha hg).1).1 (by rw [h3]; decide)
  unfold notG
  rw [if_pos h3]
  exact ⟨rfl, by show (((ndAt g a).a.toNat : Nat) : Int) = _; omega⟩
theorem ndO_w (w : World) (a : Nat) (t : TypeId) : ∀ V, Below w.heap.size (w.alloc (.cells #[.int .i64 3, .int .i64 a, .int .i64 0, .int .i64 0, .int .i64 0, .string ⟨#[]⟩] t)) V → True := fun _ _ => trivial
set_option maxRecDepth 20000 in
set_option maxHeartbeats 4000000 in
theorem rput_old (g : List Nd) (hg : goodTo g g.length = true) (a : Nat) (ha : a < g.length) (h3 : (ndAt g a).k = 3) (kb sb mb lb qb base : Nat) (v : Value) (w : World) (hM : RuleAt w kb sb mb lb qb base v g) :
    Calls Tryd.prog 44 #[.pointer (some ⟨kb, 0, none⟩), ndV (notN a)] w fun e w' => e = .returned (.int .i64 (ndAt g a).a) ∧ Below w.heap.size w w' := by
  have HB0 := hid (fone w (.cells #[.int .i64 3, .int .i64 a, .int .i64 0, .int .i64 0, .int .i64 0, .string ⟨#[]⟩] 46))
  have HM0 := hid (hM.on HB0.out)
  have HU : Hid (ndV (notN a) = .agg #[.int .i64 3, .int .i64 a, .int .i64 0, .int .i64 0, .int .i64 0, .string ⟨#[]⟩]) := rfl
  have HL := hid (fun w hqz hkz hq hk hS => notLit_any qb kb sb mb base a v g hg ha w hqz hkz hq hk hS)
  rw [HU.out] at HL ⊢
  simp only [h3] at HL
  have hz0 : w.heap.size < (w.alloc (.cells #[.int .i64 3, .int .i64 a, .int .i64 0, .int .i64 0, .int .i64 0, .string ⟨#[]⟩] 46)).heap.size := by simp
  obtain ⟨x0, x1, x2, x3, x4, x5⟩ := (show NodeAt (w.alloc (.cells #[.int .i64 3, .int .i64 a, .int .i64 0, .int .i64 0, .int .i64 0, .string ⟨#[]⟩] 46)) w.heap.size 0 (3, (a : Int), 0, 0, 0, ⟨#[]⟩) from box_node w (notN a) 46).zero
  generalize (ndAt g a).a = r at *
  clear hM hg h3
  go_enter Tryd.func44, Tryd.ntmps44
  have c1 := HM0.out.k1
  go_wp2_with fail
  generalize w.alloc (.cells #[.int .i64 3, .int .i64 a, .int .i64 0, .int .i64 0, .int .i64 0, .string ⟨#[]⟩] 46) = W0 at *
  go_loopw [16] (fun t wr => t = .int .i64 0 ∧ wr = W0) (fun _ _ => 0)
  case atStart => exact ⟨rfl, rfl⟩
  case round =>
    obtain ⟨rfl, rfl⟩ := hrel
    have l0 := HM0.out.l0
    go_wp2_with (go_at_call 53; refine (HL.out _ HM0.out.lq HM0.out.ltw HM0.out.q0 HM0.out.k0 HM0.out.st).mono ?_; rintro e w2 ⟨rfl, hb2⟩; have HB2 := hid (HB0.out.trans (hb2.mono HB0.out.size)); clear hb2)
    go_ret
    exact ⟨rfl, HB2.out⟩
set_option maxRecDepth 20000 in
set_option maxHeartbeats 4000000 in
theorem rput_new (g : List Nd) (hg : goodTo g g.length = true) (a : Nat) (ha : a < g.length) (h3 : ¬ (ndAt g a).k = 3) (hlen : g.length < 24) (kb sb mb lb qb base : Nat) (v : Value) (hlv : ¬ StoreS sb mb v lb) (hqv : ¬ StoreS sb mb v qb) (hlk : lb ≠ kb) (hqk : qb ≠ kb) (w : World) (hM : RuleAt w kb sb mb lb qb base v g) :
    Calls Tryd.prog 44 #[.pointer (some ⟨kb, 0, none⟩), ndV (notN a)] w fun e w' => e = .returned (.int .i64 (plG g (notN a) : Nat)) ∧ ∃ v', RuleAt w' kb sb mb lb qb base v' (putG g (notN a)) ∧ Save w w' (StoreS sb mb v) := by
  have HB0 := hid (fone w (.cells #[.int .i64 3, .int .i64 a, .int .i64 0, .int .i64 0, .int .i64 0, .string ⟨#[]⟩] 46))
  have HM0 := hid (hM.on HB0.out)
  have HU : Hid (ndV (notN a) = .agg #[.int .i64 3, .int .i64 a, .int .i64 0, .int .i64 0, .int .i64 0, .string ⟨#[]⟩]) := rfl
  have HL := hid (fun w hqz hkz hq hk hS => notLit_any qb kb sb mb base a v g hg ha w hqz hkz hq hk hS)
  have hx := notN_okI a (by omega)
  have HAd : Hid (∀ w', RuleAt w' kb sb mb lb qb base v g → Calls Tryd.prog 62 #[.pointer (some ⟨sb, 0, none⟩), ndV (notN a)] w' fun e w'' => e = .returned (.tuple #[.int .i64 (plG g (notN a) : Nat), .nilIface]) ∧ ∃ v', StoreAt w'' sb mb base v' (putG g (notN a)) ∧ Save w' w'' (StoreS sb mb v)) := fun w' h => by
    by_cases hp : plG g (notN a) < g.length
    · refine (add_old (notN a) hx g sb mb base v w' h.st (plG g (notN a)) hp (plG_at hp) (fun i h1 h2 e => ?_)).mono ?_
      · exact good_apart hg (plG g (notN a)) i h1 h2 ((plG_at hp).trans e.symm)
      · rintro e w'' ⟨rfl, hb⟩
        have hs : Save w' w'' (fun _ => False) := Save.of_below hb _ (fun j h1 h2 => absurd h1 (by omega))
        exact ⟨rfl, v, by rw [putG_old hp]; exact h.st.save hs (fun _ _ h => h), hs.mono (fun _ _ h => h.elim)⟩
    · have h3 : plG g (notN a) = g.length := by have := plG_le g (notN a); omega
      refine (add_new (notN a) hx g sb mb base v w' h.st hlen (fun i hi => plG_new hp i hi)).mono ?_
      rintro e w'' ⟨rfl, v', hst, hs, hv⟩
      exact ⟨by rw [h3], v', by rw [putG_new hp]; exact hst, hs⟩
  rw [HU.out] at HL HAd ⊢
  have hd : decide ((ndAt g a).k = 3) = false := by simpa using h3
  rw [hd] at HL
  have hz0 : w.heap.size < (w.alloc (.cells #[.int .i64 3, .int .i64 a, .int .i64 0, .int .i64 0, .int .i64 0, .string ⟨#[]⟩] 46)).heap.size := by simp
  have HX := hid (show NodeAt (w.alloc (.cells #[.int .i64 3, .int .i64 a, .int .i64 0, .int .i64 0, .int .i64 0, .string ⟨#[]⟩] 46)) w.heap.size 0 (3, (a : Int), 0, 0, 0, ⟨#[]⟩) from box_node w (notN a) 46)
  generalize (ndAt g a).a = r at *
  generalize plG g (notN a) = P at *
  generalize putG g (notN a) = G at *
  clear hM hg h3 hd hx
  go_enter Tryd.func44, Tryd.ntmps44
  have c1 := HM0.out.k1
  go_wp2_with fail
  generalize w.alloc (.cells #[.int .i64 3, .int .i64 a, .int .i64 0, .int .i64 0, .int .i64 0, .string ⟨#[]⟩] 46) = W0 at *
  go_loopw [16] (fun t wr => (t = .int .i64 0 ∨ t = .int .i64 1) ∧ Below W0.heap.size W0 wr) (fun t _ => 1 - (intOf t).toNat)
  case atStart => exact ⟨Or.inl rfl, Below.refl _ _⟩
  case round =>
    obtain ⟨ht, hbel⟩ := hrel
    have HB := hid hbel
    have HMr := hid (HM0.out.on hbel)
    have hzr : w.heap.size < wr.heap.size := Nat.lt_of_lt_of_le hz0 hbel.size
    obtain ⟨x0, x1, x2, x3, x4, x5⟩ := (show NodeAt wr w.heap.size 0 (3, (a : Int), 0, 0, 0, ⟨#[]⟩) from HX.out.below hbel hz0).zero
    have l0 := HMr.out.l0
    clear hbel
    rcases ht with rfl | rfl
    · go_wp2_with (go_at_call 53; refine (HL.out _ HMr.out.lq HMr.out.ltw HMr.out.q0 HMr.out.k0 HMr.out.st).mono ?_; rintro e w2 ⟨rfl, hb2⟩; have HB2 := hid (HB.out.trans (hb2.mono HB.out.size)); clear hb2)
      go_roundw
      case rel => exact ⟨Or.inr rfl, HB2.out⟩
      case measure => simp [intOf]
    · have k0 := HMr.out.k0
      have k2 := HMr.out.k2
      go_wp2_with fail
      have HMd : Hid (∀ W, Save wr W (fun _ => False) → RuleAt W kb sb mb lb qb base v g) := fun W h => HMr.out.on (h.below (Nat.le_refl _) (fun j hj => hj.elim))
      go_region_with (go_at_call 62; refine (HAd.out _ (HMd.out _ (by repeat (first | exact Save.refl _ _ | refine Save.drew ?_)))).mono ?_; rintro e w2 ⟨rfl, v', hst, hs2⟩; have HSt := hid hst; have HS2 := hid hs2; clear hst hs2)
      all_goals
        have hkn : ¬ StoreS sb mb v kb := by
          rintro (h | h | h)
          · exact HMr.out.n1 h
          · exact HMr.out.n2 h
          · have := (World.ownsRow.lt HMr.out.st.own _ h).1; have := HMr.out.ltk; omega
        have hkw : kb < wr.heap.size := HMr.out.ltw
        have hz3 : wr.heap.size ≤ w2.heap.size := HS2.out.size
        go_wp2_with fail
        go_ret
        exact ⟨rfl, v', ⟨HSt.out, HMr.out.ltk, HMr.out.n1, HMr.out.n2, (HS2.out.cell (p := ⟨kb, 0, none⟩) hkw hkn).trans HMr.out.k0, (HS2.out.cell (p := ⟨kb, 1, none⟩) hkw hkn).trans HMr.out.k1, (HS2.out.cell (p := ⟨kb, 2, none⟩) hkw hkn).trans HMr.out.k2, (HS2.out.frozen (p := ⟨kb, 2, none⟩) hkw hkn).trans HMr.out.kf, (HS2.out.cell (p := ⟨lb, 0, none⟩) HMr.out.ll hlv).trans HMr.out.l0, (HS2.out.cell (p := ⟨qb, 0, none⟩) HMr.out.lq hqv).trans HMr.out.q0, Nat.lt_of_lt_of_le HMr.out.ll hz3, Nat.lt_of_lt_of_le HMr.out.lq hz3⟩, (Save.of_below (HB0.out.trans (HB.out.mono (Nat.le_of_lt hz0))) (StoreS sb mb v) (fun j h1 h2 => absurd h1 (by omega))).drew.trans HS2.out⟩
end Go.Proofs.YtagklhfejbdkdaaDoor
namespace Go.Proofs.YtagklhfejbdkdaaDoor
open Go.RowKit
set_option linter.unusedVariables false
set_option linter.unusedSimpArgs false
theorem enil_ne (eu : TypeId) (pv : Value) (w : World) : Sem.run Tryd.prog (binOp .neq 62 (.iface eu pv) .nilIface) w = .ok (.bool true) w := by kernel_rfl
theorem enil_g (eu : TypeId) (pv : Value) (x y : Operand) (w : World) : Sem.run Tryd.prog (eqGuard .neq 62 x y (.iface eu pv) .nilIface) w = .ok () w := by kernel_rfl
set_option maxRecDepth 20000 in
set_option maxHeartbeats 4000000 in
theorem rput_full (g : List Nd) (hg : goodTo g g.length = true) (a : Nat) (ha : a < g.length) (h3 : ¬ (ndAt g a).k = 3) (hlen : g.length = 24) (w : World) (hp : ¬ plG g (notN a) < g.length) (eu : TypeId) (pv : Value) (hev : w.cell? ⟨0, 0, none⟩ = some (.iface eu pv)) (hel : 0 < w.heap.size) (kb sb mb lb qb base : Nat) (v : Value)  (hM : RuleAt w kb sb mb lb qb base v g) :
    Calls Tryd.prog 44 #[.pointer (some ⟨kb, 0, none⟩), ndV (notN a)] w fun e w' => e = .returned (.int .i64 0) ∧ w'.cell? ⟨kb, 2, none⟩ = some (.iface eu pv) ∧ Save w w' (fun j => j = kb) := by
  have HB0 := hid (fone w (.cells #[.int .i64 3, .int .i64 a, .int .i64 0, .int .i64 0, .int .i64 0, .string ⟨#[]⟩] 46))
  have HM0 := hid (hM.on HB0.out)
  have HU : Hid (ndV (notN a) = .agg #[.int .i64 3, .int .i64 a, .int .i64 0, .int .i64 0, .int .i64 0, .string ⟨#[]⟩]) := rfl
  have HL := hid (fun w hqz hkz hq hk hS => notLit_any qb kb sb mb base a v g hg ha w hqz hkz hq hk hS)
  have hx := notN_okI a (by omega)
  have HE := hid (fun w' (h : Below w.heap.size w w') => (h.cell (p := ⟨0, 0, none⟩) hel).trans hev)
  have HAd : Hid (∀ w', RuleAt w' kb sb mb lb qb base v g → Below w.heap.size w w' → Calls Tryd.prog 62 #[.pointer (some ⟨sb, 0, none⟩), ndV (notN a)] w' fun e w'' => e = .returned (.tuple #[.int .i64 0, .iface eu pv]) ∧ Below w'.heap.size w' w'') := fun w' h hbl => add_full (notN a) hx g sb mb base v w' h.st hlen _ (HE.out w' hbl) (Nat.lt_of_lt_of_le hel hbl.size) (fun i hi => plG_new hp i hi)
  rw [HU.out] at HL HAd ⊢
  have hd : decide ((ndAt g a).k = 3) = false := by simpa using h3
  rw [hd] at HL
  have hz0 : w.heap.size < (w.alloc (.cells #[.int .i64 3, .int .i64 a, .int .i64 0, .int .i64 0, .int .i64 0, .string ⟨#[]⟩] 46)).heap.size := by simp
  have HX := hid (show NodeAt (w.alloc (.cells #[.int .i64 3, .int .i64 a, .int .i64 0, .int .i64 0, .int .i64 0, .string ⟨#[]⟩] 46)) w.heap.size 0 (3, (a : Int), 0, 0, 0, ⟨#[]⟩) from box_node w (notN a) 46)
  generalize (ndAt g a).a = r at *
  clear hM hg h3 hd hx hp hev HE
  go_enter Tryd.func44, Tryd.ntmps44
  have c1 := HM0.out.k1
  go_wp2_with fail
  generalize w.alloc (.cells #[.int .i64 3, .int .i64 a, .int .i64 0, .int .i64 0, .int .i64 0, .string ⟨#[]⟩] 46) = W0 at *
  go_loopw [16] (fun t wr => (t = .int .i64 0 ∨ t = .int .i64 1) ∧ Below W0.heap.size W0 wr) (fun t _ => 1 - (intOf t).toNat)
  case atStart => exact ⟨Or.inl rfl, Below.refl _ _⟩
  case round =>
    obtain ⟨ht, hbel⟩ := hrel
    have HB := hid hbel
    have HMr := hid (HM0.out.on hbel)
    have hzr : w.heap.size < wr.heap.size := Nat.lt_of_lt_of_le hz0 hbel.size
    obtain ⟨x0, x1, x2, x3, x4, x5⟩ := (show NodeAt wr w.heap.size 0 (3, (a : Int), 0, 0, 0, ⟨#[]⟩) from HX.out.below hbel hz0).zero
    have l0 := HMr.out.l0
    clear hbel
    rcases ht with rfl | rfl
    · go_wp2_with (go_at_call 53; refine (HL.out _ HMr.out.lq HMr.out.ltw HMr.out.q0 HMr.out.k0 HMr.out.st).mono ?_; rintro e w2 ⟨rfl, hb2⟩; have HB2 := hid (HB.out.trans (hb2.mono HB.out.size)); clear hb2)
      go_roundw
      case rel => exact ⟨Or.inr rfl, HB2.out⟩
      case measure => simp [intOf]
    · have k0 := HMr.out.k0
      have k2 := HMr.out.k2
      go_wp2_with fail
      have HBw := hid (HB0.out.trans (HB.out.mono (Nat.le_of_lt hz0)))
      have HMd : Hid (∀ W, Save wr W (fun _ => False) → RuleAt W kb sb mb lb qb base v g) := fun W h => HMr.out.on (h.below (Nat.le_refl _) (fun j hj => hj.elim))
      have HBd : Hid (∀ W, Save wr W (fun _ => False) → Below w.heap.size w W) := fun W h => HBw.out.trans (h.below (Nat.le_of_lt hzr) (fun j hj => hj.elim))
      have hkw : kb < wr.heap.size := HMr.out.ltw
      go_region_with (go_at_call 62; refine (HAd.out _ (HMd.out _ (by repeat (first | exact Save.refl _ _ | refine Save.drew ?_))) (HBd.out _ (by repeat (first | exact Save.refl _ _ | refine Save.drew ?_)))).mono ?_; rintro e w2 ⟨rfl, hb3⟩; have HB3 := hid hb3; clear hb3)
      all_goals
        have k2' := (HB3.out.cell (p := ⟨kb, 2, none⟩) hkw).trans k2
        have kf' := (HB3.out.frozen (p := ⟨kb, 2, none⟩) hkw).trans HMr.out.kf
        have hn1 := enil_ne eu pv
        have hn2 := enil_g eu pv
        go_wp2_with fail
        go_ret
        refine ⟨rfl, ?_, ?_⟩
        · simp [go_sem, k2', kf']
        · exact ((Save.of_below HBw.out (fun j => j = kb) (fun j h1 h2 => absurd h1 (by omega))).drew.trans (Save.of_below HB3.out (fun j => j = kb) (fun j h1 h2 => absurd h1 (by omega)))).setCell (fun _ => rfl) _
set_option maxRecDepth 20000 in
set_option maxHeartbeats 1000000 in
theorem rnot_any (kb a : Nat) (r : Int) (R : World → Prop) (w : World) (h : Calls Tryd.prog 44 #[.pointer (some ⟨kb, 0, none⟩), ndV (notN a)] w fun e w' => e = .returned (.int .i64 r) ∧ R w') :
    Calls Tryd.prog 43 #[.pointer (some ⟨kb, 0, none⟩), .int .i64 a] w fun e w' => e = .returned (.int .i64 r) ∧ R w' := by
  have HU : Hid (ndV (notN a) = .agg #[.int .i64 3, .int .i64 a, .int .i64 0, .int .i64 0, .int .i64 0, .string ⟨#[]⟩]) := rfl
  rw [HU.out] at h
  have H := hid h
  clear h
  go_enter Tryd.func43, Tryd.ntmps43
  go_wp2_with (go_at_call 44; refine H.out.mono ?_; rintro e w1 ⟨rfl, hr⟩; have HR := hid hr; clear hr)
  go_ret
  exact ⟨rfl, HR.out⟩
set_option maxRecDepth 20000 in
set_option maxHeartbeats 1000000 in
theorem rtold_full (kb : Nat) (i : Int) (eu : TypeId) (pv : Value) (w : World) (hkz : kb < w.heap.size) (hk2 : w.cell? ⟨kb, 2, none⟩ = some (.iface eu pv)) :
    Calls Tryd.prog 37 #[.pointer (some ⟨kb, 0, none⟩), .int .i64 i] w fun e w' => e = .returned (.agg #[.slice none 0 0, .int .i64 9]) ∧ Below w.heap.size w w' := by
  have HB0 := hid (fone w (.cells #[.slice none 0 0, .int .i64 0] 26))
  have c2 := (HB0.out.cell (p := ⟨kb, 2, none⟩) hkz).trans hk2
  have hn1 := enil_ne eu pv
  have hn2 := enil_g eu pv
  obtain ⟨hq0, o0, o1⟩ := (foz w).1
  obtain ⟨g0, g1⟩ := (foz w).2
  go_enter Tryd.func37, Tryd.ntmps37
  go_wp2_with fail
  refine bodyPost_ret (v := .agg #[.slice none 0 0, .int .i64 9]) (by simp [results, Tryd.results37, go_sem, o0, o1, g0, g1]) rfl ?_
  exact ⟨rfl, fone w _⟩
set_option maxRecDepth 20000 in
set_option maxHeartbeats 4000000 in
theorem rtold_any (g : List Nd) (hg : goodTo g g.length = true) (i : Nat) (hi : i < g.length) (F : List Nd) (hF : partG g i = F) (kb sb mb lb qb base : Nat) (v : Value) (w : World) (hM : RuleAt w kb sb mb lb qb base v g) :
    Calls Tryd.prog 37 #[.pointer (some ⟨kb, 0, none⟩), .int .i64 i] w fun e w' => ∃ fa fc, e = .returned (.agg #[.slice fa F.length fc, .int .i64 0]) ∧ NsA w' fa F ∧ RowA w' fa F.length ∧ (∀ q, fa = some q → q = ⟨q.block, 0, none⟩ ∧ w.heap.size ≤ q.block ∧ q.block < w'.heap.size) ∧ Below w.heap.size w w' := by
  have hl := hM.st.le
  have hFl : F.length ≤ 24 := by rw [← hF]; have := partG_len hg hi; omega
  have HB0 := hid (fone w (.cells #[.slice none 0 0, .int .i64 0] 26))
  have HX0 := hid (foz w).1
  have HG0 := hid (foz w).2
  have HM0 := hid (hM.on HB0.out)
  have hkb : kb < w.heap.size := Nat.lt_of_lt_of_le hM.ltk hM.st.ltb
  have hsb : sb < w.heap.size := Nat.lt_of_lt_of_le hM.st.lts hM.st.ltb
  obtain ⟨va, vc, rfl, hvf⟩ := hM.st.own.form
  obtain ⟨gb, rfl⟩ : ∃ gb, va = some ⟨gb, 0, none⟩ := by
    rcases hvf with rfl | ⟨b, rfl, _, _⟩
    · exfalso
      rcases hM.st.own.2 with ⟨_, h0⟩ | ⟨q, cp, cu, e, _⟩
      · omega
      · cases e
    · exact ⟨b, rfl⟩
  have HPt := hid (partAt_good g gb vc i _ HM0.out.st.own.at ⟨by omega, hl, hg⟩ hi HM0.out.st.ok)
  have hFe : partTo g (walkF g g.length i []) (walkF g g.length i []).length = F := hF
  have hFn : (walkF g g.length i []).length = F.length := by rw [← hFe, partTo_len]
  rw [hFe, hFn] at HPt
  have c0 := HM0.out.k0
  have c2 := HM0.out.k2
  have s0 := HM0.out.st.cell0
  clear hM hg hF hFe hFn
  go_enter Tryd.func37, Tryd.ntmps37
  go_wp2_with (go_at_call 59; refine HPt.out.mono ?_; rintro e w1 ⟨pb, z, rfl, hpb, hr1, hb1⟩; have HR := hid hr1; have HB1 := hid (HB0.out.trans (hb1.mono HB0.out.size)); obtain ⟨hq0, o0, o1⟩ := HX0.out.on hb1; obtain ⟨g0, g1⟩ := HG0.out.on hb1 HX0.out.lt; have hz1 := hb1.size; clear hr1 hb1)
  refine bodyPost_ret (v := .agg #[.slice (some ⟨pb, 0, none⟩) F.length F.length, .int .i64 0]) (by simp [results, Tryd.results37, go_sem, o0, o1, g0, g1]) rfl ?_
  have s2 := foset2 w1 w.heap.size (.slice (some ⟨pb, 0, none⟩) F.length F.length) (.int .i64 0)
  have hz2 := s2.size
  have hz0 : w.heap.size < (w.alloc (.cells #[.slice none 0 0, .int .i64 0] 26)).heap.size := by simp
  have hrl := HR.out.lt
  have hr2 := HR.out.of_block (s2.block pb hrl (by show ¬ pb = w.heap.size; omega))
  exact ⟨_, _, rfl, Or.inr ⟨pb, rfl, row_nodes_long hr2 (Nat.le_refl _)⟩, Or.inr ⟨pb, _, _, rfl, Nat.le_refl _, hr2⟩, (fun q e => by injection e with e; subst e; exact ⟨rfl, by show _ ≤ pb; omega, by show pb < _; omega⟩), HB1.out.trans (s2.below (B := w.heap.size) HB1.out.size (fun j h => by omega))⟩
end Go.Proofs.YtagklhfejbdkdaaDoor
namespace Go.Proofs.YtagklhfejbdkdaaDoor
open Go.RowKit
set_option linter.unusedVariables false
set_option linter.unusedSimpArgs false
theorem ng_new {f : List Nd} (hg : goodTo f f.length = true) (h0 : 0 < f.length) : ¬ plG f (notN (f.length - 1)) < f.length := by
  intro hp
  have e := plG_at hp
  have har := (nodeB_arms _ _ (goodTo_at f _ _ hp hg).1).1 (by rw [e]; exact show 0 < armsN 3 by decide)
  have ea : (ndAt f (plG f (notN (f.length - 1)))).a = ((f.length - 1 : Nat) : Int) := by rw [e]; rfl
  omega
theorem ng_big {f : List Nd} (hr : rightB f = true) (hg : goodTo f f.length = true) (h0 : 0 < f.length) (h3 : ¬ (ndAt f (f.length - 1)).k = 3) : f.length < (ngG f).length := by
  have hp := ng_new hg h0
  have hpe : plG f (notN (f.length - 1)) = f.length := by have := plG_le f (notN (f.length - 1)); omega
  obtain ⟨hn1, _, _⟩ := notG_good hg (show f.length - 1 < f.length by omega)
  have hN : notG f (f.length - 1) = (f ++ [notN (f.length - 1)], f.length) := by unfold notG; rw [if_neg h3, putG_new hp, hpe]
  have hNg : ngG f = partG (f ++ [notN (f.length - 1)]) f.length := by unfold ngG; rw [hN]
  rw [hN] at hn1
  have hL : (f ++ [notN (f.length - 1)]).length = f.length + 1 := by simp
  have hD := goodTo_down _ _ hn1
  rw [hL] at hD
  have hm := (walkF_grows (f ++ [notN (f.length - 1)]) (f.length + 1) f.length [] hD (by omega)).2
  have hcl := walk_closed (f ++ [notN (f.length - 1)]) (f.length + 1) f.length [] hD (by omega) (fun j h => by cases h)
  have hat : ndAt (f ++ [notN (f.length - 1)]) f.length = notN (f.length - 1) := by simp [ndAt]
  have hl := (hcl _ hm).1 (by rw [hat]; exact show 0 < armsN 3 by decide)
  rw [hat] at hl
  have hl' : f.length - 1 ∈ walkF (f ++ [notN (f.length - 1)]) (f.length + 1) f.length [] := hl
  have hall := right_all hr (· ∈ walkF (f ++ [notN (f.length - 1)]) (f.length + 1) f.length []) (fun j hj hd => by
    have := hcl j hd
    rwa [show ndAt (f ++ [notN (f.length - 1)]) j = ndAt f j by simp [ndAt, List.getElem?_append_left hj]] at this) hl'
  have := part_all (f ++ [notN (f.length - 1)]) f.length (fun i hi => by
    rw [hL] at hi ⊢
    rcases Nat.lt_or_ge i f.length with h | h
    · exact hall i h
    · obtain rfl : i = f.length := by omega
      exact hm)
  rw [hNg]
  omega
/-- What told is to tell. -/
def ToldB (w : World) (F : List Nd) (code : Int) (e : Ending) (w' : World) : Prop := ∃ fa fc, e = .returned (.agg #[.slice fa F.length fc, .int .i64 code]) ∧ NsA w' fa F ∧ RowA w' fa F.length ∧ (∀ q, fa = some q → q = ⟨q.block, 0, none⟩ ∧ w.heap.size ≤ q.block ∧ q.block < w'.heap.size) ∧ Below w.heap.size w w'
set_option maxHeartbeats 1000000 in
theorem ngTold_any (f : List Nd) (hr : rightB f = true) (F : List Nd) (code : Int) (hF : ngF f = F) (hc : ngC f = code) (kb sb mb lb qb base : Nat) (v : Value) (hlv : ¬ StoreS sb mb v lb) (hqv : ¬ StoreS sb mb v qb) (hlk : lb ≠ kb) (hqk : qb ≠ kb) (W : World) (hM : RuleAt W kb sb mb lb qb base v f) (eu : TypeId) (pv : Value) (hev : W.cell? ⟨0, 0, none⟩ = some (.iface eu pv)) (hel : 0 < W.heap.size) :
    ∃ r : Int, Calls Tryd.prog 43 #[.pointer (some ⟨kb, 0, none⟩), .int .i64 ((f.length - 1 : Nat) : Int)] W fun e w' => e = .returned (.int .i64 r) ∧ (Save W w' (fun j => j = kb ∨ StoreS sb mb v j) ∧ Calls Tryd.prog 37 #[.pointer (some ⟨kb, 0, none⟩), .int .i64 r] w' (ToldB w' F code)) := by
  obtain ⟨hl1, hl2, hgd⟩ := rightB_good' f hr
  have ha : f.length - 1 < f.length := by omega
  obtain ⟨hn1, hn2, hn3⟩ := notG_good hgd ha
  have hGe : partG (notG f (f.length - 1)).1 (notG f (f.length - 1)).2 = ngG f := rfl
  have hCd : ngC f = if 24 < (ngG f).length then 9 else 0 := by unfold ngC; rw [if_neg (by omega), if_pos hr]
  have hfit : (notG f (f.length - 1)).1.length ≤ 24 → code = 0 ∧ F = ngG f := fun h => by
    have h1 : (ngG f).length ≤ 24 := by rw [← hGe]; have := partG_len hn1 hn2; omega
    have h2 : ngC f = 0 := by rw [hCd, if_neg (by omega)]
    exact ⟨by rw [← hc, h2], by rw [← hF, ngF_yes h2]⟩
  by_cases h3 : (ndAt f (f.length - 1)).k = 3
  · obtain ⟨o1, o2⟩ := notG_old hgd ha h3
    obtain ⟨rfl, rfl⟩ := hfit (by rw [o1]; exact hl2)
    refine ⟨(ndAt f (f.length - 1)).a, rnot_any kb (f.length - 1) _ _ W ((rput_old f hgd _ ha h3 kb sb mb lb qb base v W hM).mono ?_)⟩
    rintro e w' ⟨rfl, hb⟩
    refine ⟨rfl, Save.of_below hb _ (fun j h1 h2 => absurd h1 (by omega)), ?_⟩
    rw [← o2]
    have hM' := hM.on hb
    rw [← o1] at hM'
    exact rtold_any _ hn1 _ hn2 _ hGe kb sb mb lb qb base v w' hM'
  · by_cases hlt : f.length < 24
    · obtain ⟨rfl, rfl⟩ := hfit (by omega)
      have e1 : notG f (f.length - 1) = (putG f (notN (f.length - 1)), plG f (notN (f.length - 1))) := by unfold notG; rw [if_neg h3]
      rw [e1] at hn1 hn2 hGe
      refine ⟨((plG f (notN (f.length - 1)) : Nat) : Int), rnot_any kb (f.length - 1) _ _ W ((rput_new f hgd _ ha h3 hlt kb sb mb lb qb base v hlv hqv hlk hqk W hM).mono ?_)⟩
      rintro e w' ⟨rfl, v', hM', hs⟩
      exact ⟨rfl, hs.mono (fun j _ h => Or.inr h), rtold_any _ hn1 _ hn2 _ hGe kb sb mb lb qb base v' w' hM'⟩
    · have hbig := ng_big hr hgd (by omega) h3
      have h9 : ngC f = 9 := by rw [hCd, if_pos (by omega)]
      obtain rfl : 9 = code := by rw [← hc, h9]
      obtain rfl : [] = F := by rw [← hF, ngF_no h9 (by omega)]
      refine ⟨0, rnot_any kb (f.length - 1) _ _ W ((rput_full f hgd _ ha h3 (by omega) W (ng_new hgd (by omega)) eu pv hev hel kb sb mb lb qb base v hM).mono ?_)⟩
      rintro e w' ⟨rfl, hk2, hs⟩
      refine ⟨rfl, hs.mono (fun j _ h => Or.inl h), (rtold_full kb 0 eu pv w' (Nat.lt_of_lt_of_le hM.ltw hs.size) hk2).mono ?_⟩
      rintro e w'' ⟨rfl, hb⟩
      exact ⟨none, 0, rfl, Or.inl rfl, Or.inl rfl, (fun q e => by cases e), hb⟩
set_option maxRecDepth 20000 in
set_option maxHeartbeats 1000000 in
theorem newMakerF_any (w : World) :
    Calls Tryd.prog 31 #[.int .i64 24] w fun e w' => ∃ kb sb mb, e = .returned (.pointer (some ⟨kb, 0, none⟩)) ∧ w.heap.size ≤ kb ∧ w.heap.size ≤ sb ∧ w.heap.size ≤ mb ∧ MakeAt w' kb sb mb w'.heap.size (.slice none 0 0) [] ∧ Below w.heap.size w w' ∧ (∀ o, w'.frozen? ⟨kb, o, none⟩ = false) := by
  go_enter Tryd.func31, Tryd.ntmps31
  go_wp2_with (go_at_call 52; refine (newStore_any w).mono ?_; rintro e w1 ⟨sb, mb, rfl, hsb, hmb, hst, hb1⟩; have HSt := hid hst; have HB1 := hid hb1; have hz1 := hb1.size; clear hst hb1)
  go_ret
  have hl1 := HSt.out.lts
  have hl2 := HSt.out.ltm
  have hS := HSt.out.save (S := fun _ => False) ((Save.refl w1 (fun _ => False)).alloc (.cells #[.pointer (some ⟨sb, 0, none⟩), .slice none 0 0, .nilIface] 64)) (fun _ _ h => h)
  refine ⟨w1.heap.size, sb, mb, rfl, hz1, hsb, hmb, ⟨⟨by simp; omega, by simp; omega, hS.ne, Nat.le_refl _, hS.cell0, hS.cell1, hS.cell2, hS.free, World.ownsRow_nil _ _ _ _, hS.map, hS.ok, hS.le⟩, by simp, by omega, by omega, by simp [go_sem], by simp [go_sem], by simp [go_sem]⟩, HB1.out.trans (((Below.refl _ _).alloc (Nat.le_refl _) _).mono hz1), fun o => by simp [go_sem]⟩
end Go.Proofs.YtagklhfejbdkdaaDoor
namespace Go.Proofs.YtagklhfejbdkdaaDoor
open Go.RowKit
set_option linter.unusedVariables false
set_option linter.unusedSimpArgs false
def renN (fr t : ByteArray) (x : Nd) : Nd := if (x.nm.toList == fr.toList) = true then (x.k, x.a, x.b, x.lo, x.hi, t) else x
def reTo (f : List Nd) (fr t : ByteArray) (k : Nat) : List Nd := (List.range f.length).map fun i => if i < k then renN fr t (ndAt f i) else ndAt f i
theorem reTo_len (f : List Nd) (fr t : ByteArray) (k : Nat) : (reTo f fr t k).length = f.length := by simp [reTo]
theorem reTo_at (f : List Nd) (fr t : ByteArray) (k i : Nat) (h : i < f.length) : ndAt (reTo f fr t k) i = if i < k then renN fr t (ndAt f i) else ndAt f i := by simp [reTo, ndAt, List.getD, h]
theorem reTo_zero (f : List Nd) (fr t : ByteArray) : reTo f fr t 0 = f := by
  refine List.ext_getElem (by rw [reTo_len]) (fun i h1 h2 => ?_)
  have := reTo_at f fr t 0 i h2
  rw [if_neg (by omega)] at this
  simpa [ndAt, List.getD, List.getElem?_eq_getElem h1, List.getElem?_eq_getElem h2] using this
theorem reTo_skip (f : List Nd) (fr t : ByteArray) (k : Nat) (h : k < f.length) (hn : ((ndAt f k).nm.toList == fr.toList) = false) : reTo f fr t (k + 1) = reTo f fr t k := by
  refine List.ext_getElem (by rw [reTo_len, reTo_len]) (fun i h1 h2 => ?_)
  have hi : i < f.length := by rw [reTo_len] at h1; exact h1
  have e1 := reTo_at f fr t (k + 1) i hi
  have e2 := reTo_at f fr t k i hi
  have e : ndAt (reTo f fr t (k + 1)) i = ndAt (reTo f fr t k) i := by
    rw [e1, e2]
    by_cases c : i = k
    · subst c; rw [if_pos (by omega), if_neg (by omega)]; unfold renN; rw [hn]; rfl
    · by_cases d : i < k
      · rw [if_pos (by omega), if_pos d]
      · rw [if_neg (by omega), if_neg d]
  simpa [ndAt, List.getD, List.getElem?_eq_getElem h1, List.getElem?_eq_getElem h2] using e
def reC (f : List Nd) (fr t : ByteArray) : Int := if 400 < f.length ∨ 8000 < fr.size ∨ 8000 < t.size then 2 else if rightB f = true ∧ wordB fr = true ∧ wordB t = true then 0 else 1
def reG (f : List Nd) (fr t : ByteArray) : List Nd := partG (layS (reTo f fr t f.length) f.length).1 ((layS (reTo f fr t f.length) f.length).2 (f.length - 1)).toNat
def reF (f : List Nd) (fr t : ByteArray) : List Nd := if reC f fr t = 0 then reG f fr t else []
theorem reF_no {f : List Nd} {fr t : ByteArray} {c : Int} (h : reC f fr t = c) (hc : c ≠ 0) : reF f fr t = [] := by unfold reF; rw [h, if_neg hc]
theorem reF_yes {f : List Nd} {fr t : ByteArray} (h : reC f fr t = 0) : reF f fr t = reG f fr t := by unfold reF; rw [if_pos h]
theorem reC_size {f : List Nd} {fr t : ByteArray} (h : 400 < f.length ∨ 8000 < fr.size ∨ 8000 < t.size) : reC f fr t = 2 := by unfold reC; rw [if_pos h]
theorem reC_form {f : List Nd} {fr t : ByteArray} (h : ¬ (400 < f.length ∨ 8000 < fr.size ∨ 8000 < t.size)) (h2 : ¬ (rightB f = true ∧ wordB fr = true ∧ wordB t = true)) : reC f fr t = 1 := by unfold reC; rw [if_neg h, if_neg h2]
theorem reC_ok {f : List Nd} {fr t : ByteArray} (h : ¬ (400 < f.length ∨ 8000 < fr.size ∨ 8000 < t.size)) (h2 : rightB f = true ∧ wordB fr = true ∧ wordB t = true) : reC f fr t = 0 := by unfold reC; rw [if_neg h, if_pos h2]
theorem word_size {s : ByteArray} (h : wordB s = true) : 1 ≤ s.size ∧ s.size ≤ 8 := by
  simp only [wordB, Bool.and_eq_true, decide_eq_true_eq] at h
  exact h.1
theorem ren_right {x : Nd} {fr t : ByteArray} {i : Nat} (h : nodeB x i = true) (hf : wordB fr = true) (ht : wordB t = true) : nodeB (renN fr t x) i = true := by
  unfold renN
  split
  · next e =>
    have hk : x.k = 2 := by
      by_cases hk : x.k = 2
      · exact hk
      · exfalso
        simp only [nodeB, Bool.and_eq_true] at h
        have h2 := h.2.1
        rw [if_neg hk] at h2
        simp only [emptyB, beq_iff_eq] at h2
        rw [beq_iff_eq, h2] at e
        have h3 := (word_size hf).1
        have h4 : fr.toList = fr.data.toList := ByteArray.toList_eq fr
        have h5 : fr.data.toList.length = fr.size := rfl
        rw [← h4, ← e] at h5
        simp at h5
        omega
    simp only [nodeB, Bool.and_eq_true] at h ⊢
    refine ⟨h.1, ?_, h.2.2⟩
    show (if x.k = 2 then wordB t else emptyB t) = true
    rw [if_pos hk]
    exact ht
  · exact h
theorem re_okL {f : List Nd} {fr t : ByteArray} (hr : rightB f = true) (hf : wordB fr = true) (ht : wordB t = true) : okL (reTo f fr t f.length) (reTo f fr t f.length).length := by
  intro i hi
  rw [reTo_len] at hi
  rw [reTo_at f fr t f.length i hi, if_pos hi]
  have hg := (rightB_good' f hr).2.2
  exact ren_right (goodTo_at f i f.length hi hg).1 hf ht
theorem re_ndOk {f : List Nd} {fr t : ByteArray} (hok : ∀ i, i < f.length → ndOk (ndAt f i)) (ht : t.size ≤ maxLen) (k : Nat) : ∀ i, i < (reTo f fr t k).length → ndOk (ndAt (reTo f fr t k) i) := by
  intro i hi
  rw [reTo_len] at hi
  rw [reTo_at f fr t k i hi]
  have h := hok i hi
  split
  · unfold renN
    split
    · exact ⟨h.1, h.2.1, h.2.2.1, h.2.2.2.1, h.2.2.2.2.1, ht⟩
    · exact h
  · exact h
/-- A node's name is turned. -/
theorem nodes_name {w : World} {g : Nat} {f : List Nd} {fr t : ByteArray} {k : Nat} (hk : k < f.length) (hn : ((ndAt f k).nm.toList == fr.toList) = true) (h : NodesAt w g (reTo f fr t k)) : NodesAt (w.setCell ⟨g, k * 6 + 5, none⟩ (.string t)) g (reTo f fr t (k + 1)) := by
  refine ⟨by simpa using h.1, fun i hi => ?_⟩
  rw [reTo_len] at hi
  obtain ⟨c0, c1, c2, c3, c4, c5⟩ := h.2 i (by rw [reTo_len]; exact hi)
  rw [reTo_at f fr t k i hi] at c0 c1 c2 c3 c4 c5
  rw [reTo_at f fr t (k + 1) i hi]
  by_cases e : i = k
  · subst e
    rw [if_neg (by omega)] at c0 c1 c2 c3 c4 c5
    rw [if_pos (by omega)]
    unfold renN
    rw [if_pos hn]
    refine ⟨?_, ?_, ?_, ?_, ?_, ?_⟩
    · rw [World.cell?_setCell_other _ _ _ _ (by simp)]; exact c0
    · rw [World.cell?_setCell_other _ _ _ _ (by simp)]; exact c1
    · rw [World.cell?_setCell_other _ _ _ _ (by simp)]; exact c2
    · rw [World.cell?_setCell_other _ _ _ _ (by simp)]; exact c3
    · rw [World.cell?_setCell_other _ _ _ _ (by simp)]; exact c4
    · exact World.cell?_setCell_same' _ _ _ (by rw [c5]; rfl)
  · have e2 : (if i < k + 1 then renN fr t (ndAt f i) else ndAt f i) = (if i < k then renN fr t (ndAt f i) else ndAt f i) := by
      by_cases d : i < k
      · rw [if_pos (by omega), if_pos d]
      · rw [if_neg (by omega), if_neg d]
    rw [e2]
    refine ⟨?_, ?_, ?_, ?_, ?_, ?_⟩
    · rw [World.cell?_setCell_other _ _ _ _ (by simp <;> omega)]; exact c0
    · rw [World.cell?_setCell_other _ _ _ _ (by simp <;> omega)]; exact c1
    · rw [World.cell?_setCell_other _ _ _ _ (by simp <;> omega)]; exact c2
    · rw [World.cell?_setCell_other _ _ _ _ (by simp <;> omega)]; exact c3
    · rw [World.cell?_setCell_other _ _ _ _ (by simp <;> omega)]; exact c4
    · rw [World.cell?_setCell_other _ _ _ _ (by simp <;> omega)]; exact c5
theorem re_at {f : List Nd} {fr t : ByteArray} (hr : rightB f = true) (hf : wordB fr = true) (ht : wordB t = true) : goodTo (layS (reTo f fr t f.length) f.length).1 (layS (reTo f fr t f.length) f.length).1.length = true ∧ (layS (reTo f fr t f.length) f.length).1.length ≤ 24 ∧ ∃ i : Nat, (layS (reTo f fr t f.length) f.length).2 (f.length - 1) = i ∧ i < (layS (reTo f fr t f.length) f.length).1.length := by
  obtain ⟨hl1, hl2, _⟩ := rightB_good' f hr
  have hL := re_okL hr hf ht
  rw [reTo_len] at hL
  have h := laid_all (reTo f fr t f.length) f.length hL f.length (Nat.le_refl _)
  have h2 := h.to (f.length - 1) (by omega)
  obtain ⟨i, hi⟩ := Int.eq_ofNat_of_zero_le h2.1
  exact ⟨h.good, by have := h.len; omega, i, hi, by omega⟩
theorem reF_len (f : List Nd) (fr t : ByteArray) (h : f.length ≤ 1048576) : (reF f fr t).length ≤ 1000000 := by
  by_cases h4 : 400 < f.length ∨ 8000 < fr.size ∨ 8000 < t.size
  · rw [reF_no (reC_size h4) (by omega)]; simp
  · by_cases h2 : rightB f = true ∧ wordB fr = true ∧ wordB t = true
    · rw [reF_yes (reC_ok h4 h2)]
      obtain ⟨h5, h6, i, h7, h8⟩ := re_at h2.1 h2.2.1 h2.2.2
      unfold reG
      rw [h7, Int.toNat_natCast]
      have := partG_len h5 h8
      omega
    · rw [reF_no (reC_form h4 h2) (by omega)]; simp
end Go.Proofs.YtagklhfejbdkdaaDoor
namespace Go.Proofs.YtagklhfejbdkdaaDoor
open Go.RowKit
set_option linter.unusedVariables false
set_option linter.unusedSimpArgs false
theorem fs_one0 (w : World) (f : List Nd) (b cap : Nat) (hN : NodesAt w b f) (t : TypeId) : FsAt (w.alloc (.cells #[.slice (some ⟨b, 0, none⟩) f.length cap] t)) w.heap.size 1 (fun _ => f) (fun _ => b) (fun _ => cap) :=
  ⟨by simp, fun j hj => by obtain rfl : j = 0 := by omega
                           simp [go_sem], fun j hj => (hN.below (fone w _) hN.1)⟩
theorem wordI_w (s : ByteArray) (hs : s.size ≤ maxLen) (v : Bool) (hv : wordB s = v) (w : World) (hk : Kw w) : Calls Tryd.prog 65 #[.string s] w fun e w' => e = .returned (.bool v) ∧ w = w' := by
  subst hv; exact (implWord_any s w hs hk).mono (by rintro e w' ⟨rfl, rfl⟩; exact ⟨rfl, rfl⟩)
set_option maxRecDepth 20000 in
set_option maxHeartbeats 1000000 in
theorem tooLong_any (s : ByteArray) (hs : s.size ≤ maxLen) (v : Bool) (hv : decide (8000 < s.size) = v) (w : World) : Calls Tryd.prog 64 #[.string s] w fun e w' => e = .returned (.bool v) ∧ w = w' := by
  unfold maxLen at hs
  cases v
  · have i1 : ¬ (s.size : Int) > 8000 := by have := of_decide_eq_false hv; omega
    clear hv
    go_enter Tryd.func64, Tryd.ntmps64
    go_wp2_with fail
    go_ret
    exact ⟨rfl, rfl⟩
  · have i1 : (s.size : Int) > 8000 := by have := of_decide_eq_true hv; omega
    clear hv
    go_enter Tryd.func64, Tryd.ntmps64
    go_wp2_with fail
    go_ret
    exact ⟨rfl, rfl⟩
set_option maxRecDepth 20000 in
set_option maxHeartbeats 4000000 in
theorem reCode_any (f : List Nd) (b cap : Nat) (fr t : ByteArray) (hfs : fr.size ≤ 1048576) (hts : t.size ≤ 1048576) (w : World) (hN : NodesAt w b f) (hok : ∀ i, i < f.length → ndOk (ndAt f i)) (hlen : f.length ≤ 1048576) (hkw : Kw w) (hg : 1 < w.heap.size) (code : Int) (hc : reC f fr t = code) :
    Calls Tryd.prog 46 #[.slice (some ⟨b, 0, none⟩) f.length cap, .string fr, .string t] w fun e w' => e = .returned (.int .i64 code) ∧ Below w.heap.size w w' := by
  have HBf := hid (fone w (.cells #[.slice (some ⟨b, 0, none⟩) f.length cap] 24))
  have HFs := hid (fs_one0 w f b cap hN 24)
  have HCd := hid (fun c (hc : newCode f = c) => codes_any 1 (by omega) (fun _ => f) (fun _ => b) (fun _ => cap) w.heap.size 1 (fun _ _ => ⟨hok, hlen⟩) c (by rw [← newCode_to, hc]) _ HFs.out (hkw.below HBf.out hg) (by have := HBf.out.size; omega))
  have HK := hid (fun w' (h : Below w.heap.size w w') => hkw.below h hg)
  have hm1 : fr.size ≤ maxLen := by unfold maxLen; omega
  have hm2 : t.size ≤ maxLen := by unfold maxLen; omega
  clear hkw hN
  by_cases s1 : 8000 < fr.size
  · obtain rfl : 2 = code := by rw [← hc, reC_size (by omega)]
    have ht1 : decide (8000 < fr.size) = true := by simpa using s1
    clear hc HCd HFs
    go_enter Tryd.func46, Tryd.ntmps46
    go_wp2_with (go_at_call 64; refine (tooLong_any _ (by assumption) _ (by assumption) _).mono ?_; rintro e w' ⟨rfl, rfl⟩)
    go_ret
    exact ⟨rfl, Below.refl _ _⟩
  have ht1 : decide (8000 < fr.size) = false := by simpa using s1
  by_cases s2 : 8000 < t.size
  · obtain rfl : 2 = code := by rw [← hc, reC_size (by omega)]
    have ht2 : decide (8000 < t.size) = true := by simpa using s2
    clear hc HCd HFs
    go_enter Tryd.func46, Tryd.ntmps46
    go_wp2_with (go_at_call 64; refine (tooLong_any _ (by assumption) _ (by assumption) _).mono ?_; rintro e w' ⟨rfl, rfl⟩)
    go_ret
    exact ⟨rfl, Below.refl _ _⟩
  have ht2 : decide (8000 < t.size) = false := by simpa using s2
  by_cases s3 : 400 < f.length
  · obtain rfl : 2 = code := by rw [← hc, reC_size (by omega)]
    have HCe := hid (HCd.out 2 (by unfold newCode; rw [if_pos s3]))
    clear hc HCd HFs
    go_enter Tryd.func46, Tryd.ntmps46
    go_wp2_with (first | (go_at_call 64; refine (tooLong_any _ (by assumption) _ (by assumption) _).mono ?_; rintro e w' ⟨rfl, rfl⟩) | (go_at_call 30; refine HCe.out.mono ?_; rintro e w1 ⟨rfl, hb1⟩; have HB1 := hid (HBf.out.trans (hb1.mono HBf.out.size)); clear hb1))
    go_ret
    exact ⟨rfl, HB1.out⟩
  have h4 : ¬ (400 < f.length ∨ 8000 < fr.size ∨ 8000 < t.size) := by omega
  by_cases s4 : rightB f = true
  · have HCe := hid (HCd.out 0 (by unfold newCode; rw [if_neg s3, if_pos s4]))
    by_cases s5 : wordB fr = true
    · by_cases s6 : wordB t = true
      · obtain rfl : 0 = code := by rw [← hc, reC_ok h4 ⟨s4, s5, s6⟩]
        clear hc HCd HFs
        go_enter Tryd.func46, Tryd.ntmps46
        go_wp2_with (first | (go_at_call 64; refine (tooLong_any _ (by assumption) _ (by assumption) _).mono ?_; rintro e w' ⟨rfl, rfl⟩) | (go_at_call 30; refine HCe.out.mono ?_; rintro e w1 ⟨rfl, hb1⟩; have HB1 := hid (HBf.out.trans (hb1.mono HBf.out.size)); clear hb1) | (go_at_call 65; refine (wordI_w _ (by assumption) _ (by assumption) _ (HK.out _ HB1.out)).mono ?_; rintro e w' ⟨rfl, rfl⟩))
        go_ret
        exact ⟨rfl, HB1.out⟩
      · obtain rfl : 1 = code := by rw [← hc, reC_form h4 (fun h => s6 h.2.2)]
        have s6' : wordB t = false := by simpa using s6
        clear hc HCd HFs s6
        go_enter Tryd.func46, Tryd.ntmps46
        go_wp2_with (first | (go_at_call 64; refine (tooLong_any _ (by assumption) _ (by assumption) _).mono ?_; rintro e w' ⟨rfl, rfl⟩) | (go_at_call 30; refine HCe.out.mono ?_; rintro e w1 ⟨rfl, hb1⟩; have HB1 := hid (HBf.out.trans (hb1.mono HBf.out.size)); clear hb1) | (go_at_call 65; refine (wordI_w _ (by assumption) _ (by assumption) _ (HK.out _ HB1.out)).mono ?_; rintro e w' ⟨rfl, rfl⟩))
        go_ret
        exact ⟨rfl, HB1.out⟩
    · obtain rfl : 1 = code := by rw [← hc, reC_form h4 (fun h => s5 h.2.1)]
      have s5' : wordB fr = false := by simpa using s5
      clear hc HCd HFs s5
      go_enter Tryd.func46, Tryd.ntmps46
      go_wp2_with (first | (go_at_call 64; refine (tooLong_any _ (by assumption) _ (by assumption) _).mono ?_; rintro e w' ⟨rfl, rfl⟩) | (go_at_call 30; refine HCe.out.mono ?_; rintro e w1 ⟨rfl, hb1⟩; have HB1 := hid (HBf.out.trans (hb1.mono HBf.out.size)); clear hb1) | (go_at_call 65; refine (wordI_w _ (by assumption) _ (by assumption) _ (HK.out _ HB1.out)).mono ?_; rintro e w' ⟨rfl, rfl⟩))
      go_ret
      exact ⟨rfl, HB1.out⟩
  · obtain rfl : 1 = code := by rw [← hc, reC_form h4 (fun h => s4 h.1)]
    have HCe := hid (HCd.out 1 (by unfold newCode; rw [if_neg s3, if_neg s4]))
    clear hc HCd HFs
    go_enter Tryd.func46, Tryd.ntmps46
    go_wp2_with (first | (go_at_call 64; refine (tooLong_any _ (by assumption) _ (by assumption) _).mono ?_; rintro e w' ⟨rfl, rfl⟩) | (go_at_call 30; refine HCe.out.mono ?_; rintro e w1 ⟨rfl, hb1⟩; have HB1 := hid (HBf.out.trans (hb1.mono HBf.out.size)); clear hb1))
    go_ret
    exact ⟨rfl, HB1.out⟩
set_option maxRecDepth 20000 in
set_option maxHeartbeats 2000000 in
theorem cloneNs_any (f : List Nd) (b cap : Nat) (hl : f.length ≤ 1048576) (w : World) (hN : NodesAt w b f) :
    Calls Tryd.prog 47 #[.slice (some ⟨b, 0, none⟩) f.length cap] w fun e w' => ∃ v, e = .returned v ∧ OwnsN w' w.heap.size v f ∧ Below w.heap.size w w' := by
  obtain ⟨i0, hi0, hz0, hz1, hz2⟩ := info_parts Tryd.infoN
  have HN := hid (hN.below (fone w (.cells #[] 46)) hN.1)
  have HB0 := hid (fone w (.cells #[] 46))
  have hnil : ∀ W, (binOp .eql 24 (.slice (some ⟨b, 0, none⟩) f.length cap) (.slice none 0 0)).run Tryd.prog W = .ok (.bool false) W := fun W => eql_nil W 24 _ ⟨b, 0, none⟩ _ _ Tryd.uNs
  clear hN
  go_enter Tryd.func47, Tryd.ntmps47
  go_wp2_with (at_builtin; go_loud (refine wpList_append_own_at _ rfl _ _ 24 rfl w.heap.size 46 i0 _ 6 56 Tryd.uNs hi0 hz0 hz1 hz2 rfl (by decide) _ 0 [] rfl (ownsN_none w w.heap.size (Nat.le_refl _)) ⟨b, 0, none⟩ f.length cap (flatN f) rfl (flatN_len f) (flatN_cells HN.out) (flatN_one f) (by unfold maxLen; omega) (by omega) (by simp) ?_; intro v5 w5 hown5 hgrow5 _ hat5; have HO5 : Hid (OwnsN w5 w.heap.size v5 f) := (by show w5.ownsRow _ _ _ _ _ _; simpa using hown5); have hs5 : Save w w5 (fun _ => False) := ((Save.refl w (fun _ => False)).alloc _).grown hgrow5 (fun k hk h => by simp [Value.ownBlock, Act.eval, Act.put] at hk; omega); have HB5 := hid (hs5.below (B := w.heap.size) (Nat.le_refl _) (fun j h => h.elim)); clear hown5 hgrow5 hat5 hs5))
  go_ret
  exact ⟨v5, rfl, HO5.out, HB5.out⟩
theorem bod_alloc {B : Nat} {a w : World} (h : Below B a w) (hB : B ≤ w.heap.size) (o : Obj) : Below B a (w.alloc o) := h.trans ((fone w o).mono hB)
set_option maxRecDepth 20000 in
set_option maxHeartbeats 8000000 in
theorem implRe_any (f : List Nd) (b cap : Nat) (fr t : ByteArray) (hfs : fr.size ≤ 1048576) (hts : t.size ≤ 1048576) (w : World) (hN : NodesAt w b f) (hok : ∀ i, i < f.length → ndOk (ndAt f i)) (hlen : f.length ≤ 1048576) (hkw : Kw w) (hg : 1 < w.heap.size) (F : List Nd) (code : Int) (hF : reF f fr t = F) (hc : reC f fr t = code) :
    Calls Tryd.prog 21 #[.slice (some ⟨b, 0, none⟩) f.length cap, .string fr, .string t] w fun e w' => ∃ fa fc, e = .returned (.agg #[.slice fa F.length fc, .int .i64 code]) ∧ NsA w' fa F ∧ RowA w' fa F.length ∧ (∀ q, fa = some q → q = ⟨q.block, 0, none⟩ ∧ w.heap.size ≤ q.block ∧ q.block < w'.heap.size) ∧ Below w.heap.size w w' := by
  have HB0 := hid (fone w (.cells #[.slice none 0 0, .int .i64 0] 26))
  have HX0 := hid (foz w).1
  have HG0 := hid (foz w).2
  have hm2 : t.size ≤ maxLen := by unfold maxLen; omega
  have HCe := hid (reCode_any f b cap fr t hfs hts _ (hN.below HB0.out hN.1) hok hlen (hkw.below HB0.out hg) (by have := HB0.out.size; omega) code hc)
  have hcase : code = 2 ∨ code = 1 ∨ (code = 0 ∧ rightB f = true ∧ wordB fr = true ∧ wordB t = true) := by
    rw [← hc]
    unfold reC
    split
    · exact Or.inl rfl
    · split
      · next h => exact Or.inr (Or.inr ⟨rfl, h⟩)
      · exact Or.inr (Or.inl rfl)
  rcases hcase with rfl | rfl | ⟨rfl, hr, hwf, hwt⟩
  iterate 2
    · obtain rfl : [] = F := by rw [← hF, reF_no hc (by omega)]
      clear hF hc hN hkw
      go_enter Tryd.func21, Tryd.ntmps21
      go_wp2_with (go_at_call 46; refine HCe.out.mono ?_; rintro e w1 ⟨rfl, hb1⟩; have HB1 := hid (HB0.out.trans (hb1.mono HB0.out.size)); obtain ⟨hq, o0, o1⟩ := HX0.out.on hb1; obtain ⟨g0, g1⟩ := HG0.out.on hb1 HX0.out.lt; clear hb1)
      refine bodyPost_ret (by simp [results, Tryd.results21, go_sem, o0, o1, g0, g1]; rfl) rfl ?_
      have s2 := fun c => foset2 w1 w.heap.size (.slice none 0 0) (.int .i64 c)
      first | exact ⟨none, 0, rfl, Or.inl rfl, Or.inl rfl, (fun q e => by cases e), HB1.out.trans ((s2 _).below (B := w.heap.size) HB1.out.size (fun j h => by omega))⟩ | exact ⟨none, ⟨0, rfl⟩, Or.inl rfl, Or.inl rfl, (fun q e => by cases e), HB1.out.trans ((s2 _).below (B := w.heap.size) HB1.out.size (fun j h => by omega))⟩
  · have hFe : reG f fr t = F := by rw [← hF, reF_yes hc]
    obtain ⟨hl1, hl2, _⟩ := rightB_good' f hr
    obtain ⟨hg1, hg2, ai, hai, hai2⟩ := re_at hr hwf hwt
    have hLk := re_okL hr hwf hwt
    have hOk := re_ndOk hok hm2 (fr := fr) f.length
    have hbw := hN.1
    have HNw := hid (fun w' (h : Below w.heap.size w w') => hN.below h hbw)
    have hFg : partG (layS (reTo f fr t f.length) f.length).1 ai = F := by rw [← hFe]; unfold reG; rw [hai, Int.toNat_natCast]
    have HLay := hid (fun (g gc kb sb mb base : Nat) (w' : World) (hn : NodesAt w' g (reTo f fr t f.length)) (h1 : g < base) (h2 : g ≠ sb) (h3 : g ≠ mb) (v0 : Value) (hM : MakeAt w' kb sb mb base v0 []) => by
      have := takeIn_any (reTo f fr t f.length) g gc kb sb mb base (by rw [reTo_len]; omega) (by rw [reTo_len]; omega) hOk hLk h1 h2 h3 w' hn v0 hM
      rw [reTo_len] at this
      rw [hai] at this
      exact this)
    have HDn := hid (fun (kb sb mb base : Nat) (v : Value) (w' : World) (hM : MakeAt w' kb sb mb base v (layS (reTo f fr t f.length) f.length).1) => told_any _ hg1 ai hai2 F hFg kb sb mb base v w' hM)
    have HZ := hid (reTo_zero f fr t)
    have HSk := hid (fun k h1 h2 => reTo_skip f fr t k h1 h2)
    have HNm := hid (fun (w' : World) (g k : Nat) h1 h2 h3 => nodes_name (w := w') (g := g) (f := f) (fr := fr) (t := t) (k := k) h1 h2 h3)
    have HRa := hid (fun k i h => reTo_at f fr t k i h)
    have HRln := hid (fun k => reTo_len f fr t k)
    have HCl := hid (fun w' (h : Below w.heap.size w w') => cloneNs_any f b cap hlen w' (HNw.out w' h))
    clear hF hc hN hkw hFe hFg hai hLk hOk hr
    go_enter Tryd.func21, Tryd.ntmps21
    go_wp2_with (first | (go_at_call 46; refine HCe.out.mono ?_; rintro e w1 ⟨rfl, hb1⟩; have HB1 := hid (HB0.out.trans (hb1.mono HB0.out.size)); have HX1 := hid (HX0.out.on hb1); have HG1 := hid (HG0.out.on hb1 HX0.out.lt); have hs1 := hb1.size; clear hb1) | (go_at_call 47; refine (HCl.out _ HB1.out).mono ?_; rintro e w5 ⟨v5, rfl, hO5, hb5⟩; obtain ⟨g, gc, m, z, rfl, _, hg5, hm, hr5, _, hall⟩ := hO5.row (by omega); have HN5 := hid (hall _ hr5); have HR5 := hid hr5; have HB5 := hid (HB1.out.trans (hb5.mono HB1.out.size)); have HX5 := hid (HX1.out.on hb5); have HG5 := hid (HG1.out.on hb5 HX1.out.lt); have hz5 := hb5.size; clear hO5 hr5 hall hb5))
    have hgw : w.heap.size < g := by simp at hs1; omega
    have hFZ : ∀ o, w5.frozen? ⟨g, o, none⟩ = false := fun o => HR5.out.frozen o
    have HN0 : NodesAt w5 g (reTo f fr t 0) := by rw [HZ.out]; exact HN5.out
    have HF5 := hid (HNw.out w5 HB5.out)
    go_loopw [24] (fun v wr => ∃ k : Nat, k ≤ f.length ∧ v = .int .i64 k ∧ NodesAt wr g (reTo f fr t k) ∧ (∀ o, wr.frozen? ⟨g, o, none⟩ = false) ∧ Save w5 wr (fun j => j = g)) (fun v _ => f.length - (intOf v).toNat)
    case atStart => exact ⟨0, Nat.zero_le _, rfl, HN0, hFZ, Save.refl _ _⟩
    case round =>
      obtain ⟨k, hk, rfl, hNk, hfz, hsv⟩ := hrel
      have HNk := hid hNk
      have HSv := hid hsv
      clear hNk hsv
      by_cases hlt : k < f.length
      · obtain ⟨_, _, _, _, _, e5⟩ := HNk.out.2 k (by rw [HRln.out]; exact hlt)
        obtain ⟨c0, c1, c2, c3, c4, c5⟩ := (HSv.out.nodes HF5.out (by show ¬ b = g; omega)).2 k hlt
        rw [HRa.out k k hlt, if_neg (by omega)] at e5
        have f5 := hfz (k * 6 + 5)
        have hbr' := (HSv.out.nodes HF5.out (by show ¬ b = g; omega)).1
        have hi1 : ((k : Int) * 6 + 5).toNat = k * 6 + 5 := by omega
        have hgr := HNk.out.1
        have HBx := hid (fone wr (.cells #[.int .i64 (ndAt f k).k, .int .i64 (ndAt f k).a, .int .i64 (ndAt f k).b, .int .i64 (ndAt f k).lo, .int .i64 (ndAt f k).hi, .string (ndAt f k).nm] 46))
        have HNa := hid (HNk.out.below HBx.out hgr)
        have HFa : Hid (∀ o, (wr.alloc (.cells #[.int .i64 (ndAt f k).k, .int .i64 (ndAt f k).a, .int .i64 (ndAt f k).b, .int .i64 (ndAt f k).lo, .int .i64 (ndAt f k).hi, .string (ndAt f k).nm] 46)).frozen? ⟨g, o, none⟩ = false) := fun o => (HBx.out.frozen (p := ⟨g, o, none⟩) hgr).trans (hfz o)
        have HSa := hid (HSv.out.alloc (.cells #[.int .i64 (ndAt f k).k, .int .i64 (ndAt f k).a, .int .i64 (ndAt f k).b, .int .i64 (ndAt f k).lo, .int .i64 (ndAt f k).hi, .string (ndAt f k).nm] 46))
        have ea5 := (HBx.out.cell (p := ⟨g, k * 6 + 5, none⟩) hgr).trans e5
        have fa5 := HFa.out (k * 6 + 5)
        by_cases hq : ((ndAt f k).nm.toList == fr.toList) = true
        · go_wp2_with fail
          go_roundw
          case rel =>
            have hn1 := HNm.out _ g k hlt hq HNk.out
            exact ⟨k + 1, by omega, by go_num, hn1.below (fone _ _) hn1.1, (fun o => ((fone _ _).frozen (p := ⟨g, o, none⟩) hn1.1).trans (by rw [World.frozen?_setCell]; exact hfz o)), (HSv.out.setCell (p := ⟨g, k * 6 + 5, none⟩) (fun _ => rfl) _).alloc _⟩
          case measure => simp [intOf]; omega
        · have hq' : ((ndAt f k).nm.toList == fr.toList) = false := by simpa using hq
          clear hq
          go_wp2_with fail
          go_roundw
          case rel => exact ⟨k + 1, by omega, by go_num, by rw [HSk.out k hlt hq']; exact HNa.out, HFa.out, HSa.out⟩
          case measure => simp [intOf]; omega
      · have hk' : k = f.length := by omega
        subst hk'
        have HBr := hid (HB5.out.trans (HSv.out.below (B := w.heap.size) HB5.out.size (fun j h => by omega)))
        have HXr := hid (HX5.out.save HSv.out (by show ¬ w.heap.size = g; omega))
        have HGr := hid (HG5.out.save HSv.out HX5.out.lt (by show ¬ w.heap.size = g; omega))
        have hsz := HSv.out.size
        have hgl := HN5.out.1
        have hwr := HXr.out.lt
        clear HN5 HB5 HX5 HG5 HSv HSk HNm HRa HRln HZ HN0 hFZ hfz HR5 HF5 HCl HCe HB1 HX1 HG1 HB0 HX0 HG0
        go_wp2_with (first | (go_at_call 31; refine (newMaker_any wr).mono ?_; rintro e w6 ⟨kb, sb, mb, rfl, hkb, hsb, hmb, hM6, hb6⟩; have HM6 := hid hM6; have HB6 := hid (HBr.out.trans (hb6.mono HBr.out.size)); have HX6 := hid (HXr.out.on hb6); have HG6 := hid (HGr.out.on hb6 HXr.out.lt); have HN6 := hid (HNk.out.below hb6 (by omega)); have hz6 := hb6.size; clear hM6 hb6) | (go_at_call 38; refine (HLay.out g gc kb sb mb _ _ HN6.out (by omega) (by omega) (by omega) _ HM6.out).mono ?_; rintro e w7 ⟨rfl, v7, hM7, hs7⟩; have HM7 := hid hM7; have HB7 := hid (HB6.out.trans (hs7.below (B := w.heap.size) HB6.out.size (fun j h => by omega))); have HX7 := hid (HX6.out.save hs7 (by omega)); have HG7 := hid (HG6.out.save hs7 HX6.out.lt (by omega)); clear hM7 hs7) | (go_at_call 37; refine (HDn.out _ _ _ _ _ _ HM7.out).mono ?_; rintro e w8 ⟨fa, fc, rfl, hns, hra, hq, hb8⟩; have HNS := hid hns; have HRA := hid hra; have HQ := hid hq; have HB8 := hid (HB7.out.trans (hb8.mono HB7.out.size)); obtain ⟨hx0, o0, o1⟩ := HX7.out.on hb8; obtain ⟨g0, g1⟩ := HG7.out.on hb8 HX7.out.lt; have hz8 := hb8.size; have hx7 := HX7.out.lt; clear hns hra hq hb8))
        refine bodyPost_ret (v := .agg #[.slice fa F.length fc, .int .i64 0]) (by simp [results, Tryd.results21, go_sem, o0, o1, g0, g1]) rfl ?_
        have s2 := foset2 w8 w.heap.size (.slice fa F.length fc) (.int .i64 0)
        have hz2 := s2.size
        first | exact ⟨fa, fc, rfl, HNS.out.save s2 (fun q e => by have := HQ.out q e; show ¬ q.block = w.heap.size; omega), HRA.out.save s2 (fun q e => by have := HQ.out q e; show ¬ q.block = w.heap.size; omega), (fun q e => by have := HQ.out q e; exact ⟨this.1, by omega, by omega⟩), HB8.out.trans (s2.below (B := w.heap.size) HB8.out.size (fun j h => by omega))⟩ | exact ⟨fa, ⟨fc, rfl⟩, HNS.out.save s2 (fun q e => by have := HQ.out q e; show ¬ q.block = w.heap.size; omega), HRA.out.save s2 (fun q e => by have := HQ.out q e; show ¬ q.block = w.heap.size; omega), (fun q e => by have := HQ.out q e; exact ⟨this.1, by omega, by omega⟩), HB8.out.trans (s2.below (B := w.heap.size) HB8.out.size (fun j h => by omega))⟩
end Go.Proofs.YtagklhfejbdkdaaDoor
namespace Go.Proofs.YtagklhfejbdkdaaDoor
open Go.RowKit
set_option linter.unusedVariables false
set_option linter.unusedSimpArgs false
theorem fs_two (w : World) (o : Obj) (f : List Nd) (b cap : Nat) (hN : NodesAt w b f) (t : TypeId) : FsAt ((w.alloc o).alloc (.cells #[.slice (some ⟨b, 0, none⟩) f.length cap] t)) (w.heap.size + 1) 1 (fun _ => f) (fun _ => b) (fun _ => cap) :=
  ⟨by simp, fun j hj => by obtain rfl : j = 0 := by omega
                           simp [go_sem], fun j hj => (hN.below (((Below.refl w.heap.size w).alloc (Nat.le_refl _) o).alloc (by simp) _) hN.1)⟩
set_option maxRecDepth 20000 in
set_option maxHeartbeats 2000000 in
theorem implNg_any (f : List Nd) (b cap : Nat) (w : World) (hN : NodesAt w b f) (hok : ∀ i, i < f.length → ndOk (ndAt f i)) (hlen : f.length ≤ 1048576) (hkw : Kw w) (hg : 1 < w.heap.size) (eu : TypeId) (pv : Value) (hev : w.cell? ⟨0, 0, none⟩ = some (.iface eu pv)) (hel : 0 < w.heap.size) (F : List Nd) (code : Int) (hF : ngF f = F) (hc : ngC f = code) :
    Calls Tryd.prog 17 #[.slice (some ⟨b, 0, none⟩) f.length cap] w fun e w' => ∃ fa fc, e = .returned (.agg #[.slice fa F.length fc, .int .i64 code]) ∧ NsA w' fa F ∧ RowA w' fa F.length ∧ (∀ q, fa = some q → q = ⟨q.block, 0, none⟩ ∧ w.heap.size ≤ q.block ∧ q.block < w'.heap.size) ∧ Below w.heap.size w w' := by
  have HB0 := hid (fone w (.cells #[.slice none 0 0, .int .i64 0] 26))
  have HX0 := hid (foz w).1
  have HG0 := hid (foz w).2
  have HFs := hid (fs_two w (.cells #[.slice none 0 0, .int .i64 0] 26) f b cap hN 24)
  have HBf := hid (HB0.out.trans ((fone (w.alloc (.cells #[.slice none 0 0, .int .i64 0] 26)) (.cells #[.slice (some ⟨b, 0, none⟩) f.length cap] 24)).mono HB0.out.size))
  have HXf := hid (HX0.out.on (fone (w.alloc (.cells #[.slice none 0 0, .int .i64 0] 26)) (.cells #[.slice (some ⟨b, 0, none⟩) f.length cap] 24)))
  have HGf := hid (HG0.out.on (fone (w.alloc (.cells #[.slice none 0 0, .int .i64 0] 26)) (.cells #[.slice (some ⟨b, 0, none⟩) f.length cap] 24)) HX0.out.lt)
  have HCd := hid (fun c (hc : newCode f = c) => codes_any 1 (by omega) (fun _ => f) (fun _ => b) (fun _ => cap) (w.heap.size + 1) 1 (fun _ _ => ⟨hok, hlen⟩) c (by rw [← newCode_to, hc]) _ HFs.out (hkw.below HBf.out hg) (by have := HBf.out.size; omega))
  by_cases h4 : 400 < f.length
  · obtain rfl : 2 = code := by rw [← hc]; unfold ngC; rw [if_pos h4]
    obtain rfl : [] = F := by rw [← hF, ngF_no hc (by omega)]
    have HCe := hid (HCd.out 2 (by unfold newCode; rw [if_pos h4]))
    clear hF hc hN hkw HCd hev HFs HB0 HX0 HG0
    go_enter Tryd.func17, Tryd.ntmps17
    go_wp2_with (go_at_call 30; refine HCe.out.mono ?_; rintro e w1 ⟨rfl, hb1⟩; have HB1 := hid (HBf.out.trans (hb1.mono HBf.out.size)); obtain ⟨hq, o0, o1⟩ := HXf.out.on hb1; obtain ⟨g0, g1⟩ := HGf.out.on hb1 HXf.out.lt; clear hb1)
    refine bodyPost_ret (v := .agg #[.slice none 0 0, .int .i64 2]) (by simp [results, Tryd.results17, go_sem, o0, o1, g0, g1]) rfl ?_
    have s2 := foset2 w1 w.heap.size (.slice none 0 0) (.int .i64 2)
    first | exact ⟨none, 0, rfl, Or.inl rfl, Or.inl rfl, (fun q e => by cases e), HB1.out.trans (s2.below (B := w.heap.size) HB1.out.size (fun j h => by omega))⟩ | exact ⟨none, ⟨0, rfl⟩, Or.inl rfl, Or.inl rfl, (fun q e => by cases e), HB1.out.trans (s2.below (B := w.heap.size) HB1.out.size (fun j h => by omega))⟩
  by_cases hr : rightB f = true
  · obtain ⟨hl1, hl2, hgd⟩ := rightB_good' f hr
    obtain ⟨hw1, hw2⟩ := layS_whole hgd (by omega)
    have hLk : okL f f.length := fun i hi => (goodTo_at f i _ hi hgd).1
    have HCe := hid (HCd.out 0 (by unfold newCode; rw [if_neg h4, if_pos hr]))
    have hbw := hN.1
    have HNw := hid (fun w' (h : Below w.heap.size w w') => hN.below h hbw)
    have HEv := hid (fun w' (h : Below w.heap.size w w') => (h.cell (p := ⟨0, 0, none⟩) hel).trans hev)
    have HLay := hid (fun (kb sb mb base : Nat) (w' : World) (hn : NodesAt w' b f) (h1 : b < base) (h2 : b ≠ sb) (h3 : b ≠ mb) (v0 : Value) (hM : MakeAt w' kb sb mb base v0 []) => by
      have := takeIn_any f b cap kb sb mb base (by omega) (by omega) hok hLk h1 h2 h3 w' hn v0 hM
      rw [hw1, hw2] at this
      exact this)
    have HNt := hid (fun (kb sb mb lb qb base : Nat) (v : Value) hlv hqv hlk hqk (W : World) (hb : Below w.heap.size w W) (hM : RuleAt W kb sb mb lb qb base v f) => ngTold_any f hr F code hF hc kb sb mb lb qb base v hlv hqv hlk hqk W hM eu pv (HEv.out W hb) (Nat.lt_of_lt_of_le hel hb.size))
    clear hF hc hN hkw HCd hev hr hgd hw1 hw2 hLk HFs HB0 HX0 HG0
    go_enter Tryd.func17, Tryd.ntmps17
    go_wp2_with (first | (go_at_call 30; refine HCe.out.mono ?_; rintro e w1 ⟨rfl, hb1⟩; have HB1 := hid (HBf.out.trans (hb1.mono HBf.out.size)); have HX1 := hid (HXf.out.on hb1); have HG1 := hid (HGf.out.on hb1 HXf.out.lt); clear hb1) | (go_at_call 31; refine (newMakerF_any _).mono ?_; rintro e w6 ⟨kb, sb, mb, rfl, hkb, hsb, hmb, hM6, hb6, hf6⟩; have HM6 := hid hM6; have HB6 := hid (HB1.out.trans (hb6.mono HB1.out.size)); have HX6 := hid (HX1.out.on hb6); have HG6 := hid (HG1.out.on hb6 HX1.out.lt); have HN6 := hid (HNw.out _ HB6.out); have hz6 := hb6.size; have hz1 := HB1.out.size; have hx1 := HX1.out.lt; have HF6 := hid hf6; clear hM6 hb6 hf6) | (go_at_call 38; refine (HLay.out kb sb mb _ _ HN6.out (by omega) (by omega) (by omega) _ HM6.out).mono ?_; rintro e w7 ⟨rfl, v7, hM7, hs7⟩; have HM7 := hid hM7; have HS7 := hid hs7; have hz7 := hs7.size; have HB7 := hid (HB6.out.trans (hs7.below (B := w.heap.size) HB6.out.size (fun j h => by omega))); have HX7 := hid (HX6.out.save hs7 (by omega)); have HG7 := hid (HG6.out.save hs7 HX6.out.lt (by omega)); clear hM7 hs7))
    have hl7 := HM7.out.ltk
    have hks : kb < w6.heap.size := hl7
    have hn1 : ¬ (kb = sb ∨ kb = mb ∨ w6.heap.size ≤ kb) := by
      rintro (h | h | h)
      · exact HM7.out.n1 h
      · exact HM7.out.n2 h
      · omega
    have HK7 := hid (fun o => (HS7.out.frozen (p := ⟨kb, o, none⟩) hks hn1).trans (HF6.out o))
    have hk7 : kb < w7.heap.size := by omega
    have HBq := hid (fone w7 (.cells #[.pointer (some ⟨kb, 0, none⟩)] 54))
    have HM8 := hid (HM7.out.on HBq.out)
    have HK8 := hid (fun o => (HBq.out.frozen (p := ⟨kb, o, none⟩) hk7).trans (HK7.out o))
    have HX8 := hid (HX7.out.on HBq.out)
    have HG8 := hid (HG7.out.on HBq.out HX7.out.lt)
    have HB8 := hid (HB7.out.trans (HBq.out.mono HB7.out.size))
    have hq0 : (w7.alloc (.cells #[.pointer (some ⟨kb, 0, none⟩)] 54)).cell? ⟨w7.heap.size, 0, none⟩ = some (.pointer (some ⟨kb, 0, none⟩)) := by simp [go_sem]
    have hz8 : (w7.alloc (.cells #[.pointer (some ⟨kb, 0, none⟩)] 54)).heap.size = w7.heap.size + 1 := by simp
    generalize hW8 : w7.alloc (.cells #[.pointer (some ⟨kb, 0, none⟩)] 54) = W8 at *
    go_at_call 32
    refine (notRule_any kb w7).mono ?_
    rintro e w8 ⟨rfl, rfl⟩
    rw [hW8]
    have c0 := HM8.out.k0
    have c1 := HM8.out.k1
    have f1 := HK8.out 1
    have hk8 : kb < W8.heap.size := by omega
    have k0' := ((fone W8 (.cells #[.func (.func 53) #[] #[.pointer (some ⟨w7.heap.size, 0, none⟩)]] 59)).cell (p := ⟨kb, 0, none⟩) hk8).trans c0
    have k1' := ((fone W8 (.cells #[.func (.func 53) #[] #[.pointer (some ⟨w7.heap.size, 0, none⟩)]] 59)).cell (p := ⟨kb, 1, none⟩) hk8).trans c1
    have f1' := ((fone W8 (.cells #[.func (.func 53) #[] #[.pointer (some ⟨w7.heap.size, 0, none⟩)]] 59)).frozen (p := ⟨kb, 1, none⟩) hk8).trans f1
    go_wp2_with fail
    have hst := HM7.out.st
    have hown := fun j h => World.ownsRow.lt hst.own j h
    have hlts := hst.lts
    have hltm := hst.ltm
    have hsl : ∀ j, StoreS sb mb v7 j → w1.heap.size ≤ j ∧ j < w7.heap.size := by
      rintro j (h | h | h)
      · exact ⟨by omega, by omega⟩
      · exact ⟨by omega, by omega⟩
      · have := hown j h; exact ⟨by omega, by omega⟩
    have hkn : ¬ StoreS sb mb v7 kb := by
      rintro (h | h | h)
      · exact HM7.out.n1 h
      · exact HM7.out.n2 h
      · have := (hown kb h).1; omega
    have HS9 := hid (((Save.refl W8 (fun j => j = kb)).setCell (p := ⟨kb, 1, none⟩) (fun _ => rfl) (.slice (some ⟨w7.heap.size + 1, 0, none⟩) 1 1)).alloc (.cells #[.func (.func 53) #[] #[.pointer (some ⟨w7.heap.size, 0, none⟩)]] 57))
    have hs8 : (W8.setCell ⟨kb, 1, none⟩ (.slice (some ⟨w7.heap.size + 1, 0, none⟩) 1 1)).heap.size = w7.heap.size + 1 := by simp [hz8]
    have hA := fone (W8.setCell ⟨kb, 1, none⟩ (.slice (some ⟨w7.heap.size + 1, 0, none⟩) 1 1)) (.cells #[.func (.func 53) #[] #[.pointer (some ⟨w7.heap.size, 0, none⟩)]] 57)
    have hz9 := HS9.out.size
    have c2 := HM8.out.k2
    have f2 := HK8.out 2
    have hl9 : ((W8.setCell ⟨kb, 1, none⟩ (.slice (some ⟨w7.heap.size + 1, 0, none⟩) 1 1)).alloc (.cells #[.func (.func 53) #[] #[.pointer (some ⟨w7.heap.size, 0, none⟩)]] 57)).heap.size = w7.heap.size + 2 := by simp [hz8]
    have hM9 : RuleAt ((W8.setCell ⟨kb, 1, none⟩ (.slice (some ⟨w7.heap.size + 1, 0, none⟩) 1 1)).alloc (.cells #[.func (.func 53) #[] #[.pointer (some ⟨w7.heap.size, 0, none⟩)]] 57)) kb sb mb (w7.heap.size + 1) w7.heap.size w6.heap.size v7 f := by
      refine ⟨HM8.out.st.save HS9.out (fun b hb e => hkn (e ▸ hb)), hl7, HM7.out.n1, HM7.out.n2, ?_, ?_, ?_, ?_, ?_, ?_, by omega, by omega⟩
      · exact (hA.cell (p := ⟨kb, 0, none⟩) (by show kb < _; omega)).trans (by simp [go_sem, c0])
      · exact (hA.cell (p := ⟨kb, 1, none⟩) (by show kb < _; omega)).trans (by simp [go_sem, c1, f1])
      · exact (hA.cell (p := ⟨kb, 2, none⟩) (by show kb < _; omega)).trans (by simp [go_sem, c2])
      · exact (hA.frozen (p := ⟨kb, 2, none⟩) (by show kb < _; omega)).trans (by rw [World.frozen?_setCell]; exact f2)
      · rw [← hs8]; simp [go_sem]
      · exact (HS9.out.cell (p := ⟨w7.heap.size, 0, none⟩) (by show w7.heap.size < _; omega) (by show ¬ w7.heap.size = kb; omega)).trans hq0
    have HB9 := hid (HB8.out.trans (HS9.out.below (B := w.heap.size) HB8.out.size (fun j h => by omega)))
    have HX9 := hid (HX8.out.save HS9.out (by show ¬ w.heap.size = kb; omega))
    have HG9 := hid (HG8.out.save HS9.out HX8.out.lt (by show ¬ w.heap.size = kb; omega))
    obtain ⟨r, hnt⟩ := HNt.out kb sb mb (w7.heap.size + 1) w7.heap.size w6.heap.size v7 (fun h => by have := (hsl _ h).2; omega) (fun h => by have := (hsl _ h).2; omega) (by omega) (by omega) _ HB9.out hM9
    have HNT := hid hnt
    have HM9 := hid hM9
    clear hnt hM9 HNt HS9 hA HM8 HM6 HK7 HK8 HS7 HF6 HBq hW8 hown hst
    generalize (W8.setCell ⟨kb, 1, none⟩ (.slice (some ⟨w7.heap.size + 1, 0, none⟩) 1 1)).alloc (.cells #[.func (.func 53) #[] #[.pointer (some ⟨w7.heap.size, 0, none⟩)]] 57) = W9 at *
    have hge : ∀ j, (j = kb ∨ StoreS sb mb v7 j) → w1.heap.size ≤ j := by
      rintro j (h | h)
      · omega
      · exact (hsl j h).1
    go_wp2_with (first | (go_at_call 43; refine HNT.out.mono ?_; rintro e w10 ⟨rfl, hs10, ht10⟩; have HT := hid ht10; have HB10 := hid (HB9.out.trans (hs10.below (B := w.heap.size) HB9.out.size (fun j h => by have := hge j h; omega))); have HX10 := hid (HX9.out.save hs10 (fun h => by have := hge _ h; omega)); have HG10 := hid (HG9.out.save hs10 HX9.out.lt (fun h => by have := hge _ h; omega)); clear hs10 ht10) | (go_at_call 37; refine HT.out.mono ?_; rintro e w11 ⟨fa, fc, rfl, hns, hra, hq, hb8⟩; have HNS := hid hns; have HRA := hid hra; have HQ := hid hq; have HB11 := hid (HB10.out.trans (hb8.mono HB10.out.size)); obtain ⟨hx0, o0, o1⟩ := HX10.out.on hb8; obtain ⟨g0, g1⟩ := HG10.out.on hb8 HX10.out.lt; have hz11 := hb8.size; have hx10 := HX10.out.lt; clear hns hra hq hb8))
    refine bodyPost_ret (v := .agg #[.slice fa F.length fc, .int .i64 code]) (by simp [results, Tryd.results17, go_sem, o0, o1, g0, g1]) rfl ?_
    have s2 := foset2 w11 w.heap.size (.slice fa F.length fc) (.int .i64 code)
    have hz2 := s2.size
    first | exact ⟨fa, fc, rfl, HNS.out.save s2 (fun q e => by have := HQ.out q e; show ¬ q.block = w.heap.size; omega), HRA.out.save s2 (fun q e => by have := HQ.out q e; show ¬ q.block = w.heap.size; omega), (fun q e => by have := HQ.out q e; exact ⟨this.1, by omega, by omega⟩), HB11.out.trans (s2.below (B := w.heap.size) HB11.out.size (fun j h => by omega))⟩ | exact ⟨fa, ⟨fc, rfl⟩, HNS.out.save s2 (fun q e => by have := HQ.out q e; show ¬ q.block = w.heap.size; omega), HRA.out.save s2 (fun q e => by have := HQ.out q e; show ¬ q.block = w.heap.size; omega), (fun q e => by have := HQ.out q e; exact ⟨this.1, by omega, by omega⟩), HB11.out.trans (s2.below (B := w.heap.size) HB11.out.size (fun j h => by omega))⟩
  · obtain rfl : 1 = code := by rw [← hc]; unfold ngC; rw [if_neg h4, if_neg hr]
    obtain rfl : [] = F := by rw [← hF, ngF_no hc (by omega)]
    have HCe := hid (HCd.out 1 (by unfold newCode; rw [if_neg h4, if_neg hr]))
    clear hF hc hN hkw HCd hev HFs HB0 HX0 HG0
    go_enter Tryd.func17, Tryd.ntmps17
    go_wp2_with (go_at_call 30; refine HCe.out.mono ?_; rintro e w1 ⟨rfl, hb1⟩; have HB1 := hid (HBf.out.trans (hb1.mono HBf.out.size)); obtain ⟨hq, o0, o1⟩ := HXf.out.on hb1; obtain ⟨g0, g1⟩ := HGf.out.on hb1 HXf.out.lt; clear hb1)
    refine bodyPost_ret (v := .agg #[.slice none 0 0, .int .i64 1]) (by simp [results, Tryd.results17, go_sem, o0, o1, g0, g1]) rfl ?_
    have s2 := foset2 w1 w.heap.size (.slice none 0 0) (.int .i64 1)
    first | exact ⟨none, 0, rfl, Or.inl rfl, Or.inl rfl, (fun q e => by cases e), HB1.out.trans (s2.below (B := w.heap.size) HB1.out.size (fun j h => by omega))⟩ | exact ⟨none, ⟨0, rfl⟩, Or.inl rfl, Or.inl rfl, (fun q e => by cases e), HB1.out.trans (s2.below (B := w.heap.size) HB1.out.size (fun j h => by omega))⟩
end Go.Proofs.YtagklhfejbdkdaaDoor
namespace Go.Proofs.YtagklhfejbdkdaaDoor
open Go.RowKit
set_option linter.unusedVariables false
set_option linter.unusedSimpArgs false
set_option maxRecDepth 20000 in
set_option maxHeartbeats 4000000 in
theorem specDone_in (g : List Nd) (hg : goodTo g g.length = true) (hl : g.length ≤ 64) (i : Nat) (hi : i < g.length) (F : List Nd) (hF : partG g i = F) (hFl : F.length ≤ 24) (rb base : Nat) (v : Value) (w : World) (hM : MkAt w rb base v g) :
    Calls Tryd.prog 28 #[.pointer (some ⟨rb, 0, none⟩), .int .i64 i] w fun e w' => ∃ fa fc, e = .returned (.agg #[.slice fa F.length fc, .int .i64 0]) ∧ NsA w' fa F ∧ (∀ q, fa = some q → w.heap.size ≤ q.block ∧ q.block < w'.heap.size) ∧ Below w.heap.size w w' := by
  have HB0 := hid (fone w (.cells #[.slice none 0 0, .int .i64 0] 26))
  have HX0 := hid (foz w).1
  have HG0 := hid (foz w).2
  have HM0 := hid (hM.on HB0.out)
  have hrb : rb < w.heap.size := Nat.lt_of_lt_of_le hM.lt hM.ltb
  obtain ⟨va, vc, rfl, hvf⟩ := hM.own.form
  obtain ⟨gb, rfl⟩ : ∃ gb, va = some ⟨gb, 0, none⟩ := by
    rcases hvf with rfl | ⟨b, rfl, _, _⟩
    · exfalso
      rcases hM.own.2 with ⟨_, h0⟩ | ⟨q, cp, cu, e, _⟩
      · omega
      · cases e
    · exact ⟨b, rfl⟩
  have HPt := hid (specPartAt_good g gb vc i _ HM0.out.own.at ⟨by omega, by omega, hg⟩ hi HM0.out.ok)
  have hFe : partTo g (walkF g g.length i []) (walkF g g.length i []).length = F := hF
  rw [hFe] at HPt
  have c0 := HM0.out.c0
  have c2 := HM0.out.c2
  clear hM hg hF hFe
  go_enter Tryd.func28, Tryd.ntmps28
  go_wp2_with (go_at_call 50; refine HPt.out.mono ?_; rintro e w1 ⟨v1, rfl, hO1, hb1⟩; obtain ⟨fa, fc, rfl, hns, hq⟩ := hO1.nsA; have HN := hid hns; have HQ := hid hq; have HB1 := hid (HB0.out.trans (hb1.mono HB0.out.size)); obtain ⟨hq0, o0, o1⟩ := HX0.out.on hb1; obtain ⟨g0, g1⟩ := HG0.out.on hb1 HX0.out.lt; have hz1 := hb1.size; clear hO1 hns hq hb1)
  refine bodyPost_ret (v := .agg #[.slice fa F.length fc, .int .i64 0]) (by simp [results, Tryd.results28, go_sem, o0, o1, g0, g1]) rfl ?_
  have s2 := foset2 w1 w.heap.size (.slice fa F.length fc) (.int .i64 0)
  have hz2 := s2.size
  have hz0 : w.heap.size < (w.alloc (.cells #[.slice none 0 0, .int .i64 0] 26)).heap.size := by simp
  exact ⟨fa, fc, rfl, HN.out.save s2 (fun q e => by have := HQ.out q e; show ¬ q.block = w.heap.size; omega), (fun q e => by have := HQ.out q e; omega), HB1.out.trans (s2.below (B := w.heap.size) HB1.out.size (fun j h => by omega))⟩
set_option maxRecDepth 20000 in
set_option maxHeartbeats 4000000 in
theorem specDone_full (g : List Nd) (hg : goodTo g g.length = true) (hl : g.length ≤ 64) (i : Nat) (hi : i < g.length) (F : List Nd) (hF : partG g i = F) (hFl : 24 < F.length) (rb base : Nat) (v : Value) (w : World) (hM : MkAt w rb base v g) :
    Calls Tryd.prog 28 #[.pointer (some ⟨rb, 0, none⟩), .int .i64 i] w fun e w' => e = .returned (.agg #[.slice none 0 0, .int .i64 9]) ∧ Below w.heap.size w w' := by
  have hFm : F.length ≤ 64 := by rw [← hF]; have := partG_len hg hi; omega
  have hFi : (F.length : Int) > 24 := by omega
  have HB0 := hid (fone w (.cells #[.slice none 0 0, .int .i64 0] 26))
  have HX0 := hid (foz w).1
  have HG0 := hid (foz w).2
  have HM0 := hid (hM.on HB0.out)
  have hrb : rb < w.heap.size := Nat.lt_of_lt_of_le hM.lt hM.ltb
  obtain ⟨va, vc, rfl, hvf⟩ := hM.own.form
  obtain ⟨gb, rfl⟩ : ∃ gb, va = some ⟨gb, 0, none⟩ := by
    rcases hvf with rfl | ⟨b, rfl, _, _⟩
    · exfalso
      rcases hM.own.2 with ⟨_, h0⟩ | ⟨q, cp, cu, e, _⟩
      · omega
      · cases e
    · exact ⟨b, rfl⟩
  have HPt := hid (specPartAt_good g gb vc i _ HM0.out.own.at ⟨by omega, by omega, hg⟩ hi HM0.out.ok)
  have hFe : partTo g (walkF g g.length i []) (walkF g g.length i []).length = F := hF
  rw [hFe] at HPt
  have c0 := HM0.out.c0
  have c2 := HM0.out.c2
  clear hM hg hF hFe
  go_enter Tryd.func28, Tryd.ntmps28
  go_wp2_with (go_at_call 50; refine HPt.out.mono ?_; rintro e w1 ⟨v1, rfl, hO1, hb1⟩; obtain ⟨fa, fc, rfl, hns, hq⟩ := hO1.nsA; have HN := hid hns; have HQ := hid hq; have HB1 := hid (HB0.out.trans (hb1.mono HB0.out.size)); obtain ⟨hq0, o0, o1⟩ := HX0.out.on hb1; obtain ⟨g0, g1⟩ := HG0.out.on hb1 HX0.out.lt; have hz1 := hb1.size; clear hO1 hns hq hb1)
  refine bodyPost_ret (v := .agg #[.slice none 0 0, .int .i64 9]) (by simp [results, Tryd.results28, go_sem, o0, o1, g0, g1]) rfl ?_
  have s2 := foset2 w1 w.heap.size (.slice none 0 0) (.int .i64 9)
  exact ⟨rfl, HB1.out.trans (s2.below (B := w.heap.size) HB1.out.size (fun j h => by omega))⟩
end Go.Proofs.YtagklhfejbdkdaaDoor
namespace Go.Proofs.YtagklhfejbdkdaaDoor
open Go.RowKit
set_option linter.unusedVariables false
set_option linter.unusedSimpArgs false
theorem layF_to {g0 f : List Nd} {k n : Nat} (h : LaidF g0 f k) (hk : k ≤ n) (hn : g0.length + n ≤ 1000) : ∀ j, 0 ≤ (layF g0 f k).2 j ∧ (layF g0 f k).2 j ≤ 1000 := by
  intro j
  by_cases hj : j < k
  · have := h.to j hj; have := h.len; omega
  · rw [h.zero j (by omega)]; omega
theorem layF_ok {g0 f : List Nd} (hg0 : goodTo g0 g0.length = true) (ho0 : ∀ i, i < g0.length → ndOk (ndAt g0 i)) (hok : ∀ i, i < f.length → ndOk (ndAt f i)) (hL : okL f f.length) (hn : g0.length + f.length ≤ 1000) : ∀ k, k ≤ f.length → ∀ i, i < (layF g0 f k).1.length → ndOk (ndAt (layF g0 f k).1 i)
  | 0, _, i, hi => ho0 i hi
  | k + 1, hk, i, hi => by
    have hlg := laidF_all g0 f hg0 f.length hL k (by omega)
    have h1 := layF_ok hg0 ho0 hok hL hn k (by omega)
    have h2 := moved_ok (hok k (by omega)) (layF_to hlg (n := f.length) (by omega) hn)
    have e : (layF g0 f (k + 1)).1 = putG (layF g0 f k).1 (movedN (layF g0 f k).2 (ndAt f k)) := rfl
    rw [e] at hi ⊢
    by_cases h3 : i < (layF g0 f k).1.length
    · rw [ndAt_put _ _ _ h3]; exact h1 i h3
    · have h4 := putG_len (layF g0 f k).1 (movedN (layF g0 f k).2 (ndAt f k))
      by_cases h5 : plG (layF g0 f k).1 (movedN (layF g0 f k).2 (ndAt f k)) < (layF g0 f k).1.length
      · rw [putG_old h5] at hi; omega
      · have h6 := plG_le (layF g0 f k).1 (movedN (layF g0 f k).2 (ndAt f k))
        have h7 : i = plG (layF g0 f k).1 (movedN (layF g0 f k).2 (ndAt f k)) := by omega
        rw [h7, ndAt_put_at]; exact h2
set_option maxRecDepth 20000 in
set_option maxHeartbeats 8000000 in
theorem specLayF_any (g0 : List Nd) (hg0 : goodTo g0 g0.length = true) (hl0 : g0.length ≤ 49) (f : List Nd) (b cap rb base : Nat) (h0 : 0 < f.length) (hn : f.length ≤ 24) (hok : ∀ i, i < f.length → ndOk (ndAt f i)) (hL : okL f f.length) (hbb : b < base) (hbr : b ≠ rb) (w : World) (hN : NodesAt w b f) (v0 : Value) (hM : MkAt w rb base v0 g0) :
    Calls Tryd.prog 42 #[.pointer (some ⟨rb, 0, none⟩), .slice (some ⟨b, 0, none⟩) f.length cap] w fun e w' => e = .returned (.int .i64 ((layF g0 f f.length).2 (f.length - 1))) ∧ ∃ v', MkAt w' rb base v' (layF g0 f f.length).1 ∧ Save w w' (fun j => j = rb ∨ base ≤ j) := by
  have HM := hid hM
  have HN := hid hN
  have HOk := hid hok
  have HL := hid (fun k (hk : k ≤ f.length) => laidF_all g0 f hg0 f.length hL k hk)
  have HLo := hid (layF_ok hg0 hM.ok hok hL (by omega))
  have HLt := hid hL
  have hmk := run_make_row' (P := Tryd.prog) 45 2 (.int .i64 0) 8 Tryd.underlying45 Tryd.infoI rfl .i64 .i64 f.length (by omega) (by omega)
  have hrb := hM.lt
  have hltb := hM.ltb
  have HR0 : Hid (RowD (w.alloc (.cells (madeCells #[.int .i64 0] f.length) 2)) w.heap.size f.length (fun _ => 0)) := World.rowIs_made _ _ _ _
  have HW0 := hid (fone w (.cells (madeCells #[.int .i64 0] f.length) 2))
  clear hM hN hok hL
  go_enter Tryd.func42, Tryd.ntmps42
  go_wp2_with fail
  have hvo0 : ∀ q, v0.ownBlock = some q → q ≠ w.heap.size := fun q hq => by have := (World.ownsRow.lt HM.out.own q hq).2; omega
  have HM1 := hid (HM.out.on HW0.out)
  have HN1 := hid (HN.out.below HW0.out HN.out.1)
  have hsz1 : w.heap.size < (w.alloc (.cells (madeCells #[.int .i64 0] f.length) 2)).heap.size := by simp
  generalize w.alloc (.cells (madeCells #[.int .i64 0] f.length) 2) = W1 at *
  clear hmk
  go_loopw [6] (fun t wr => ∃ (k : Nat) (v : Value), k ≤ f.length ∧ t = .int .i64 k ∧ (∀ q, v.ownBlock = some q → q ≠ w.heap.size) ∧ RowD wr w.heap.size f.length (layF g0 f k).2 ∧ MkAt wr rb base v (layF g0 f k).1 ∧ Save W1 wr (fun j => j = rb ∨ base ≤ j)) (fun t _ => f.length - (intOf t).toNat)
  case atStart => exact ⟨0, v0, Nat.zero_le _, rfl, hvo0, HR0.out, HM1.out, Save.refl _ _⟩
  case round =>
    obtain ⟨k, v, hk, rfl, hvo, hrow, hM, hsv⟩ := hrel
    have HRow := hid hrow
    have HMr := hid hM
    have HSv := hid hsv
    have hszr := hsv.size
    have hrl := hrow.lt
    have hbw : b < w.heap.size := HN.out.1
    have HNr := hid (hsv.nodes HN1.out (by rintro (h | h) <;> omega))
    clear hrow hM hsv
    by_cases hlt : k < f.length
    · have HLg := hid (HL.out k (by omega))
      have HOy := hid (moved_ok (HOk.out k hlt) (layF_to (HL.out k (by omega)) (n := f.length) (by omega) (by omega)))
      have HOb := hid (fun j (h : v.ownBlock = some j) => (World.ownsRow.lt HMr.out.own j h).1)
      have hx := nodeB_arms _ _ (HLt.out k hlt)
      obtain ⟨c0, c1, c2, c3, c4, c5⟩ := HNr.out.2 k hlt
      have hbr' := HNr.out.1
      have hRE : ∀ j, (layF g0 f (k + 1)).2 j = if j = k then ((plG (layF g0 f k).1 (movedN (layF g0 f k).2 (ndAt f k)) : Nat) : Int) else (layF g0 f k).2 j := fun j => rfl
      have HGE : Hid ((layF g0 f (k + 1)).1 = putG (layF g0 f k).1 (movedN (layF g0 f k).2 (ndAt f k))) := rfl
      rcases armsN_012 (ndAt f k).k with ha | ha | ha
      · have HM := hid (movedN_0 (layF g0 f k).2 (ndAt f k) ha)
        have e : ndV (movedN (layF g0 f k).2 (ndAt f k)) = .agg #[.int .i64 (ndAt f k).k, .int .i64 (ndAt f k).a, .int .i64 (ndAt f k).b, .int .i64 (ndAt f k).lo, .int .i64 (ndAt f k).hi, .string (ndAt f k).nm] := by rw [HM.out]; rfl
        have HPt := hid (fun w' h => by have := put_any (movedN (layF g0 f k).2 (ndAt f k)) HOy.out (layF g0 f k).1 rb base v (by have := HLg.out.len; omega) w' h; rw [e] at this; exact this)
        have HRE := hid hRE
        clear e hRE
        generalize hP : plG (layF g0 f k).1 (movedN (layF g0 f k).2 (ndAt f k)) = P at *
        generalize hG : putG (layF g0 f k).1 (movedN (layF g0 f k).2 (ndAt f k)) = G at *
        clear hP hG HM
        generalize ndAt f k = x at *
        go_wp2_with (first | (go_at_call 61; refine (arms_w _ _).mono ?_; rintro e w' ⟨rfl, rfl⟩) | (go_at_call 24; refine (HPt.out _ (HMr.out.on (fone wr _))).mono ?_; rintro e w2 ⟨rfl, v', hM2, hs2, hv2⟩; have HM2 := hid hM2; have HS2 := hid ((Save.of_below (fone wr _) (MkB rb v) (fun j h1 h2 => absurd h1 (by omega))).trans hs2); have HV2 := hid hv2; have HR2 := hid (World.rowIs.of_block HRow.out (HS2.out.block w.heap.size HRow.out.lt (by rintro (h | h); exact absurd h (by omega); exact hvo _ h rfl))); have d2 := HR2.out.cell (i := k) hlt; have f2 := HR2.out.frozen k; clear hM2 hs2 hv2))
        go_roundw
        case rel =>
          have hvo' : ∀ q, v'.ownBlock = some q → q ≠ w.heap.size := fun q hq => by
            rcases HV2.out q hq with h | h
            · exact hvo q h
            · have := hszr; simp at h; omega
          have hs3 := Save.setCell (S := fun j => j = w.heap.size) (Save.refl w2 _) (p := ⟨w.heap.size, k, none⟩) (fun _ => rfl) (.int .i64 (P : Nat))
          refine ⟨k + 1, v', by omega, by go_num, hvo', (RowD.set HR2.out k (P : Nat)).congr (fun j => by rw [HRE.out]), ?_, ?_⟩
          · rw [HGE.out]; exact HM2.out.save hs3 (by rintro j (h | h) h2; exact absurd h2 (by show ¬ j = w.heap.size; omega); exact absurd h2 (hvo' j h))
          · exact (HSv.out.trans (HS2.out.mono (fun j _ h => by rcases h with h | h; exact Or.inl h; exact Or.inr (HOb.out j h)))).setCell (p := ⟨w.heap.size, k, none⟩) (fun _ => Or.inr hltb) _
        case measure => simp [intOf]; omega
      · obtain ⟨na, hna⟩ := Int.eq_ofNat_of_zero_le (hx.1 (by omega)).1
        have hlta := (hx.1 (by omega)).2
        rw [hna] at hlta
        have HM := hid (movedN_1 (layF g0 f k).2 (ndAt f k) na ha hna)
        have ea := HRow.out.cell (i := na) (by omega)
        rw [hna] at c1
        have e : ndV (movedN (layF g0 f k).2 (ndAt f k)) = .agg #[.int .i64 (ndAt f k).k, .int .i64 ((layF g0 f k).2 na), .int .i64 (ndAt f k).b, .int .i64 (ndAt f k).lo, .int .i64 (ndAt f k).hi, .string (ndAt f k).nm] := by rw [HM.out]; rfl
        have HPt := hid (fun w' h => by have := put_any (movedN (layF g0 f k).2 (ndAt f k)) HOy.out (layF g0 f k).1 rb base v (by have := HLg.out.len; omega) w' h; rw [e] at this; exact this)
        have HRE := hid hRE
        clear e hRE
        generalize hP : plG (layF g0 f k).1 (movedN (layF g0 f k).2 (ndAt f k)) = P at *
        generalize hG : putG (layF g0 f k).1 (movedN (layF g0 f k).2 (ndAt f k)) = G at *
        clear hP hG HM hna hx
        generalize (layF g0 f k).2 na = D at *
        generalize ndAt f k = x at *
        go_wp2_with (first | (go_at_call 61; refine (arms_w _ _).mono ?_; rintro e w' ⟨rfl, rfl⟩) | (go_at_call 24; refine (HPt.out _ (HMr.out.on (fone wr _))).mono ?_; rintro e w2 ⟨rfl, v', hM2, hs2, hv2⟩; have HM2 := hid hM2; have HS2 := hid ((Save.of_below (fone wr _) (MkB rb v) (fun j h1 h2 => absurd h1 (by omega))).trans hs2); have HV2 := hid hv2; have HR2 := hid (World.rowIs.of_block HRow.out (HS2.out.block w.heap.size HRow.out.lt (by rintro (h | h); exact absurd h (by omega); exact hvo _ h rfl))); have d2 := HR2.out.cell (i := k) hlt; have f2 := HR2.out.frozen k; clear hM2 hs2 hv2))
        go_roundw
        case rel =>
          have hvo' : ∀ q, v'.ownBlock = some q → q ≠ w.heap.size := fun q hq => by
            rcases HV2.out q hq with h | h
            · exact hvo q h
            · have := hszr; simp at h; omega
          have hs3 := Save.setCell (S := fun j => j = w.heap.size) (Save.refl w2 _) (p := ⟨w.heap.size, k, none⟩) (fun _ => rfl) (.int .i64 (P : Nat))
          refine ⟨k + 1, v', by omega, by go_num, hvo', (RowD.set HR2.out k (P : Nat)).congr (fun j => by rw [HRE.out]), ?_, ?_⟩
          · rw [HGE.out]; exact HM2.out.save hs3 (by rintro j (h | h) h2; exact absurd h2 (by show ¬ j = w.heap.size; omega); exact absurd h2 (hvo' j h))
          · exact (HSv.out.trans (HS2.out.mono (fun j _ h => by rcases h with h | h; exact Or.inl h; exact Or.inr (HOb.out j h)))).setCell (p := ⟨w.heap.size, k, none⟩) (fun _ => Or.inr hltb) _
        case measure => simp [intOf]; omega
      · obtain ⟨na, hna⟩ := Int.eq_ofNat_of_zero_le (hx.1 (by omega)).1
        have hlta := (hx.1 (by omega)).2
        rw [hna] at hlta
        obtain ⟨nb, hnb'⟩ := Int.eq_ofNat_of_zero_le (hx.2 (by omega)).1
        have hltb' := (hx.2 (by omega)).2
        rw [hnb'] at hltb'
        have HM := hid (movedN_2 (layF g0 f k).2 (ndAt f k) na nb ha hna hnb')
        have ea := HRow.out.cell (i := na) (by omega)
        have eb := HRow.out.cell (i := nb) (by omega)
        rw [hna] at c1
        rw [hnb'] at c2
        have e : ndV (movedN (layF g0 f k).2 (ndAt f k)) = .agg #[.int .i64 (ndAt f k).k, .int .i64 ((layF g0 f k).2 na), .int .i64 ((layF g0 f k).2 nb), .int .i64 (ndAt f k).lo, .int .i64 (ndAt f k).hi, .string (ndAt f k).nm] := by rw [HM.out]; rfl
        have HPt := hid (fun w' h => by have := put_any (movedN (layF g0 f k).2 (ndAt f k)) HOy.out (layF g0 f k).1 rb base v (by have := HLg.out.len; omega) w' h; rw [e] at this; exact this)
        have HRE := hid hRE
        clear e hRE
        generalize hP : plG (layF g0 f k).1 (movedN (layF g0 f k).2 (ndAt f k)) = P at *
        generalize hG : putG (layF g0 f k).1 (movedN (layF g0 f k).2 (ndAt f k)) = G at *
        clear hP hG HM hna hnb' hx
        generalize (layF g0 f k).2 na = D at *
        generalize (layF g0 f k).2 nb = E at *
        generalize ndAt f k = x at *
        go_wp2_with (first | (go_at_call 61; refine (arms_w _ _).mono ?_; rintro e w' ⟨rfl, rfl⟩) | (go_at_call 24; refine (HPt.out _ (HMr.out.on (fone wr _))).mono ?_; rintro e w2 ⟨rfl, v', hM2, hs2, hv2⟩; have HM2 := hid hM2; have HS2 := hid ((Save.of_below (fone wr _) (MkB rb v) (fun j h1 h2 => absurd h1 (by omega))).trans hs2); have HV2 := hid hv2; have HR2 := hid (World.rowIs.of_block HRow.out (HS2.out.block w.heap.size HRow.out.lt (by rintro (h | h); exact absurd h (by omega); exact hvo _ h rfl))); have d2 := HR2.out.cell (i := k) hlt; have f2 := HR2.out.frozen k; clear hM2 hs2 hv2))
        go_roundw
        case rel =>
          have hvo' : ∀ q, v'.ownBlock = some q → q ≠ w.heap.size := fun q hq => by
            rcases HV2.out q hq with h | h
            · exact hvo q h
            · have := hszr; simp at h; omega
          have hs3 := Save.setCell (S := fun j => j = w.heap.size) (Save.refl w2 _) (p := ⟨w.heap.size, k, none⟩) (fun _ => rfl) (.int .i64 (P : Nat))
          refine ⟨k + 1, v', by omega, by go_num, hvo', (RowD.set HR2.out k (P : Nat)).congr (fun j => by rw [HRE.out]), ?_, ?_⟩
          · rw [HGE.out]; exact HM2.out.save hs3 (by rintro j (h | h) h2; exact absurd h2 (by show ¬ j = w.heap.size; omega); exact absurd h2 (hvo' j h))
          · exact (HSv.out.trans (HS2.out.mono (fun j _ h => by rcases h with h | h; exact Or.inl h; exact Or.inr (HOb.out j h)))).setCell (p := ⟨w.heap.size, k, none⟩) (fun _ => Or.inr hltb) _
        case measure => simp [intOf]; omega
    · have hk' : k = f.length := by omega
      subst hk'
      have d := HRow.out.cell (i := f.length - 1) (by omega)
      have hidx : ((f.length : Int) - 1).toNat = f.length - 1 := by omega
      have hidx2 : (f.length : Int) - 1 = ((f.length - 1 : Nat) : Int) := by omega
      have hlt1 : f.length - 1 < f.length := by omega
      go_wp2_with fail
      go_ret
      exact ⟨rfl, v, HMr.out, (Save.of_below HW0.out _ (fun j h1 h2 => absurd h1 (by omega))).trans HSv.out⟩
end Go.Proofs.YtagklhfejbdkdaaDoor
namespace Go.Proofs.YtagklhfejbdkdaaDoor
open Go.RowKit
set_option linter.unusedVariables false
set_option linter.unusedSimpArgs false
theorem notN_ok (a : Nat) (h : a ≤ 1000) : ndOk (notN a) := by
  unfold ndOk notN
  refine ⟨?_, ?_, ?_, ?_, ?_, ?_⟩ <;> simp [Nd.k, Nd.a, Nd.b, Nd.lo, Nd.hi, Nd.nm] <;> first | omega | decide
theorem MkAt.row {w : World} {rb base : Nat} {v : Value} {g : List Nd} (h : MkAt w rb base v g) (h0 : 0 < g.length) : ∃ gb vc, v = .slice (some ⟨gb, 0, none⟩) g.length vc ∧ NodesAt w gb g := by
  obtain ⟨va, vc, rfl, hvf⟩ := h.own.form
  obtain ⟨gb, rfl⟩ : ∃ gb, va = some ⟨gb, 0, none⟩ := by
    rcases hvf with rfl | ⟨b, rfl, _, _⟩
    · exfalso
      rcases h.own.2 with ⟨_, h0⟩ | ⟨q, cp, cu, e, _⟩
      · omega
      · cases e
    · exact ⟨b, rfl⟩
  exact ⟨gb, vc, rfl, h.own.at⟩
set_option maxRecDepth 20000 in
set_option maxHeartbeats 2000000 in
theorem snot_any (g : List Nd) (hg : goodTo g g.length = true) (a : Nat) (ha : a < g.length) (hlen : g.length < 80) (rb base : Nat) (v : Value) (w : World) (hM : MkAt w rb base v g) :
    Calls Tryd.prog 25 #[.pointer (some ⟨rb, 0, none⟩), .int .i64 a] w fun e w' => e = .returned (.int .i64 ((notG g a).2 : Nat)) ∧ ∃ v', MkAt w' rb base v' (notG g a).1 ∧ Save w w' (MkB rb v) := by
  have HM := hid hM
  obtain ⟨gb, vc, rfl, hN⟩ := hM.row (by omega)
  obtain ⟨n0, n1, _, _, _, _⟩ := hN.2 a ha
  have c0 := hM.c0
  have c2 := hM.c2
  have hi0 : ((a : Int) * 6).toNat = a * 6 := by omega
  by_cases hk : (ndAt g a).k = 3
  · have har := (nodeB_arms _ _ (goodTo_at g a _ ha hg).1).1 (by rw [hk]; decide)
    obtain ⟨na, hna⟩ := Int.eq_ofNat_of_zero_le har.1
    have HG : Hid (notG g a = (g, na)) := hid (by unfold notG; rw [if_pos hk, hna, Int.toNat_natCast])
    rw [hk] at n0
    rw [hna] at n1
    clear hM hN har
    go_enter Tryd.func25, Tryd.ntmps25
    go_wp2_with fail
    go_ret
    exact ⟨by rw [HG.out]; rfl, _, by rw [HG.out]; exact HM.out, Save.refl _ _⟩
  · have HG : Hid (notG g a = (putG g (notN a), plG g (notN a))) := hid (by unfold notG; rw [if_neg hk])
    have HPt := hid (put_any (notN a) (notN_ok a (by omega)) g rb base _ hlen w hM)
    have e : ndV (notN a) = .agg #[.int .i64 3, .int .i64 a, .int .i64 0, .int .i64 0, .int .i64 0, .string ⟨#[]⟩] := rfl
    rw [e] at HPt
    generalize hP : plG g (notN a) = P at *
    generalize hQ : putG g (notN a) = Q at *
    clear hM hN hP hQ e
    go_enter Tryd.func25, Tryd.ntmps25
    go_wp2_with (go_at_call 24; refine HPt.out.mono ?_; rintro e w2 ⟨rfl, v', hM2, hs2, hv2⟩; have HM2 := hid hM2; have HS2 := hid hs2; clear hM2 hs2 hv2)
    go_ret
    exact ⟨by rw [HG.out]; rfl, v', by rw [HG.out]; exact HM2.out, HS2.out⟩
end Go.Proofs.YtagklhfejbdkdaaDoor
namespace Go.Proofs.YtagklhfejbdkdaaDoor
open Go.RowKit
set_option linter.unusedVariables false
set_option linter.unusedSimpArgs false
theorem mk_new' (w : World) : MkAt (w.alloc (.cells #[.slice none 0 0, .int .i64 80, .bool false] 44)) w.heap.size (w.heap.size + 1) (.slice none 0 0) [] :=
  ⟨by omega, by simp, by simp [go_sem], by simp [go_sem], by simp [go_sem], by simp [go_sem], World.ownsRow_nil _ _ _ _, fun i hi => by simp at hi⟩
set_option maxRecDepth 20000 in
set_option maxHeartbeats 8000000 in
theorem specNg_any (f : List Nd) (b cap : Nat) (w : World) (hN : NodesAt w b f) (hok : ∀ i, i < f.length → ndOk (ndAt f i)) (hlen : f.length ≤ 1048576) (F : List Nd) (code : Int) (hF : ngF f = F) (hc : ngC f = code) :
    Calls Tryd.prog 16 #[.slice (some ⟨b, 0, none⟩) f.length cap] w fun e w' => ∃ fa fc, e = .returned (.agg #[.slice fa F.length fc, .int .i64 code]) ∧ NsA w' fa F ∧ (∀ q, fa = some q → w.heap.size ≤ q.block ∧ q.block < w'.heap.size) ∧ Below w.heap.size w w' := by
  have HB0 := hid (fone w (.cells #[.slice none 0 0, .int .i64 0] 26))
  have HX0 := hid (foz w).1
  have HG0 := hid (foz w).2
  by_cases h4 : 400 < f.length
  · obtain rfl : 2 = code := by rw [← hc]; unfold ngC; rw [if_pos h4]
    obtain rfl : [] = F := by rw [← hF, ngF_no hc (by omega)]
    clear hF hc
    have i1 : (f.length : Int) > 400 := by omega
    go_enter Tryd.func16, Tryd.ntmps16
    go_wp2_with fail
    refine bodyPost_ret (v := .agg #[.slice none 0 0, .int .i64 2]) (by simp [results, Tryd.results16, go_sem]) rfl ?_
    first | exact ⟨none, 0, rfl, Or.inl rfl, (fun q e => by cases e), fone _ _⟩ | exact ⟨none, ⟨0, rfl⟩, Or.inl rfl, (fun q e => by cases e), fone _ _⟩
  have i1 : ¬ (f.length : Int) > 400 := by omega
  have HR : Hid (∀ v, rightB f = v → ∀ w' : World, Below w.heap.size w w' → Calls Tryd.prog 23 #[.slice (some ⟨b, 0, none⟩) f.length cap] w' fun e w'' => e = .returned (.bool v) ∧ Below w'.heap.size w' w'') := fun v hv w' h => by subst hv; exact specRight_any f b cap w' (hN.below h hN.1) (fun i hi => (hok i hi).nm) (by unfold maxLen; omega)
  by_cases hr : rightB f = true
  · obtain ⟨hl1, hl2, hgd⟩ := rightB_good' f hr
    obtain ⟨hw1, hw2⟩ := layS_whole hgd (by omega)
    obtain ⟨hn1, hn2, hn3⟩ := notG_good hgd (show f.length - 1 < f.length by omega)
    have hLk : okL f f.length := fun i hi => (goodTo_at f i _ hi hgd).1
    have HFr := hid (HR.out true hr)
    have HNw := hid (fun w' (h : Below w.heap.size w w') => hN.below h hN.1)
    have hbw := hN.1
    have HLay := hid (fun (rb base : Nat) (w' : World) (hn : NodesAt w' b f) (h1 : b < base) (h2 : b ≠ rb) (v0 : Value) (hM : MkAt w' rb base v0 []) => by
      have := specLay_any f b cap rb base (by omega) (by omega) hok hLk h1 h2 w' hn v0 hM
      rw [hw1, hw2] at this
      exact this)
    have HNt := hid (fun (rb base : Nat) (v : Value) (w' : World) (hM : MkAt w' rb base v f) => snot_any f hgd (f.length - 1) (by omega) (by omega) rb base v w' hM)
    have hGe : partG (notG f (f.length - 1)).1 (notG f (f.length - 1)).2 = ngG f := rfl
    by_cases hbig : 24 < (ngG f).length
    · obtain rfl : 9 = code := by rw [← hc]; unfold ngC; rw [if_neg h4, if_pos hr, if_pos hbig]
      obtain rfl : [] = F := by rw [← hF, ngF_no hc (by omega)]
      have HDn := hid (fun (rb base : Nat) (v : Value) (w' : World) (hM : MkAt w' rb base v (notG f (f.length - 1)).1) => specDone_full _ hn1 (by omega) _ hn2 _ hGe hbig rb base v w' hM)
      clear hF hc HR hr hN hgd hLk hw1 hw2 hn1 hn2 hn3 hGe hbig
      generalize notG f (f.length - 1) = G at *
      go_enter Tryd.func16, Tryd.ntmps16
      go_wp2_with (first | (go_at_call 23; refine (HFr.out _ HB0.out).mono ?_; rintro e w1 ⟨rfl, hb1⟩; have HB1 := hid (HB0.out.trans (hb1.mono HB0.out.size)); have HX1 := hid (HX0.out.on hb1); have HG1 := hid (HG0.out.on hb1 HX0.out.lt); have hs1 := hb1.size; have hx1 := HX1.out.lt; have HM1 := hid (mk_new' w1); have HB2 := hid (HB1.out.trans ((fone w1 (.cells #[.slice none 0 0, .int .i64 80, .bool false] 44)).mono HB1.out.size)); have HX2 := hid (HX1.out.on (fone w1 (.cells #[.slice none 0 0, .int .i64 80, .bool false] 44))); have HG2 := hid (HG1.out.on (fone w1 (.cells #[.slice none 0 0, .int .i64 80, .bool false] 44)) HX1.out.lt); have HN2 := hid (HNw.out _ HB2.out); clear hb1) | (go_at_call 42; refine (HLay.out w1.heap.size (w1.heap.size + 1) _ HN2.out (by omega) (by omega) _ HM1.out).mono ?_; rintro e w3 ⟨rfl, v3, hM3, hs3⟩; have HM3 := hid hM3; have HB3 := hid (HB2.out.trans (hs3.below (B := w.heap.size) HB2.out.size (fun j h => by omega))); have HX3 := hid (HX2.out.save hs3 (by omega)); have HG3 := hid (HG2.out.save hs3 HX2.out.lt (by omega)); clear hM3 hs3) | (go_at_call 25; refine (HNt.out _ _ _ _ HM3.out).mono ?_; rintro e w4 ⟨rfl, v4, hM4, hs4⟩; have HM4 := hid hM4; have hmb : ∀ j, MkB w1.heap.size v3 j → w1.heap.size ≤ j := (fun j h => by rcases h with h | h; omega; have := (World.ownsRow.lt HM3.out.own j h).1; omega); have HB4 := hid (HB3.out.trans (hs4.below (B := w.heap.size) HB3.out.size (fun j h => by have := hmb j h; omega))); have HX4 := hid (HX3.out.save hs4 (fun h => by have := hmb _ h; omega)); have HG4 := hid (HG3.out.save hs4 HX3.out.lt (fun h => by have := hmb _ h; omega)); clear hM4 hs4 hmb) | (go_at_call 28; refine (HDn.out _ _ _ _ HM4.out).mono ?_; rintro e w8 ⟨rfl, hb8⟩; have HB8 := hid (HB4.out.trans (hb8.mono HB4.out.size)); obtain ⟨hx0, o0, o1⟩ := HX4.out.on hb8; obtain ⟨g0, g1⟩ := HG4.out.on hb8 HX4.out.lt; clear hb8))
      refine bodyPost_ret (v := .agg #[.slice none 0 0, .int .i64 9]) (by simp [results, Tryd.results16, go_sem, o0, o1, g0, g1]) rfl ?_
      have s2 := foset2 w8 w.heap.size (.slice none 0 0) (.int .i64 9)
      first | exact ⟨none, 0, rfl, Or.inl rfl, (fun q e => by cases e), HB8.out.trans (s2.below (B := w.heap.size) HB8.out.size (fun j h => by omega))⟩ | exact ⟨none, ⟨0, rfl⟩, Or.inl rfl, (fun q e => by cases e), HB8.out.trans (s2.below (B := w.heap.size) HB8.out.size (fun j h => by omega))⟩
    · obtain rfl : 0 = code := by rw [← hc]; unfold ngC; rw [if_neg h4, if_pos hr, if_neg hbig]
      obtain rfl : ngG f = F := by rw [← hF, ngF_yes hc]
      have HDn := hid (fun (rb base : Nat) (v : Value) (w' : World) (hM : MkAt w' rb base v (notG f (f.length - 1)).1) => specDone_in _ hn1 (by omega) _ hn2 _ hGe (by omega) rb base v w' hM)
      clear hF hc HR hr hN hgd hLk hw1 hw2 hn1 hn2 hn3 hGe hbig
      generalize notG f (f.length - 1) = G at *
      generalize ngG f = F at *
      go_enter Tryd.func16, Tryd.ntmps16
      go_wp2_with (first | (go_at_call 23; refine (HFr.out _ HB0.out).mono ?_; rintro e w1 ⟨rfl, hb1⟩; have HB1 := hid (HB0.out.trans (hb1.mono HB0.out.size)); have HX1 := hid (HX0.out.on hb1); have HG1 := hid (HG0.out.on hb1 HX0.out.lt); have hs1 := hb1.size; have hx1 := HX1.out.lt; have HM1 := hid (mk_new' w1); have HB2 := hid (HB1.out.trans ((fone w1 (.cells #[.slice none 0 0, .int .i64 80, .bool false] 44)).mono HB1.out.size)); have HX2 := hid (HX1.out.on (fone w1 (.cells #[.slice none 0 0, .int .i64 80, .bool false] 44))); have HG2 := hid (HG1.out.on (fone w1 (.cells #[.slice none 0 0, .int .i64 80, .bool false] 44)) HX1.out.lt); have HN2 := hid (HNw.out _ HB2.out); clear hb1) | (go_at_call 42; refine (HLay.out w1.heap.size (w1.heap.size + 1) _ HN2.out (by omega) (by omega) _ HM1.out).mono ?_; rintro e w3 ⟨rfl, v3, hM3, hs3⟩; have HM3 := hid hM3; have HB3 := hid (HB2.out.trans (hs3.below (B := w.heap.size) HB2.out.size (fun j h => by omega))); have HX3 := hid (HX2.out.save hs3 (by omega)); have HG3 := hid (HG2.out.save hs3 HX2.out.lt (by omega)); clear hM3 hs3) | (go_at_call 25; refine (HNt.out _ _ _ _ HM3.out).mono ?_; rintro e w4 ⟨rfl, v4, hM4, hs4⟩; have HM4 := hid hM4; have hmb : ∀ j, MkB w1.heap.size v3 j → w1.heap.size ≤ j := (fun j h => by rcases h with h | h; omega; have := (World.ownsRow.lt HM3.out.own j h).1; omega); have HB4 := hid (HB3.out.trans (hs4.below (B := w.heap.size) HB3.out.size (fun j h => by have := hmb j h; omega))); have HX4 := hid (HX3.out.save hs4 (fun h => by have := hmb _ h; omega)); have HG4 := hid (HG3.out.save hs4 HX3.out.lt (fun h => by have := hmb _ h; omega)); clear hM4 hs4 hmb) | (go_at_call 28; refine (HDn.out _ _ _ _ HM4.out).mono ?_; rintro e w8 ⟨fa, fc, rfl, hns, hq, hb8⟩; have HNS := hid hns; have HQ := hid hq; have HB8 := hid (HB4.out.trans (hb8.mono HB4.out.size)); obtain ⟨hx0, o0, o1⟩ := HX4.out.on hb8; obtain ⟨g0, g1⟩ := HG4.out.on hb8 HX4.out.lt; have hz8 := hb8.size; have hx4 := HX4.out.lt; clear hns hq hb8))
      refine bodyPost_ret (v := .agg #[.slice fa F.length fc, .int .i64 0]) (by simp [results, Tryd.results16, go_sem, o0, o1, g0, g1]) rfl ?_
      have s2 := foset2 w8 w.heap.size (.slice fa F.length fc) (.int .i64 0)
      have hz2 := s2.size
      first | exact ⟨fa, fc, rfl, HNS.out.save s2 (fun q e => by have := HQ.out q e; show ¬ q.block = w.heap.size; omega), (fun q e => by have := HQ.out q e; omega), HB8.out.trans (s2.below (B := w.heap.size) HB8.out.size (fun j h => by omega))⟩ | exact ⟨fa, ⟨fc, rfl⟩, HNS.out.save s2 (fun q e => by have := HQ.out q e; show ¬ q.block = w.heap.size; omega), (fun q e => by have := HQ.out q e; omega), HB8.out.trans (s2.below (B := w.heap.size) HB8.out.size (fun j h => by omega))⟩
  · obtain rfl : 1 = code := by rw [← hc]; unfold ngC; rw [if_neg h4, if_neg hr]
    obtain rfl : [] = F := by rw [← hF, ngF_no hc (by omega)]
    have HFr := hid (HR.out false (by simpa using hr))
    clear HR hr hF hc hN
    go_enter Tryd.func16, Tryd.ntmps16
    go_wp2_with (go_at_call 23; refine (HFr.out _ HB0.out).mono ?_; rintro e w1 ⟨rfl, hb1⟩; have HB1 := hid (HB0.out.trans (hb1.mono HB0.out.size)); obtain ⟨hq, o0, o1⟩ := HX0.out.on hb1; obtain ⟨g0, g1⟩ := HG0.out.on hb1 HX0.out.lt; clear hb1)
    refine bodyPost_ret (v := .agg #[.slice none 0 0, .int .i64 1]) (by simp [results, Tryd.results16, go_sem, o0, o1, g0, g1]) rfl ?_
    have s2 := foset2 w1 w.heap.size (.slice none 0 0) (.int .i64 1)
    first | exact ⟨none, 0, rfl, Or.inl rfl, (fun q e => by cases e), HB1.out.trans (s2.below (B := w.heap.size) HB1.out.size (fun j h => by omega))⟩ | exact ⟨none, ⟨0, rfl⟩, Or.inl rfl, (fun q e => by cases e), HB1.out.trans (s2.below (B := w.heap.size) HB1.out.size (fun j h => by omega))⟩
end Go.Proofs.YtagklhfejbdkdaaDoor
namespace Go.Proofs.YtagklhfejbdkdaaDoor
open Go.RowKit
set_option linter.unusedVariables false
set_option linter.unusedSimpArgs false
/-- The kinds' words, and the error of too many nodes, stand in the world. -/
structure KwE (w : World) : Prop where
  kw : Kw w
  ev : ∃ eu pv, w.cell? ⟨0, 0, none⟩ = some (.iface eu pv)
  el : 0 < w.heap.size
theorem KwE.below {a b : World} (h : KwE a) (hb : Below a.heap.size a b) (hg : 1 < a.heap.size) : KwE b :=
  ⟨h.kw.below hb hg, by obtain ⟨eu, pv, hv⟩ := h.ev; exact ⟨eu, pv, (hb.cell (p := ⟨0, 0, none⟩) h.el).trans hv⟩, Nat.lt_of_lt_of_le h.el hb.size⟩
theorem implNgE_any (f : List Nd) (b cap : Nat) (w : World) (hN : NodesAt w b f) (hok : ∀ i, i < f.length → ndOk (ndAt f i)) (hlen : f.length ≤ 1048576) (hk : KwE w) (hg : 1 < w.heap.size) (F : List Nd) (code : Int) (hF : ngF f = F) (hc : ngC f = code) :
    Calls Tryd.prog 17 #[.slice (some ⟨b, 0, none⟩) f.length cap] w fun e w' => ∃ fa fc, e = .returned (.agg #[.slice fa F.length fc, .int .i64 code]) ∧ NsA w' fa F ∧ RowA w' fa F.length ∧ (∀ q, fa = some q → q = ⟨q.block, 0, none⟩ ∧ w.heap.size ≤ q.block ∧ q.block < w'.heap.size) ∧ Below w.heap.size w w' := by
  obtain ⟨eu, pv, hv⟩ := hk.ev
  exact implNg_any f b cap w hN hok hlen hk.kw hg eu pv hv hk.el F code hF hc
theorem ngF_len (f : List Nd) (hl : f.length ≤ 1048576) : (ngF f).length ≤ 1000000 := by
  unfold ngF
  split
  · next h =>
    unfold ngC at h
    split at h
    · omega
    · split at h
      · split at h
        · omega
        · show (ngG f).length ≤ _; omega
      · omega
  · show 0 ≤ _; omega
end Go.Proofs.YtagklhfejbdkdaaDoor
namespace Go.Proofs.YtagklhfejbdkdaaDoor
open Go.RowKit
set_option linter.unusedVariables false
set_option linter.unusedSimpArgs false
set_option maxRecDepth 20000 in
set_option maxHeartbeats 8000000 in
theorem walkNegate (a : Option Addr) (cap : Nat) (f : List Nd) (w : World) (hI : InN w a cap f) (hkw : KwE w) (hg : 1 < w.heap.size) :
    Calls Tryd.prog 4 #[.slice a f.length cap] w fun e w' => e = .returned (.bool true) ∧ Below w.heap.size w w' := by
  have HI := hid hI
  have HK := hid hkw
  have HU : Hid (∀ fa fn fc code, foV fa fn fc code = .agg #[.slice fa fn fc, .int .i64 code]) := fun _ _ _ _ => rfl
  clear hI hkw
  go_enter Tryd.func4, Tryd.ntmps4
  go_wp2_with fail
  refine (szNodeS_any f a cap (fun i hi => (HI.out.ok i hi).nm) HI.out.len _ HI.out.arg).mono ?_
  rintro e w1 ⟨r, rfl, hr, hb1⟩
  have HB1 := hid hb1
  have hz1 := hb1.size
  by_cases hr0 : r < 0
  · clear hb1 hr
    go_wp2_with fail
    go_ret
    exact ⟨rfl, HB1.out⟩
  obtain ⟨hl, _⟩ := hr (by omega)
  clear hb1 hr
  obtain ⟨F, hF⟩ : ∃ F, ngF f = F := ⟨_, rfl⟩
  obtain ⟨code, hcode⟩ : ∃ code, ngC f = code := ⟨_, rfl⟩
  have hFl : F.length ≤ 1000000 := by rw [← hF]; exact ngF_len f hl
  have HTN := hid (fun w h => toNodeS_row f a cap hl w h)
  have HSN := hid (fun b w h => specNg_any f b f.length w h HI.out.ok hl F code hF hcode)
  have HIN := hid (fun b w h hk hg => implNgE_any f b f.length w h HI.out.ok hl hk hg F code hF hcode)
  have HEQ := hid (fun a1 a2 d1 d2 w n1 n2 => eqFoA F F.length rfl a1 a2 d1 d2 code (by omega) w n1 n2)
  have HHO := hid (fun fa fc w h1 => heldFoA F.length fa fc code hFl w h1)
  simp only [HU.out] at HEQ HHO
  clear hF hcode
  go_wp2_with fail
  refine (HTN.out _ (HI.out.arg.below HB1.out (Nat.le_refl _))).mono ?_
  rintro e w2 ⟨b2, rfl, hb2, hn2, _, _, hbl2⟩
  have HB2 := hid (HB1.out.trans (hbl2.mono (by omega)))
  have hz2 := hbl2.size
  have XA2 := hid hn2
  clear hn2
  clear hbl2
  go_wp2_with fail
  refine (HSN.out b2 _ XA2.out).mono ?_
  rintro e w3 ⟨fa0, fc0, rfl, hn3, hf3, hbl3⟩
  have HB3 := hid (HB2.out.trans (hbl3.mono (by omega)))
  have hz3 := hbl3.size
  have NW3 := hid hn3
  have HF0 := hid hf3
  clear hn3 hf3
  clear hbl3
  go_wp2_with fail
  have hbl4 := fo_one w3 (.cells #[.slice fa0 F.length fc0, .int .i64 code] 26)
  have HB4 := hid (HB3.out.trans (hbl4.mono (by omega)))
  have NW4 := hid (NW3.out.on hbl4)
  have HW4 := hid (FoBox.new w3 fa0 F.length fc0 code 26)
  have hz4 : w3.heap.size < (w3.alloc (.cells #[.slice fa0 F.length fc0, .int .i64 code] 26)).heap.size := by simp
  clear hbl4
  generalize w3.alloc (.cells #[.slice fa0 F.length fc0, .int .i64 code] 26) = w4 at *
  refine (HTN.out _ (HI.out.arg.below HB4.out (Nat.le_refl _))).mono ?_
  rintro e w5 ⟨b5, rfl, hb5, hn5, ⟨z5, hr5⟩, _, hbl5⟩
  have HB5 := hid (HB4.out.trans (hbl5.mono (by omega)))
  have hz5 := hbl5.size
  have NW5 := hid (NW4.out.on hbl5)
  have HW5 := hid (HW4.out.on hbl5)
  have XX5 := hid (show XRf _ b5 f from ⟨hn5, Or.inr ⟨b5, _, z5, rfl, Nat.le_refl _, hr5⟩⟩)
  have hb5l := hn5.1
  clear hn5 hr5
  clear hbl5
  go_wp2_with fail
  refine (HIN.out b5 _ XX5.out.at' (HK.out.below HB5.out hg) (by omega)).mono ?_
  rintro e w6 ⟨ga, gc, rfl, hn6, hr6, hf6, hbl6⟩
  have HB6 := hid (HB5.out.trans (hbl6.mono (by omega)))
  have hz6 := hbl6.size
  have NW6 := hid (NW5.out.on hbl6)
  have HW6 := hid (HW5.out.on hbl6)
  have XX6 := hid (XX5.out.on hbl6)
  have NG6 := hid hn6
  have RG6 := hid hr6
  have HGf := hid hf6
  clear hn6 hr6 hf6
  clear hbl6
  obtain ⟨u0, c00, c01⟩ := HW6.out
  go_wp2_with fail
  have hbl7 := fo_one w6 (.cells #[.slice ga F.length gc, .int .i64 code] 26)
  have HB7 := hid (HB6.out.trans (hbl7.mono (by omega)))
  have NW7 := hid (NW6.out.on hbl7)
  have HW7 := hid (HW6.out.on hbl7)
  have XX7 := hid (XX6.out.on hbl7)
  have NG7 := hid (NG6.out.on hbl7)
  have RG7 := hid (RG6.out.on hbl7)
  have HG7 := hid (FoBox.new w6 ga F.length gc code 26)
  have hz7 : w6.heap.size < (w6.alloc (.cells #[.slice ga F.length gc, .int .i64 code] 26)).heap.size := by simp
  clear hbl7
  generalize w6.alloc (.cells #[.slice ga F.length gc, .int .i64 code] 26) = w7 at *
  refine (HEQ.out ga fa0 gc fc0 _ NG7.out NW7.out).mono ?_
  rintro e w8 ⟨rfl, hbl8⟩
  have HB8 := hid (HB7.out.trans (hbl8.mono (by omega)))
  have hz8 := hbl8.size
  have NW8 := hid (NW7.out.on hbl8)
  have HW8 := hid (HW7.out.on hbl8)
  have XX8 := hid (XX7.out.on hbl8)
  have NG8 := hid (NG7.out.on hbl8)
  have RG8 := hid (RG7.out.on hbl8)
  have HG8 := hid (HG7.out.on hbl8)
  clear hbl8
  clear u0 c00 c01
  go_wp2_with fail
  refine (HTN.out _ (HI.out.arg.below HB8.out (Nat.le_refl _))).mono ?_
  rintro e w9 ⟨b9, rfl, hb9, hn9, _, _, hbl9⟩
  have HB9 := hid (HB8.out.trans (hbl9.mono (by omega)))
  have hz9 := hbl9.size
  have NW9 := hid (NW8.out.on hbl9)
  have HW9 := hid (HW8.out.on hbl9)
  have XX9 := hid (XX8.out.on hbl9)
  have NG9 := hid (NG8.out.on hbl9)
  have RG9 := hid (RG8.out.on hbl9)
  have HG9 := hid (HG8.out.on hbl9)
  have XB9 := hid hn9
  clear hn9
  clear hbl9
  go_wp2_with fail
  refine (eqNodeS_same f b5 b9 f.length f.length hl _ XX9.out.at' XB9.out).mono ?_
  rintro e w10 ⟨rfl, hbl10⟩
  have HB10 := hid (HB9.out.trans (hbl10.mono (by omega)))
  have hz10 := hbl10.size
  have NW10 := hid (NW9.out.on hbl10)
  have HW10 := hid (HW9.out.on hbl10)
  have XX10 := hid (XX9.out.on hbl10)
  have NG10 := hid (NG9.out.on hbl10)
  have RG10 := hid (RG9.out.on hbl10)
  have HG10 := hid (HG9.out.on hbl10)
  clear hbl10
  go_wp2_with fail
  refine (markNs f.length (some ⟨b5, 0, none⟩) f.length hl _ XX10.out.row).mono ?_
  rintro e w11 ⟨rfl, _, hs11⟩
  have HB11 := hid (HB10.out.trans (hs11.below (B := w.heap.size) (by omega) (fun j hj => by have := ofB_flat hj; omega)))
  have hz11 := hs11.size
  have NW11 := hid (NW10.out.save hs11 (fun q e h => by have := ofB_flat h; have := HF0.out q e; omega))
  have HW11 := hid (HW10.out.save hs11 (fun h => by have := ofB_flat h; omega))
  have NG11 := hid (NG10.out.save hs11 (fun q e h => by have := ofB_flat h; have := HGf.out q e; omega))
  have RG11 := hid (RG10.out.save hs11 (fun q e h => by have := ofB_flat h; have := HGf.out q e; omega))
  have HG11 := hid (HG10.out.save hs11 (fun h => by have := ofB_flat h; omega))
  clear hs11
  have hk0 : ¬ ((1 + f.length * 6 : Nat) : Int) < 0 := by omega
  obtain ⟨u0, c00, c01⟩ := HG11.out
  obtain ⟨u1, c10, c11⟩ := HW11.out
  go_wp2_with fail
  refine (HEQ.out ga fa0 gc fc0 _ NG11.out NW11.out).mono ?_
  rintro e w12 ⟨rfl, hbl12⟩
  have HB12 := hid (HB11.out.trans (hbl12.mono (by omega)))
  have hz12 := hbl12.size
  have NW12 := hid (NW11.out.on hbl12)
  have HW12 := hid (HW11.out.on hbl12)
  have NG12 := hid (NG11.out.on hbl12)
  have RG12 := hid (RG11.out.on hbl12)
  have HG12 := hid (HG11.out.on hbl12)
  clear hbl12 u0 c00 c01 u1 c10 c11
  have HMO := hid (markFoA F ga gc code hFl w12 (fun q e => by have := HGf.out q e; omega) RG12.out)
  rw [HU.out] at HMO
  obtain ⟨u0, c00, c01⟩ := HG12.out
  go_wp2_with fail
  refine (HMO.out).mono ?_
  rintro e w13 ⟨rfl, hn13, hs13⟩
  have HB13 := hid (HB12.out.trans (hs13.below (B := w.heap.size) (by omega) (fun j hj => by obtain ⟨p, e2, h⟩ := hj; (have := HGf.out p e2; omega))))
  have hz13 := hs13.size
  have NW13 := hid (NW12.out.save hs13 (fun q e h => by obtain ⟨p, e2, h⟩ := h; exact absurd h (by have := HGf.out p e2; have := HF0.out q e; omega)))
  have HW13 := hid (HW12.out.save hs13 (fun h => by obtain ⟨p, e2, h⟩ := h; exact absurd h (by have := HGf.out p e2; omega)))
  have HG13 := hid (HG12.out.save hs13 (fun h => by obtain ⟨p, e2, h⟩ := h; exact absurd h (by have := HGf.out p e2; omega)))
  have NM13 := hid hn13
  clear hn13
  clear hs13 u0 c00 c01
  obtain ⟨u0, c00, c01⟩ := HG13.out
  go_wp2_with fail
  refine (HHO.out ga gc _ NM13.out).mono ?_
  rintro e w14 ⟨rfl, hbl14⟩
  have HB14 := hid (HB13.out.trans (hbl14.mono (by omega)))
  have hz14 := hbl14.size
  have NW14 := hid (NW13.out.on hbl14)
  have HW14 := hid (HW13.out.on hbl14)
  have HG14 := hid (HG13.out.on hbl14)
  have NM14 := hid (NM13.out.on hbl14)
  clear hbl14 u0 c00 c01
  have hq0 : ¬ ((1 + F.length * 6 : Nat) : Int) < 0 := by omega
  go_wp2_with fail
  refine (HTN.out _ (HI.out.arg.below HB14.out (Nat.le_refl _))).mono ?_
  rintro e w15 ⟨b15, rfl, hb15, hn15, _, _, hbl15⟩
  have HB15 := hid (HB14.out.trans (hbl15.mono (by omega)))
  have hz15 := hbl15.size
  have NW15 := hid (NW14.out.on hbl15)
  have HW15 := hid (HW14.out.on hbl15)
  have HG15 := hid (HG14.out.on hbl15)
  have NM15 := hid (NM14.out.on hbl15)
  have XC15 := hid hn15
  clear hn15
  clear hbl15
  go_wp2_with fail
  refine (HIN.out b15 _ XC15.out (HK.out.below HB15.out hg) (by omega)).mono ?_
  rintro e w16 ⟨ha, hc, rfl, hn16, _, _, hbl16⟩
  have HB16 := hid (HB15.out.trans (hbl16.mono (by omega)))
  have hz16 := hbl16.size
  have NW16 := hid (NW15.out.on hbl16)
  have HW16 := hid (HW15.out.on hbl16)
  have HG16 := hid (HG15.out.on hbl16)
  have NM16 := hid (NM15.out.on hbl16)
  have NH16 := hid hn16
  clear hn16
  clear hbl16
  obtain ⟨u0, c00, c01⟩ := HW16.out
  go_wp2_with fail
  have hbl17 := fo_one w16 (.cells #[.slice ha F.length hc, .int .i64 code] 26)
  have HB17 := hid (HB16.out.trans (hbl17.mono (by omega)))
  have NW17 := hid (NW16.out.on hbl17)
  have HW17 := hid (HW16.out.on hbl17)
  have HG17 := hid (HG16.out.on hbl17)
  have NM17 := hid (NM16.out.on hbl17)
  have NH17 := hid (NH16.out.on hbl17)
  have HH17 := hid (FoBox.new w16 ha F.length hc code 26)
  have hz17 : w16.heap.size < (w16.alloc (.cells #[.slice ha F.length hc, .int .i64 code] 26)).heap.size := by simp
  clear hbl17
  generalize w16.alloc (.cells #[.slice ha F.length hc, .int .i64 code] 26) = w17 at *
  refine (HEQ.out ha fa0 hc fc0 _ NH17.out NW17.out).mono ?_
  rintro e w18 ⟨rfl, hbl18⟩
  have HB18 := hid (HB17.out.trans (hbl18.mono (by omega)))
  have hz18 := hbl18.size
  have NW18 := hid (NW17.out.on hbl18)
  have HW18 := hid (HW17.out.on hbl18)
  have HG18 := hid (HG17.out.on hbl18)
  have NM18 := hid (NM17.out.on hbl18)
  have NH18 := hid (NH17.out.on hbl18)
  have HH18 := hid (HH17.out.on hbl18)
  clear hbl18
  clear u0 c00 c01
  obtain ⟨u0, c00, c01⟩ := HG18.out
  go_wp2_with fail
  refine (HHO.out ga gc _ NM18.out).mono ?_
  rintro e w19 ⟨rfl, hbl19⟩
  have HB19 := hid (HB18.out.trans (hbl19.mono (by omega)))
  have hz19 := hbl19.size
  have NW19 := hid (NW18.out.on hbl19)
  have HW19 := hid (HW18.out.on hbl19)
  have HG19 := hid (HG18.out.on hbl19)
  have NM19 := hid (NM18.out.on hbl19)
  have NH19 := hid (NH18.out.on hbl19)
  have HH19 := hid (HH18.out.on hbl19)
  clear hbl19 u0 c00 c01
  go_wp2_with fail
  go_ret
  exact ⟨rfl, HB19.out⟩
end Go.Proofs.YtagklhfejbdkdaaDoor
