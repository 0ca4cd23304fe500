/-
  The model's l06New, by its contract.
-/
import Derived.Test.YtgehklhpmelffaaDoorMnN1
import Derived.Test.YtgehklhpmelffaaDoorMnN2
namespace Go.Proofs.YtgehklhpmelffaaDoor
open Go.RowKit
set_option linter.unusedVariables false
set_option linter.unusedSimpArgs false
def bareV (x : Nd) : List Value := [.int .i64 (bareLo x), .int .i64 (bareHi x), .slice none 0 0, .bool false]
def flatB (f : List Nd) : Nat → List Value
  | 0 => []
  | k + 1 => flatB f k ++ bareV (ndAt f k)
theorem flatB_len (f : List Nd) : ∀ k, (flatB f k).length = k * 4 := by
  intro k
  induction k with
  | zero => rfl
  | succ k ih => simp [flatB, bareV, ih]; omega
theorem flatB_get (f : List Nd) : ∀ k i j, i < k → j < 4 → (flatB f k)[i * 4 + j]? = (bareV (ndAt f i))[j]? := by
  intro k
  induction k with
  | zero => intro i j h; omega
  | succ k ih =>
    intro i j hi hj
    have hl := flatB_len f k
    unfold flatB
    by_cases h : i < k
    · rw [List.getElem?_append_left (by omega)]
      exact ih i j h hj
    · have : i = k := by omega
      subst this
      rw [List.getElem?_append_right (by omega), hl]
      congr 1
      omega
theorem bareV_one (x : Nd) : ∀ u ∈ bareV x, u.oneCell' = true := by simp [bareV, Value.oneCell']
/-- A row of bare cells that a call owns. -/
def OwnB (w : World) (base : Nat) (v : Value) (f : List Nd) (k : Nat) : Prop := w.ownsRow base 61 4 v k (flatB f k)
theorem OwnB.save {w w' : World} {base : Nat} {v : Value} {f : List Nd} {k : Nat} {S : Nat → Prop} (h : OwnB w base v f k) (hs : Save w w' S) (hS : ∀ j, v.ownBlock = some j → ¬ S j) : OwnB w' base v f k := by
  refine ⟨h.1, ?_⟩
  rcases h.2 with hn | ⟨b, cap, cur, rfl, hb, hg, rest⟩
  · exact .inl hn
  · refine .inr ⟨b, cap, cur, rfl, hb, ?_, rest⟩
    rw [hs.block b (Array.getElem?_eq_some_iff.1 hg).1 (hS b rfl)]
    exact hg
theorem OwnB.lt {w : World} {base : Nat} {v : Value} {f : List Nd} {k : Nat} (h : OwnB w base v f k) : ∀ j, v.ownBlock = some j → base ≤ j ∧ j < w.heap.size := World.ownsRow.lt h
theorem OwnB.cks {w : World} {base : Nat} {v : Value} {f : List Nd} (h : OwnB w base v f f.length) : ∃ va vc, v = .slice va f.length vc ∧ CksAt w va (bareC f) ∧ ∀ q, va = some q → base ≤ q.block ∧ q.block < w.heap.size := by
  rcases h.2 with ⟨hv, h0⟩ | ⟨g, cap, cur, hv, hb, hg, h1, h2, h3, h4⟩
  · exact ⟨none, 0, by rw [hv, h0], Or.inl (by rw [bareC_len, h0]), fun q e => by cases e⟩
  · have hlt := (Array.getElem?_eq_some_iff.1 hg).1
    refine ⟨some ⟨g, 0, none⟩, cap, hv, Or.inr ⟨g, 0, rfl, hlt, fun i hi => ?_⟩, fun q e => by injection e with e; subst e; exact ⟨hb, hlt⟩⟩
    rw [bareC_len] at hi
    have key : ∀ j u, j < 4 → (bareV (ndAt f i))[j]? = some u → w.cell? ⟨g, 0 + i * 4 + j, none⟩ = some u := by
      intro j u hj hu
      have h5 := World.ownsRow.cells h (g := g) (by rw [hv]; rfl) (i * 4 + j) u (by rw [flatB_get f _ i j hi hj]; exact hu)
      rw [Addr.add_lit] at h5
      rw [← h5]
      congr 2
      omega
    rw [bareC_at f i hi]
    exact ⟨key 0 _ (by omega) rfl, key 1 _ (by omega) rfl, key 3 _ (by omega) rfl, none, 0, key 2 _ (by omega) rfl, slV_nil, Or.inl rfl⟩
/-- What stands in a round of l06New. -/
structure NewAt (W w : World) (q : Nat) (fa : Option Addr) (fn fc : Nat) (va : Option Addr) (vc : Nat) (f : List Nd) (k : Nat) : Prop where
  own : OwnB w (q + 1) (.slice va k vc) f k
  box : MBox w q fa fn fc 0 0 va k vc
  fr : MFree w q
  sv : Save W w (fun j => j = q)
theorem NewAt.mid {W V V' w3 : World} {q : Nat} {fa : Option Addr} {fn fc : Nat} {va : Option Addr} {vc : Nat} {f : List Nd} {k : Nat} (h : NewAt W V q fa fn fc va vc f k) (h1 : Save V V' (fun _ => False)) (hg : V'.grownBy w3 (Value.slice va k vc).ownBlock) :
    w3.cell? ⟨q, 3, none⟩ = some (.slice va k vc) ∧ w3.frozen? ⟨q, 3, none⟩ = false := by
  have hs : Save V w3 (fun j => (Value.slice va k vc).ownBlock = some j) := (h1.mono (T := fun j => (Value.slice va k vc).ownBlock = some j) (fun _ _ f => f.elim)).grown hg (fun k e _ => e)
  have hn : ¬ (Value.slice va k vc).ownBlock = some q := fun e => by have := (h.own.lt _ e).1; omega
  exact ⟨(hs.cell (p := ⟨q, 3, none⟩) h.box.lt hn).trans h.box.m3, (hs.frozen (p := ⟨q, 3, none⟩) h.box.lt hn).trans h.fr.g3⟩
theorem NewAt.put {W V V' w3 : World} {q : Nat} {fa : Option Addr} {fn fc : Nat} {va : Option Addr} {vc : Nat} {f : List Nd} {k : Nat} {gb cp : Nat} (h : NewAt W V q fa fn fc va vc f k) (hW : W.heap.size = q + 1) (h1 : Save V V' (fun _ => False)) (hg : V'.grownBy w3 (Value.slice va k vc).ownBlock) (ho : OwnB w3 (q + 1) (.slice (some ⟨gb, 0, none⟩) (k + 1) cp) f (k + 1)) :
    NewAt W (w3.setCell ⟨q, 3, none⟩ (.slice (some ⟨gb, 0, none⟩) (k + 1) cp)) q fa fn fc (some ⟨gb, 0, none⟩) cp f (k + 1) := by
  have hs : Save V w3 (fun j => (Value.slice va k vc).ownBlock = some j) := (h1.mono (T := fun j => (Value.slice va k vc).ownBlock = some j) (fun _ _ f => f.elim)).grown hg (fun k e _ => e)
  have hn : ¬ (Value.slice va k vc).ownBlock = some q := fun e => by have := (h.own.lt _ e).1; omega
  have hb3 : q < w3.heap.size := Nat.lt_of_lt_of_le h.box.lt hs.size
  have c3 := (hs.cell (p := ⟨q, 3, none⟩) h.box.lt hn).trans h.box.m3
  have hset := gset1 w3 q 3 (.slice (some ⟨gb, 0, none⟩) (k + 1) cp)
  refine ⟨ho.save hset (fun j e => by have := (ho.lt j e).1; omega), ⟨Nat.lt_of_lt_of_le hb3 hset.size, ?_, ?_, ?_, ?_⟩, (h.fr.save hs h.box.lt hn).set _ _, ?_⟩
  · rw [World.cell?_setCell_other _ _ _ _ (by simp)]; exact (hs.cell (p := ⟨q, 0, none⟩) h.box.lt hn).trans h.box.m0
  · rw [World.cell?_setCell_other _ _ _ _ (by simp)]; exact (hs.cell (p := ⟨q, 1, none⟩) h.box.lt hn).trans h.box.m1
  · rw [World.cell?_setCell_other _ _ _ _ (by simp)]; exact (hs.cell (p := ⟨q, 2, none⟩) h.box.lt hn).trans h.box.m2
  · simp [go_sem, c3]
  · refine Save.setCell (S := fun j => j = q) ?_ (p := ⟨q, 3, none⟩) (fun _ => rfl) _
    refine ⟨hs.os.trans h.sv.os, hs.tape.trans h.sv.tape, hs.output.trans h.sv.output, Nat.le_trans h.sv.size hs.size, fun j hj hq => ?_⟩
    exact (hs.block j (Nat.lt_of_lt_of_le hj h.sv.size) (fun e => by have := (h.own.lt _ e).1; omega)).trans (h.sv.block j hj hq)
theorem cells_ck (X : World) (n : Nat) (hn : n = X.heap.size) (x : Nd) : ∀ j u, (bareV x)[j]? = some u → (X.alloc (.cells #[.int .i64 (bareLo x), .int .i64 (bareHi x), .slice none 0 0, .bool false] 61)).cell? ((⟨n, 0, none⟩ : Addr).add j) = some u := by
  subst hn
  intro j u hu
  have hj : j < 4 := by have := (List.getElem?_eq_some_iff.1 hu).1; simpa [bareV] using this
  rw [Addr.add_lit, Nat.zero_add]
  have hc : j = 0 ∨ j = 1 ∨ j = 2 ∨ j = 3 := by omega
  rcases hc with rfl | rfl | rfl | rfl <;> (simp [bareV] at hu; subst hu; simp [go_sem])
theorem NewAt.start {w1 : World} (fa : Option Addr) (fn fc : Nat) (f : List Nd) : NewAt (w1.alloc (.cells #[.slice fa fn fc, .int .i64 0, .int .i64 0, .slice none 0 0] 27)) (w1.alloc (.cells #[.slice fa fn fc, .int .i64 0, .int .i64 0, .slice none 0 0] 27)) w1.heap.size fa fn fc none 0 f 0 :=
  ⟨World.ownsRow_nil _ _ _ _, MBox.new _ _ _ _ _ _ _ _ _ _, MFree.new _ _ _ _ _ _, Save.refl _ _⟩
theorem NewAt.ext {W w V : World} {q : Nat} {fa : Option Addr} {fn fc : Nat} {va : Option Addr} {vc : Nat} {f : List Nd} {k : Nat} (h : NewAt W w q fa fn fc va vc f k) (hs : Save w V (fun _ => False)) : NewAt W V q fa fn fc va vc f k :=
  ⟨h.own.save hs (fun _ _ h => h), h.box.save hs (fun h => h), h.fr.save hs h.box.lt (fun h => h), ⟨hs.os.trans h.sv.os, hs.tape.trans h.sv.tape, hs.output.trans h.sv.output, Nat.le_trans h.sv.size hs.size, fun j hj hq => (hs.block j (Nat.lt_of_lt_of_le hj h.sv.size) (fun h => h)).trans (h.sv.block j hj hq)⟩⟩
theorem ckNew' (w : World) (lo hi : Int) : (w.alloc (.cells #[.int .i64 lo, .int .i64 hi, .slice none 0 0, .bool false] 61)).cell? ⟨w.heap.size, 0, none⟩ = some (.int .i64 lo) ∧ (w.alloc (.cells #[.int .i64 lo, .int .i64 hi, .slice none 0 0, .bool false] 61)).cell? ⟨w.heap.size, 1, none⟩ = some (.int .i64 hi) ∧ (w.alloc (.cells #[.int .i64 lo, .int .i64 hi, .slice none 0 0, .bool false] 61)).cell? ⟨w.heap.size, 2, none⟩ = some (.slice none 0 0) ∧ (w.alloc (.cells #[.int .i64 lo, .int .i64 hi, .slice none 0 0, .bool false] 61)).cell? ⟨w.heap.size, 3, none⟩ = some (.bool false) ∧ w.heap.size < (w.alloc (.cells #[.int .i64 lo, .int .i64 hi, .slice none 0 0, .bool false] 61)).heap.size :=
  ⟨by simp [go_sem], by simp [go_sem], by simp [go_sem], by simp [go_sem], by simp⟩
theorem ckNew (w : World) (lo hi : Int) : (w.alloc (.cells #[.int .i64 lo, .int .i64 hi, .slice none 0 0, .bool false] 61)).drew.cell? ⟨w.heap.size, 0, none⟩ = some (.int .i64 lo) ∧ (w.alloc (.cells #[.int .i64 lo, .int .i64 hi, .slice none 0 0, .bool false] 61)).drew.cell? ⟨w.heap.size, 1, none⟩ = some (.int .i64 hi) ∧ (w.alloc (.cells #[.int .i64 lo, .int .i64 hi, .slice none 0 0, .bool false] 61)).drew.cell? ⟨w.heap.size, 2, none⟩ = some (.slice none 0 0) ∧ (w.alloc (.cells #[.int .i64 lo, .int .i64 hi, .slice none 0 0, .bool false] 61)).drew.cell? ⟨w.heap.size, 3, none⟩ = some (.bool false) ∧ w.heap.size < (w.alloc (.cells #[.int .i64 lo, .int .i64 hi, .slice none 0 0, .bool false] 61)).drew.heap.size :=
  ⟨by simp [go_sem], by simp [go_sem], by simp [go_sem], by simp [go_sem], by simp⟩
theorem ownsN_none' (w : World) (q : Nat) (hq : w.heap.size = q) (base : Nat) (h : base ≤ w.heap.size) : OwnsN (w.alloc (.cells #[] 43)) base (.slice (some ⟨q, 0, none⟩) 0 0) [] := by
  subst hq
  exact ownsN_none w base h
theorem gset4b (w : World) (q : Nat) (x y z u : Value) : Save w ((((w.setCell ⟨q, 0, none⟩ x).setCell ⟨q, 1, none⟩ y).setCell ⟨q, 2, none⟩ z).setCell ⟨q, 3, none⟩ u) (fun j => j = q) := gset4 w q x y z u
set_option maxRecDepth 20000 in
set_option maxHeartbeats 8000000 in
theorem specNew_any (f : List Nd) (b cap : Nat) (h0 : 0 < f.length) (hl : f.length ≤ 1000000) (w : World) (hN : NodesAt w b f) :
    Calls Tryd.prog 15 #[.slice (some ⟨b, 0, none⟩) f.length cap] w fun e w' => ∃ g gc va vc, e = .returned (moV (some ⟨g, 0, none⟩) f.length gc 0 0 va f.length vc) ∧ w.heap.size ≤ g ∧ NodesAt w' g f ∧ CksAt w' va (bareC f) ∧ (∀ q, va = some q → w.heap.size ≤ q.block ∧ q.block < w'.heap.size) ∧ Below w.heap.size w w' := by
  obtain ⟨i0, hi0, hz0, hz1, hz2⟩ := info_parts Tryd.infoN
  obtain ⟨j0, hj0, hy0, hy1, hy2⟩ := info_parts Tryd.infoCk
  have HU : Hid (∀ fa fn fc cnt now ca cn cc, moV fa fn fc cnt now ca cn cc = .agg #[.slice fa fn fc, .int .i64 cnt, .int .i64 now, .slice ca cn cc]) := fun _ _ _ _ _ _ _ _ => rfl
  have HBq := hid (below_one' w (.cells #[.slice none 0 0, .int .i64 0, .int .i64 0, .slice none 0 0] 27))
  have HXq := hid (MBox.new w none 0 0 0 0 none 0 0 27)
  have HGq := hid (MFree.new w (.slice none 0 0) (.int .i64 0) (.int .i64 0) (.slice none 0 0) 27)
  have HN := hid hN
  have hbw := hN.1
  clear hN
  simp only [HU.out]
  go_enter Tryd.func15, Tryd.ntmps15
  go_wp2_with (at_builtin; go_loud (refine wpList_append_own_at _ rfl _ _ 24 rfl (w.heap.size + 1) 43 i0 _ 6 56 Tryd.uNs hi0 hz0 hz1 hz2 rfl (by decide) _ 0 [] rfl (ownsN_none' (w.alloc (.cells #[.slice none 0 0, .int .i64 0, .int .i64 0, .slice none 0 0] 27)) (w.heap.size + 1) (by simp) (w.heap.size + 1) (by simp)) ⟨b, 0, none⟩ f.length cap (flatN f) rfl (flatN_len f) (flatN_cells (HN.out.below (bbelow2 w _ _) hbw)) (flatN_one f) (by unfold maxLen; omega) (by omega) (by simp) ?_; intro v5 w5 hown5 hgrow5 _ hat5; have hO5 : OwnsN w5 (w.heap.size + 1) v5 f := (by show w5.ownsRow _ _ _ _ _ _; simpa using hown5); obtain ⟨g, gc, m, z, rfl, _, hg, hm, hr, _, hall⟩ := hO5.row h0; have hs5 : Save (w.alloc (.cells #[.slice none 0 0, .int .i64 0, .int .i64 0, .slice none 0 0] 27)) w5 (fun _ => False) := ((Save.refl _ (fun _ => False)).alloc _).grown hgrow5 (fun k hk h => by simp [Value.ownBlock, Act.eval, Act.put] at hk; simp at h; omega); have HN5 := hid (hall _ hr); have HX5 := hid (HXq.out.save hs5 (fun h => h)); have HG5 := hid (HGq.out.save hs5 (by simp) (fun h => h)); have HB5 := hid (HBq.out.trans (hs5.below (B := w.heap.size) (by simp) (fun j h => h.elim))); have hz5 := HN5.out.1; clear hown5 hgrow5 hat5 hs5 hO5 hr hall))
  have HS0 := hid (NewAt.start (w1 := w5) (some ⟨g, 0, none⟩) f.length gc f)
  have HSW := hid (Save.alloc (Save.refl w5 (fun _ => False)) (.cells #[.slice (some ⟨g, 0, none⟩) f.length gc, .int .i64 0, .int .i64 0, .slice none 0 0] 27))
  have hWz : (w5.alloc (.cells #[.slice (some ⟨g, 0, none⟩) f.length gc, .int .i64 0, .int .i64 0, .slice none 0 0] 27)).heap.size = w5.heap.size + 1 := by simp
  generalize w5.alloc (.cells #[.slice (some ⟨g, 0, none⟩) f.length gc, .int .i64 0, .int .i64 0, .slice none 0 0] 27) = W at *
  have hz5q := HB5.out.size
  have hz6q := HX5.out.lt
  go_loopw [4] (fun t wr => ∃ (k : Nat) (va : Option Addr) (vc : Nat), k ≤ f.length ∧ t = .int .i64 k ∧ NewAt W wr w5.heap.size (some ⟨g, 0, none⟩) f.length gc va vc f k) (fun t _ => f.length - (intOf t).toNat)
  case atStart => exact ⟨0, none, 0, Nat.zero_le _, rfl, HS0.out⟩
  case round =>
    obtain ⟨k, va, vc, hk, rfl, hD⟩ := hrel
    have HD := hid hD
    have hsz := hD.sv.size
    obtain ⟨q3, m0, m1, m2, m3⟩ := hD.box
    obtain ⟨g0, g1, g2, g3⟩ := hD.fr
    have HBr : Hid (Below w.heap.size w wr) := (HB5.out.trans (HSW.out.below (B := w.heap.size) hz5q (fun j h => h.elim))).trans (hD.sv.below (B := w.heap.size) (by omega) (fun j h => by omega))
    clear hD
    by_cases hlt : k < f.length
    · obtain ⟨n0, n1, n2, n3, n4, n5⟩ := (HN.out.2 k hlt).below HBr.out hbw
      have hbr : b < wr.heap.size := by have := HBr.out.size; omega
      have HF : Hid (flatB f (k + 1) = flatB f k ++ bareV (ndAt f k)) := rfl
      have HFl := hid (flatB_len f k)
      rcases Bool.eq_false_or_eq_true (keepsK (ndAt f k).k) with hkk | hkk
      · have HK := hid (fun w => keepsS_is (ndAt f k).k true hkk w)
        have HLo : Hid (bareLo (ndAt f k) = (ndAt f k).lo) := by show bareLo _ = _; simp [bareLo, hkk]
        have HHi : Hid (bareHi (ndAt f k) = (ndAt f k).hi) := by show bareHi _ = _; simp [bareHi, hkk]
        clear hkk
        go_wp2_with (go_at_call 30; refine (HK.out _).mono ?_; rintro e w' ⟨rfl, rfl⟩)
        go_region
        rw [← HLo.out, ← HHi.out]
        have HSV := hid ((((Save.refl wr (fun _ => False)).alloc (.cells #[.int .i64 (bareLo (ndAt f k)), .int .i64 (bareHi (ndAt f k)), .slice none 0 0, .bool false] 61))).drew)
        obtain ⟨e0, e1, e2, e3, eq⟩ := ckNew wr (bareLo (ndAt f k)) (bareHi (ndAt f k))
        generalize (wr.alloc (.cells #[.int .i64 (bareLo (ndAt f k)), .int .i64 (bareHi (ndAt f k)), .slice none 0 0, .bool false] 61)).drew = V at *
        have HD1 := hid (HD.out.ext HSV.out)
        have p3 := HD1.out.box.m3
        have hp3 := HD1.out.box.lt
        have hpf := HD1.out.fr.g3
        clear n0 n1 n2 n3 n4 n5 m0 m1 m2 m3 g0 g1 g2 g3 q3
        go_wp2_with (at_builtin; go_loud (refine wpList_append_own_at _ rfl _ _ 25 rfl (w5.heap.size + 1) 61 j0 _ 4 48 Tryd.uCks hj0 hy0 hy1 hy2 rfl (by decide) (.slice va k vc) k (flatB f k) rfl (HD1.out.own.save (S := fun _ => False) ((Save.refl V (fun _ => False)).alloc _) (fun _ _ h => h)) ⟨V.heap.size, 0, none⟩ 1 1 (bareV (ndAt f k)) rfl rfl (cells_ck V _ rfl _) (bareV_one _) (by unfold maxLen; omega) (by omega) (by simp; omega) ?_; intro v' w3 hown3 hgrow3 _ hat3; obtain ⟨gb, cp, rfl, _, _⟩ := World.ownsRow.form hown3 (by omega); have HO3 : Hid (OwnB w3 (w5.heap.size + 1) (.slice (some ⟨gb, 0, none⟩) (k + 1) cp) f (k + 1)) := (by show w3.ownsRow _ _ _ _ _ _; rw [HF.out]; exact hown3); have HP := hid (HD1.out.put hWz ((Save.refl V (fun _ => False)).alloc _) hgrow3 HO3.out); have hfc3 := HD1.out.mid ((Save.refl V (fun _ => False)).alloc _) hgrow3; have hc3 := hfc3.1; have hf3 := hfc3.2; clear hfc3 hown3 hgrow3 hat3))
        go_roundw
        case rel => exact ⟨k + 1, some ⟨gb, 0, none⟩, cp, by omega, by go_num, HP.out⟩
        case measure => simp [intOf]; omega
      · have HK := hid (fun w => keepsS_is (ndAt f k).k false hkk w)
        have hLo : bareLo (ndAt f k) = 0 := by simp [bareLo, hkk]
        have hHi : bareHi (ndAt f k) = 0 := by simp [bareHi, hkk]
        have HLo := hid hLo
        have HHi := hid hHi
        clear hkk hLo hHi
        have HSV := hid ((Save.refl wr (fun _ => False)).alloc (.cells #[.int .i64 0, .int .i64 0, .slice none 0 0, .bool false] 61))
        have HEE := hid (ckNew' wr 0 0)
        go_wp2_with (first | (go_at_call 30; refine (HK.out _).mono ?_; rintro e w' ⟨rfl, rfl⟩; obtain ⟨e0, e1, e2, e3, eq⟩ := HEE.out; generalize wr.alloc (.cells #[.int .i64 0, .int .i64 0, .slice none 0 0, .bool false] 61) = V at *; rw [← HLo.out] at e0; rw [← HHi.out] at e1; have HD1 := hid (HD.out.ext HSV.out); have p3 := HD1.out.box.m3; have hp3 := HD1.out.box.lt; have hpf := HD1.out.fr.g3; clear n0 n1 n2 n3 n4 n5 m0 m1 m2 m3 g0 g1 g2 g3 q3) | (at_builtin; go_loud (refine wpList_append_own_at _ rfl _ _ 25 rfl (w5.heap.size + 1) 61 j0 _ 4 48 Tryd.uCks hj0 hy0 hy1 hy2 rfl (by decide) (.slice va k vc) k (flatB f k) rfl (HD1.out.own.save (S := fun _ => False) ((Save.refl V (fun _ => False)).alloc _) (fun _ _ h => h)) ⟨V.heap.size, 0, none⟩ 1 1 (bareV (ndAt f k)) rfl rfl (cells_ck V _ rfl _) (bareV_one _) (by unfold maxLen; omega) (by omega) (by simp; omega) ?_; intro v' w3 hown3 hgrow3 _ hat3; obtain ⟨gb, cp, rfl, _, _⟩ := World.ownsRow.form hown3 (by omega); have HO3 : Hid (OwnB w3 (w5.heap.size + 1) (.slice (some ⟨gb, 0, none⟩) (k + 1) cp) f (k + 1)) := (by show w3.ownsRow _ _ _ _ _ _; rw [HF.out]; exact hown3); have HP := hid (HD1.out.put hWz ((Save.refl V (fun _ => False)).alloc _) hgrow3 HO3.out); have hfc3 := HD1.out.mid ((Save.refl V (fun _ => False)).alloc _) hgrow3; have hc3 := hfc3.1; have hf3 := hfc3.2; clear hfc3 hown3 hgrow3 hat3)))
        go_roundw
        case rel => exact ⟨k + 1, some ⟨gb, 0, none⟩, cp, by omega, by go_num, HP.out⟩
        case measure => simp [intOf]; omega
    · have hk' : k = f.length := by omega
      subst hk'
      have HXr := hid ((HX5.out.save HSW.out (fun h => h)).save HD.out.sv (by omega))
      have HGr := hid ((HG5.out.save HSW.out (by omega) (fun h => h)).save HD.out.sv (by omega) (by omega))
      obtain ⟨_, y0, y1, y2, y3⟩ := HXr.out
      obtain ⟨r0, r1, r2, r3⟩ := HGr.out
      have HNr := hid (HD.out.sv.nodes (HSW.out.nodes HN5.out (fun h => h)) (by omega))
      go_wp2_with fail
      refine bodyPost_ret (v := .agg #[.slice (some ⟨g, 0, none⟩) f.length gc, .int .i64 0, .int .i64 0, .slice va f.length vc]) (by simp [results, Tryd.results15, go_sem, y0, y1, y2, y3, r0, r1, r2, r3]) rfl ?_
      have s4 := gset4 wr w.heap.size (.slice (some ⟨g, 0, none⟩) f.length gc) (.int .i64 0) (.int .i64 0) (.slice va f.length vc)
      obtain ⟨va', vc', ev, hck, hq⟩ := (HD.out.own.save s4 (fun j e => by have := (HD.out.own.lt j e).1; omega)).cks
      injection ev with ev1 _ ev2
      subst ev1 ev2
      exact ⟨g, gc, va, vc, rfl, by omega, s4.nodes HNr.out (by omega), hck, fun q e => by have := hq q e; omega, HBr.out.trans (s4.below (B := w.heap.size) HBr.out.size (fun j h => by omega))⟩
end Go.Proofs.YtgehklhpmelffaaDoor
