/-
  The model's l06Copy, by its contract.
-/
import Derived.Test.YtbfkbgmkibkbnaaGreatDoorPa31
namespace Go.Proofs.YtbfkbgmkibkbnaaGreatDoor
open Go.RowKit
set_option linter.unusedVariables false
set_option linter.unusedSimpArgs false
def rowK (C : List Cl) (V : Nat → Value) (i : Nat) : List Value := [.int .i64 (clAt C i).lo, .int .i64 (clAt C i).hi, V i, .bool (clAt C i).was]
def flatK (C : List Cl) (V : Nat → Value) : Nat → List Value
  | 0 => []
  | k + 1 => flatK C V k ++ rowK C V k
theorem flatK_len (C : List Cl) (V : Nat → Value) : ∀ k, (flatK C V k).length = k * 4 := by
  intro k
  induction k with
  | zero => rfl
  | succ k ih => rw [flatK, List.length_append, ih]; simp [rowK]; omega
theorem flatK_get (C : List Cl) (V : Nat → Value) : ∀ k i r, i < k → r < 4 → (flatK C V k)[i * 4 + r]? = (rowK C V i)[r]? := by
  intro k
  induction k with
  | zero => intro i r h; omega
  | succ k ih =>
    intro i r hi hr
    rw [flatK]
    by_cases e : i < k
    · rw [List.getElem?_append_left (by rw [flatK_len]; omega)]
      exact ih i r e hr
    · obtain rfl : i = k := by omega
      rw [List.getElem?_append_right (by rw [flatK_len]; omega), flatK_len, show i * 4 + r - i * 4 = r by omega]
theorem flatK_congr (C : List Cl) (V V' : Nat → Value) : ∀ k, (∀ i, i < k → V i = V' i) → flatK C V k = flatK C V' k := by
  intro k
  induction k with
  | zero => intro _; rfl
  | succ k ih => intro h; rw [flatK, flatK, ih (fun i hi => h i (by omega))]; unfold rowK; rw [h k (by omega)]
def OwnK (w : World) (base : Nat) (v : Value) (C : List Cl) (V : Nat → Value) (k : Nat) : Prop := w.ownsRow base 96 4 v k (flatK C V k)
theorem OwnK.save {w w' : World} {base : Nat} {v : Value} {C : List Cl} {V : Nat → Value} {k : Nat} {S : Nat → Prop} (h : OwnK w base v C V k) (hs : Save w w' S) (hS : ∀ j, v.ownBlock = some j → ¬ S j) : OwnK w' base v C V k := by
  refine ⟨h.1, ?_⟩
  rcases h.2 with hn | ⟨b, cap, cur, rfl, hb, hg, rest⟩
  · exact .inl hn
  · refine .inr ⟨b, cap, cur, rfl, hb, ?_, rest⟩
    rw [hs.block b (Array.getElem?_eq_some_iff.1 hg).1 (hS b rfl)]
    exact hg
theorem bx3 {V w5 : World} (hg : (((V.alloc (.cells #[] 81)).alloc (.cells #[.slice none 0 0, .int .i64 0, .int .i64 0, .slice none 0 0] 34)).drew).grownBy w5 (Value.slice (some ⟨V.heap.size, 0, none⟩) 0 0).ownBlock) : MBox w5 (V.heap.size + 1) none 0 0 0 0 none 0 0 ∧ MFree w5 (V.heap.size + 1) := by
  have h1 := MBox.new (V.alloc (.cells #[] 81)) none 0 0 0 0 none 0 0 34
  have h2 := MFree.new (V.alloc (.cells #[] 81)) (.slice none 0 0) (.int .i64 0) (.int .i64 0) (.slice none 0 0) 34
  simp only [World.size_alloc] at h1 h2
  have hs : Save ((V.alloc (.cells #[] 81)).alloc (.cells #[.slice none 0 0, .int .i64 0, .int .i64 0, .slice none 0 0] 34)) w5 (fun j => j = V.heap.size) := ((Save.refl _ _).drew).grown hg (fun k hk _ => by simp [Value.ownBlock] at hk; omega)
  exact ⟨h1.save hs (by omega), h2.save hs h1.lt (by omega)⟩
theorem bx2 {V w5 : World} (hg : (((V.alloc (.cells #[.slice none 0 0, .int .i64 0, .int .i64 0, .slice none 0 0] 34)).alloc (.cells #[] 81)).drew).grownBy w5 (Value.slice (some ⟨V.heap.size + 1, 0, none⟩) 0 0).ownBlock) : MBox w5 V.heap.size none 0 0 0 0 none 0 0 ∧ MFree w5 V.heap.size := by
  have h1 := (MBox.new V none 0 0 0 0 none 0 0 34).on (below_one' (V.alloc (.cells #[.slice none 0 0, .int .i64 0, .int .i64 0, .slice none 0 0] 34)) (.cells #[] 81))
  have h2 := (MFree.new V (.slice none 0 0) (.int .i64 0) (.int .i64 0) (.slice none 0 0) 34).on (below_one' (V.alloc (.cells #[.slice none 0 0, .int .i64 0, .int .i64 0, .slice none 0 0] 34)) (.cells #[] 81)) (by simp)
  have hs : Save ((V.alloc (.cells #[.slice none 0 0, .int .i64 0, .int .i64 0, .slice none 0 0] 34)).alloc (.cells #[] 81)) w5 (fun j => j = V.heap.size + 1) := ((Save.refl _ _).drew).grown hg (fun k hk _ => by simp [Value.ownBlock] at hk; omega)
  exact ⟨h1.save hs (by omega), h2.save hs h1.lt (by omega)⟩
theorem OwnI.lit0 (W : World) (b base : Nat) (hq : W.heap.size = b) (hb : base ≤ W.heap.size) : OwnI (W.alloc (.cells #[] 2)) base (.slice (some ⟨b, 0, none⟩) 0 0) [] := by
  subst hq
  exact own_none W base hb
/-- What is owned lies no lower than its block. -/
theorem OwnI.own_low {w : World} {base : Nat} {v : Value} {Z : List Int} (h : OwnI w base v Z) {B : Nat} (hB : ∀ p, v.ownBlock = some p → B ≤ p) : OwnI w B v Z := by
  refine ⟨h.1, ?_⟩
  rcases h.2 with hn | ⟨b, cap, cur, rfl, h1, rest⟩
  · exact .inl hn
  · exact .inr ⟨b, cap, cur, rfl, hB b rfl, rest⟩
/-- What stands in a round of l06Copy. -/
structure CpAt (W9 wr : World) (mb g n gc : Nat) (cnt now : Int) (va : Option Addr) (vc : Nat) (C : List Cl) (Vt : Nat → Value) (k : Nat) : Prop where
  own : OwnK wr W9.heap.size (.slice va k vc) C Vt k
  box : MBox wr mb (some ⟨g, 0, none⟩) n gc cnt now va k vc
  fr : MFree wr mb
  ts : ∀ i, i < k → OwnI wr W9.heap.size (Vt i) (clAt C i).ts
  ap : ∀ i, i < k → ∀ p, (Vt i).ownBlock = some p → (Value.slice va k vc).ownBlock ≠ some p
  sv : Save W9 wr (fun j => j = mb)
theorem rowK_one (C : List Cl) (V : Nat → Value) (i : Nat) (h : (V i).oneCell' = true) : ∀ u ∈ rowK C V i, u.oneCell' = true := by
  intro u hu
  simp only [rowK, List.mem_cons, List.not_mem_nil, or_false] at hu
  rcases hu with rfl | rfl | rfl | rfl <;> first | rfl | exact h
theorem cells_k (X : World) (n : Nat) (hn : n = X.heap.size) (C : List Cl) (V : Nat → Value) (i : Nat) (t : TypeId) : ∀ j u, (rowK C V i)[j]? = some u → (X.alloc (.cells #[.int .i64 (clAt C i).lo, .int .i64 (clAt C i).hi, V i, .bool (clAt C i).was] t)).cell? ((⟨n, 0, none⟩ : Addr).add j) = some u := by
  subst hn
  intro j u hu
  have hj : j < 4 := by have := (List.getElem?_eq_some_iff.1 hu).1; simpa [rowK] using this
  rw [Addr.add_lit, Nat.zero_add]
  have hc : j = 0 ∨ j = 1 ∨ j = 2 ∨ j = 3 := by omega
  rcases hc with rfl | rfl | rfl | rfl <;> (simp [rowK] at hu; subst hu; simp [go_sem])
/-- A round's end. -/
theorem CpAt.put {W9 wr X w4 : World} {mb g n gc : Nat} {cnt now : Int} {va : Option Addr} {vc : Nat} {C : List Cl} {Vt : Nat → Value} {k gb cp : Nat} {v : Value} (h : CpAt W9 wr mb g n gc cnt now va vc C Vt k) (hmb : mb < W9.heap.size) (hs : Save wr X (fun _ => False)) (ho : OwnI X wr.heap.size v (clAt C k).ts) (hg : X.grownBy w4 (Value.slice va k vc).ownBlock) (hat : (Value.slice (some ⟨gb, 0, none⟩) (k + 1) cp).ownBlock = (Value.slice va k vc).ownBlock ∨ (Value.slice (some ⟨gb, 0, none⟩) (k + 1) cp).ownBlock = some X.heap.size) (how : OwnK w4 W9.heap.size (.slice (some ⟨gb, 0, none⟩) (k + 1) cp) C (fun i => if i = k then v else Vt i) (k + 1)) :
    CpAt W9 (w4.setCell ⟨mb, 3, none⟩ (.slice (some ⟨gb, 0, none⟩) (k + 1) cp)) mb g n gc cnt now (some ⟨gb, 0, none⟩) cp C (fun i => if i = k then v else Vt i) (k + 1) := by
  have h1 : Save X w4 (fun j => (Value.slice va k vc).ownBlock = some j) := (Save.refl X _).grown hg (fun k e _ => e)
  have hs4 : Save wr w4 (fun j => (Value.slice va k vc).ownBlock = some j) := (hs.mono (T := fun j => (Value.slice va k vc).ownBlock = some j) (fun _ _ f => f.elim)).trans h1
  have hrow := World.ownsRow.lt h.own
  have hn : ¬ (Value.slice va k vc).ownBlock = some mb := fun e => by have := (hrow _ e).1; omega
  have hset := gset1 w4 mb 3 (.slice (some ⟨gb, 0, none⟩) (k + 1) cp)
  have hb4 : mb < w4.heap.size := Nat.lt_of_lt_of_le h.box.lt hs4.size
  have c3 := (hs4.cell (p := ⟨mb, 3, none⟩) h.box.lt hn).trans h.box.m3
  have hrow4 := World.ownsRow.lt how
  have hz9 := h.sv.size
  have hzX := hs.size
  refine ⟨how.save hset (fun j e => by have := (hrow4 j e).1; omega), ⟨Nat.lt_of_lt_of_le hb4 hset.size, ?_, ?_, ?_, ?_⟩, (h.fr.save hs4 h.box.lt hn).set _ _, fun i hi => ?_, fun i hi p hp => ?_, ?_⟩
  · rw [World.cell?_setCell_other _ _ _ _ (by simp)]; exact (hs4.cell (p := ⟨mb, 0, none⟩) h.box.lt hn).trans h.box.m0
  · rw [World.cell?_setCell_other _ _ _ _ (by simp)]; exact (hs4.cell (p := ⟨mb, 1, none⟩) h.box.lt hn).trans h.box.m1
  · rw [World.cell?_setCell_other _ _ _ _ (by simp)]; exact (hs4.cell (p := ⟨mb, 2, none⟩) h.box.lt hn).trans h.box.m2
  · simp [go_sem, c3]
  · show OwnI _ _ (if i = k then v else Vt i) _
    split
    · next e =>
      subst e
      exact ((ho.save h1 (fun j e2 e3 => by have h5 := (ho.lt j e2).1; have h6 := (hrow j e3).2; omega)).save hset (fun j e2 => by have h5 := (ho.lt j e2).1; omega)).low (by omega)
    · exact ((h.ts i (by omega)).save hs4 (fun j e2 e3 => h.ap i (by omega) j e2 e3)).save hset (fun j e2 => by have := ((h.ts i (by omega)).lt j e2).1; omega)
  · have hp : (if i = k then v else Vt i).ownBlock = some p := hp
    intro e
    by_cases ei : i = k
    · rw [if_pos ei] at hp
      have h5 := ho.lt p hp
      rcases hat with h6 | h6
      · rw [h6] at e
        have := (hrow p e).2
        omega
      · rw [h6] at e
        injection e with e
        omega
    · rw [if_neg ei] at hp
      rcases hat with h6 | h6
      · rw [h6] at e
        exact h.ap i (by omega) p hp e
      · rw [h6] at e
        injection e with e
        have := ((h.ts i (by omega)).lt p hp).2
        omega
  · refine Save.setCell (S := fun j => j = mb) ?_ (p := ⟨mb, 3, none⟩) (fun _ => rfl) _
    refine ⟨hs4.os.trans h.sv.os, hs4.tape.trans h.sv.tape, hs4.output.trans h.sv.output, Nat.le_trans h.sv.size hs4.size, fun j hj hq => ?_⟩
    exact (hs4.block j (Nat.lt_of_lt_of_le hj h.sv.size) (fun e => by have := (hrow _ e).1; omega)).trans (h.sv.block j hj hq)
theorem CpAt.mid {W9 wr X w4 : World} {mb g n gc : Nat} {cnt now : Int} {va : Option Addr} {vc : Nat} {C : List Cl} {Vt : Nat → Value} {k : Nat} (h : CpAt W9 wr mb g n gc cnt now va vc C Vt k) (hmb : mb < W9.heap.size) (hs : Save wr X (fun _ => False)) (hg : X.grownBy w4 (Value.slice va k vc).ownBlock) : w4.cell? ⟨mb, 3, none⟩ = some (.slice va k vc) ∧ w4.frozen? ⟨mb, 3, none⟩ = false ∧ mb < w4.heap.size := by
  have hs4 : Save wr w4 (fun j => (Value.slice va k vc).ownBlock = some j) := (hs.mono (T := fun j => (Value.slice va k vc).ownBlock = some j) (fun _ _ f => f.elim)).trans ((Save.refl X _).grown hg (fun k e _ => e))
  have hn : ¬ (Value.slice va k vc).ownBlock = some mb := fun e => by have := (World.ownsRow.lt h.own _ e).1; omega
  exact ⟨(hs4.cell (p := ⟨mb, 3, none⟩) h.box.lt hn).trans h.box.m3, (hs4.frozen (p := ⟨mb, 3, none⟩) h.box.lt hn).trans h.fr.g3, Nat.lt_of_lt_of_le h.box.lt hs4.size⟩
theorem CkX.step {w w' : World} {T T' S : Nat → Prop} {cb i : Nat} {d : Cl} (h : CkX w T cb i d) (hs : Save w w' S) (hc : cb < w.heap.size) (hcb : ¬ S cb) (hST : ∀ j, j < w.heap.size → S j → T j) (hT' : ∀ j, T' j → T j ∨ w.heap.size ≤ j) : CkX w' T' cb i d := by
  obtain ⟨a, c, h0, h1, h2, h3, h4, h5, h6⟩ := h
  refine ⟨a, c, (hs.cell (p := ⟨cb, _, none⟩) hc hcb).trans h0, (hs.cell (p := ⟨cb, _, none⟩) hc hcb).trans h1, (hs.cell (p := ⟨cb, _, none⟩) hc hcb).trans h2, (hs.cell (p := ⟨cb, _, none⟩) hc hcb).trans h3, h4, ?_, fun hl q e hq => ?_⟩
  · by_cases hl : d.ts.length = 0
    · exact Or.inl hl
    · rcases h5 with h5 | ⟨b, off, e, hb, hcs⟩
      · exact absurd h5 hl
      · have hn : ¬ S b := fun hS => h6 (by omega) _ e (hST b hb hS)
        exact Or.inr ⟨b, off, e, Nat.lt_of_lt_of_le hb hs.size, fun j hj => (hs.cell (p := ⟨b, _, none⟩) hb hn).trans (hcs j hj)⟩
  · rcases hT' _ hq with h7 | h7
    · exact h6 hl q e h7
    · rcases h5 with h5 | ⟨b, off, e2, hb, _⟩
      · omega
      · rw [e2] at e
        injection e with e
        subst e
        have h7 : w.heap.size ≤ b := h7
        omega
/-- The cells of a row that is owned. -/
theorem cks_of {W : World} {base : Nat} {va : Option Addr} {vc n : Nat} {C : List Cl} {Vt : Nat → Value} (h0 : 0 < n) (hown : OwnK W base (.slice va n vc) C Vt n) (hts : ∀ i, i < n → OwnI W base (Vt i) (clAt C i).ts) (hap : ∀ i, i < n → ∀ p, (Vt i).ownBlock = some p → (Value.slice va n vc).ownBlock ≠ some p) : ∃ cb, va = some ⟨cb, 0, none⟩ ∧ base ≤ cb ∧ cb < W.heap.size ∧ (∀ i, i < n → CkX W (fun j => j = cb ∨ j < base) cb i (clAt C i)) ∧ ∀ o, W.frozen? ⟨cb, o, none⟩ = false := by
  obtain ⟨gb, cp, e, _, _⟩ := World.ownsRow.form hown h0
  injection e with e1 e2 e3
  subst e1
  have hl := World.ownsRow.lt hown gb rfl
  have hcell : ∀ i r u, i < n → r < 4 → (rowK C Vt i)[r]? = some u → W.cell? ⟨gb, i * 4 + r, none⟩ = some u := fun i r u hi hr hu => by
    have := World.ownsRow.cells (g := gb) hown rfl (i * 4 + r) u (by rw [flatK_get C Vt n i r hi hr]; exact hu)
    rwa [Addr.add_lit, Nat.zero_add] at this
  refine ⟨gb, rfl, hl.1, hl.2, fun i hi => ?_, fun o => ?_⟩
  · obtain ⟨a', c', ev, hA, _, hb⟩ := (hts i hi).form
    have hsl := hts i hi
    rw [ev] at hsl
    refine ⟨a', c', hcell i 0 _ hi (by omega) rfl, hcell i 1 _ hi (by omega) rfl, (hcell i 2 _ hi (by omega) (by show some (Vt i) = _; rw [ev])), hcell i 3 _ hi (by omega) rfl, hsl.slv, hA, fun _ q e => ?_⟩
    intro e2
    obtain ⟨qb, qo, qr⟩ := q
    subst e
    rcases hsl.2 with ⟨e3, _⟩ | ⟨g2, cap, cur, e3, hg2, _⟩
    · injection e3 with e3; cases e3
    · injection e3 with e3 e4 e5
      injection e3 with e3
      injection e3 with e6 e7 e8
      subst e6 e7 e8
      have e2 : qb = gb ∨ qb < base := e2
      rcases e2 with e2 | e2
      · exact hap i hi qb (by rw [ev]; rfl) (by rw [e2]; rfl)
      · omega
  · rcases hown.2 with ⟨e3, _⟩ | ⟨g2, cap, cur, e3, _, hg, _⟩
    · injection e3 with e3; cases e3
    · injection e3 with e3 e4 e5
      injection e3 with e3
      injection e3 with e6
      subst e6
      exact frozen_of_row W gb o _ _ hg
set_option maxRecDepth 20000 in
set_option maxHeartbeats 8000000 in
theorem specCopy_any (f : List Nd) (fb fc : Nat) (cnt now : Int) (C : List Cl) (ca : Option Addr) (cc : Nat) (h0 : 0 < f.length) (hl : f.length ≤ 1000) (hcl : C.length = f.length) (htl : ∀ i, i < C.length → (clAt C i).ts.length ≤ 2000000) (w : World) (hN : NodesAt w fb f) (hC : CksAt w ca C) :
    Calls Tryz.prog 104 #[.agg #[.slice (some ⟨fb, 0, none⟩) f.length fc, .int .i64 cnt, .int .i64 now, .slice ca C.length cc]] w fun e w' => ∃ g gc cb cap, e = .returned (.agg #[.slice (some ⟨g, 0, none⟩) f.length gc, .int .i64 cnt, .int .i64 now, .slice (some ⟨cb, 0, none⟩) C.length cap]) ∧ w.heap.size ≤ g ∧ NodesAt w' g f ∧ w.heap.size ≤ cb ∧ g ≠ cb ∧ cb < w'.heap.size ∧ (∀ i, i < C.length → CkX w' (fun j => j = cb ∨ j < w.heap.size) cb i (clAt C i)) ∧ (∀ o, w'.frozen? ⟨cb, o, none⟩ = false) ∧ Below w.heap.size w w' := by
  rw [hcl]
  have HCl := hid hcl
  have HTl := hid htl
  clear hcl htl
  obtain ⟨i0, hi0, hz0, hz1, hz2⟩ := info_parts Tryz.infoN
  obtain ⟨j0, hj0, hy0, hy1, hy2⟩ := info_parts Tryz.infoCk
  have HB0 := hid (bbelow2 w (.cells #[.slice (some ⟨fb, 0, none⟩) f.length fc, .int .i64 cnt, .int .i64 now, .slice ca f.length cc] 34) (.cells #[.slice none 0 0, .int .i64 0, .int .i64 0, .slice none 0 0] 34))
  have HXm : Hid (MBox ((w.alloc (.cells #[.slice (some ⟨fb, 0, none⟩) f.length fc, .int .i64 cnt, .int .i64 now, .slice ca f.length cc] 34)).alloc (.cells #[.slice none 0 0, .int .i64 0, .int .i64 0, .slice none 0 0] 34)) w.heap.size (some ⟨fb, 0, none⟩) f.length fc cnt now ca f.length cc) := (MBox.new w _ _ _ _ _ _ _ _ _).on (below_one' _ _)
  have HXr := hid (And.intro (MBox.new (w.alloc (.cells #[.slice (some ⟨fb, 0, none⟩) f.length fc, .int .i64 cnt, .int .i64 now, .slice ca f.length cc] 34)) none 0 0 0 0 none 0 0 34) (MFree.new (w.alloc (.cells #[.slice (some ⟨fb, 0, none⟩) f.length fc, .int .i64 cnt, .int .i64 now, .slice ca f.length cc] 34)) (.slice none 0 0) (.int .i64 0) (.int .i64 0) (.slice none 0 0) 34))
  simp only [World.size_alloc] at HXr
  have HN := hid hN
  have HC := hid hC
  have hbw := hN.1
  clear hN hC
  go_enter Tryz.func104, Tryz.ntmps104
  go_wp2_with fail
  generalize (w.alloc (.cells #[.slice (some ⟨fb, 0, none⟩) f.length fc, .int .i64 cnt, .int .i64 now, .slice ca f.length cc] 34)).alloc (.cells #[.slice none 0 0, .int .i64 0, .int .i64 0, .slice none 0 0] 34) = V at *
  have HS := hid (fun W' (hb : Below V.heap.size V W') => (by obtain ⟨_, m0, m1, m2, _⟩ := HXm.out.on hb; exact ⟨m0, m1, m2⟩ : W'.cell? ⟨w.heap.size, 0, none⟩ = some (.slice (some ⟨fb, 0, none⟩) f.length fc) ∧ W'.cell? ⟨w.heap.size, 1, none⟩ = some (.int .i64 cnt) ∧ W'.cell? ⟨w.heap.size, 2, none⟩ = some (.int .i64 now)))
  have HBV := hid (Below.refl V.heap.size V)
  have HNV := hid (HN.out.below HB0.out hbw)
  go_region_held3 (fun W' => W'.cell? ⟨w.heap.size, 0, none⟩ = some (.slice (some ⟨fb, 0, none⟩) f.length fc) ∧ W'.cell? ⟨w.heap.size, 1, none⟩ = some (.int .i64 cnt) ∧ W'.cell? ⟨w.heap.size, 2, none⟩ = some (.int .i64 now)) ((refine HS.out _ ?_; repeat (first | exact HB5.out | exact HBV.out | apply below_drew | (refine Below.alloc ?_ (by first | omega | (simp; done) | (simp; omega)) _) | (refine Below.setCell ?_ (by show V.heap.size ≤ _; first | omega | (simp; done) | (simp; omega)) _)))) ((first | (refine step_append_own rfl (.tmp 6) (.tmp 8) 23 rfl V.heap.size 81 i0 _ 6 56 Tryz.uNs hi0 hz0 hz1 hz2 rfl (by decide) (.slice (some ⟨V.heap.size, 0, none⟩) 0 0) 0 [] (by simp [Act.eval, Act.put]; done) (((ownsN_none' V V.heap.size rfl V.heap.size (Nat.le_refl _)).save ((Save.refl _ (fun _ => False)).drew) (fun _ _ h => h))) ⟨fb, 0, none⟩ f.length fc (flatN f) (by simp [Act.eval, Act.put]; done) (flatN_len f) (flatN_cells (HNV.out.below (And.intro (below_drew (below_one' V (.cells #[] 81))) (((Save.refl V (fun _ => False)).alloc (.cells #[] 81)).drew)).1 HNV.out.1)) (flatN_one f) (by unfold maxLen; omega) (by omega) (by first | (simp; done) | (simp; omega)) ?_; intro v5 w5 hown5 hgrow5 hat5; have hO5 : OwnsN w5 V.heap.size v5 f := (by show w5.ownsRow _ _ _ _ _ _; simpa using hown5); obtain ⟨g, gc, gm, gz, rfl, _, hgg, hgm, hgr, _, hall⟩ := hO5.row h0; have hs5 : Save V w5 (fun _ => False) := ((And.intro (below_drew (below_one' V (.cells #[] 81))) (((Save.refl V (fun _ => False)).alloc (.cells #[] 81)).drew)).2.grown hgrow5 (fun k hk h => by simp [Value.ownBlock, Act.eval, Act.put] at hk; try omega)); have HN5 := hid (hall _ hgr); have HB5 := hid (hs5.below (B := V.heap.size) (Nat.le_refl _) (fun j h => h.elim)); have hz5 := hs5.size; have hg5 := HN5.out.1; skip; clear hown5 hgrow5 hs5 hO5 hgr hall hat5) | (refine step_append_own rfl (.tmp 6) (.tmp 8) 23 rfl V.heap.size 81 i0 _ 6 56 Tryz.uNs hi0 hz0 hz1 hz2 rfl (by decide) (.slice (some ⟨V.heap.size, 0, none⟩) 0 0) 0 [] (by simp [Act.eval, Act.put]; done) (((ownsN_none' V V.heap.size rfl V.heap.size (Nat.le_refl _)).save (((Save.refl _ (fun _ => False)).alloc (.cells #[.slice none 0 0, .int .i64 0, .int .i64 0, .slice none 0 0] 34)).drew) (fun _ _ h => h))) ⟨fb, 0, none⟩ f.length fc (flatN f) (by simp [Act.eval, Act.put]; done) (flatN_len f) (flatN_cells (HNV.out.below (And.intro (below_drew (bbelow2' V (.cells #[] 81) (.cells #[.slice none 0 0, .int .i64 0, .int .i64 0, .slice none 0 0] 34))) ((((Save.refl V (fun _ => False)).alloc (.cells #[] 81)).alloc (.cells #[.slice none 0 0, .int .i64 0, .int .i64 0, .slice none 0 0] 34)).drew)).1 HNV.out.1)) (flatN_one f) (by unfold maxLen; omega) (by omega) (by first | (simp; done) | (simp; omega)) ?_; intro v5 w5 hown5 hgrow5 hat5; have hO5 : OwnsN w5 V.heap.size v5 f := (by show w5.ownsRow _ _ _ _ _ _; simpa using hown5); obtain ⟨g, gc, gm, gz, rfl, _, hgg, hgm, hgr, _, hall⟩ := hO5.row h0; have hs5 : Save V w5 (fun _ => False) := ((And.intro (below_drew (bbelow2' V (.cells #[] 81) (.cells #[.slice none 0 0, .int .i64 0, .int .i64 0, .slice none 0 0] 34))) ((((Save.refl V (fun _ => False)).alloc (.cells #[] 81)).alloc (.cells #[.slice none 0 0, .int .i64 0, .int .i64 0, .slice none 0 0] 34)).drew)).2.grown hgrow5 (fun k hk h => by simp [Value.ownBlock, Act.eval, Act.put] at hk; try omega)); have HN5 := hid (hall _ hgr); have HB5 := hid (hs5.below (B := V.heap.size) (Nat.le_refl _) (fun j h => h.elim)); have hz5 := hs5.size; have hg5 := HN5.out.1; have hgm9 : ¬ g = V.heap.size + 1 := (by simp [Value.ownBlock, Act.eval, Act.put] at hat5; omega); have HMB := hid (bx3 hgrow5); obtain ⟨⟨ml, y0, y1, y2, y3⟩, ⟨f0, f1, f2, f3⟩⟩ := HMB.out; clear hown5 hgrow5 hs5 hO5 hgr hall hat5) | (refine step_append_own rfl (.tmp 6) (.tmp 8) 23 rfl V.heap.size 81 i0 _ 6 56 Tryz.uNs hi0 hz0 hz1 hz2 rfl (by decide) (.slice (some ⟨V.heap.size + 1, 0, none⟩) 0 0) 0 [] (by simp [Act.eval, Act.put]; done) (((ownsN_none' (V.alloc (.cells #[.slice none 0 0, .int .i64 0, .int .i64 0, .slice none 0 0] 34)) (V.heap.size + 1) (by simp) V.heap.size (by simp)).save ((Save.refl _ (fun _ => False)).drew) (fun _ _ h => h))) ⟨fb, 0, none⟩ f.length fc (flatN f) (by simp [Act.eval, Act.put]; done) (flatN_len f) (flatN_cells (HNV.out.below (And.intro (below_drew (bbelow2' V (.cells #[.slice none 0 0, .int .i64 0, .int .i64 0, .slice none 0 0] 34) (.cells #[] 81))) ((((Save.refl V (fun _ => False)).alloc (.cells #[.slice none 0 0, .int .i64 0, .int .i64 0, .slice none 0 0] 34)).alloc (.cells #[] 81)).drew)).1 HNV.out.1)) (flatN_one f) (by unfold maxLen; omega) (by omega) (by first | (simp; done) | (simp; omega)) ?_; intro v5 w5 hown5 hgrow5 hat5; have hO5 : OwnsN w5 V.heap.size v5 f := (by show w5.ownsRow _ _ _ _ _ _; simpa using hown5); obtain ⟨g, gc, gm, gz, rfl, _, hgg, hgm, hgr, _, hall⟩ := hO5.row h0; have hs5 : Save V w5 (fun _ => False) := ((And.intro (below_drew (bbelow2' V (.cells #[.slice none 0 0, .int .i64 0, .int .i64 0, .slice none 0 0] 34) (.cells #[] 81))) ((((Save.refl V (fun _ => False)).alloc (.cells #[.slice none 0 0, .int .i64 0, .int .i64 0, .slice none 0 0] 34)).alloc (.cells #[] 81)).drew)).2.grown hgrow5 (fun k hk h => by simp [Value.ownBlock, Act.eval, Act.put] at hk; try omega)); have HN5 := hid (hall _ hgr); have HB5 := hid (hs5.below (B := V.heap.size) (Nat.le_refl _) (fun j h => h.elim)); have hz5 := hs5.size; have hg5 := HN5.out.1; have hgm9 : ¬ g = V.heap.size := (by simp [Value.ownBlock, Act.eval, Act.put] at hat5; omega); have HMB := hid (bx2 hgrow5); obtain ⟨⟨ml, y0, y1, y2, y3⟩, ⟨f0, f1, f2, f3⟩⟩ := HMB.out; clear hown5 hgrow5 hs5 hO5 hgr hall hat5)))
  -- THREE WAYS
  · have HM9 := hid (MBox.new w5 (some ⟨g, 0, none⟩) f.length gc cnt now none 0 0 34)
    have HF9 := hid (MFree.new w5 (.slice (some ⟨g, 0, none⟩) f.length gc) (.int .i64 cnt) (.int .i64 now) (.slice none 0 0) 34)
    have HB59 := hid (below_one' w5 (.cells #[.slice (some ⟨g, 0, none⟩) f.length gc, .int .i64 cnt, .int .i64 now, .slice none 0 0] 34))
    have hgm9 : ¬ g = w5.heap.size := by omega
    generalize w5.alloc (.cells #[.slice (some ⟨g, 0, none⟩) f.length gc, .int .i64 cnt, .int .i64 now, .slice none 0 0] 34) = W9 at *
    have HB9 := hid (HB5.out.trans (HB59.out.mono hz5))
    have HN9 := hid (HN5.out.below HB59.out hg5)
    have hmbV : V.heap.size ≤ w5.heap.size := by omega
    have hmb9 : w5.heap.size < W9.heap.size := HM9.out.lt
    have HD0 : Hid (CpAt W9 W9 (w5.heap.size) g f.length gc cnt now none 0 C (fun _ => .slice none 0 0) 0) := ⟨World.ownsRow_nil _ _ _ _, HM9.out, HF9.out, fun i hi => absurd hi (by omega), fun i hi => absurd hi (by omega), Save.refl _ _⟩
    have hV2 := HXm.out.lt
    go_wp2_with fail
    go_loopw [4] (fun t wr => ∃ (k : Nat) (va : Option Addr) (vc : Nat) (Vt : Nat → Value), k ≤ f.length ∧ t = .int .i64 k ∧ CpAt W9 wr (w5.heap.size) g f.length gc cnt now va vc C Vt k) (fun t _ => f.length - (intOf t).toNat)
    case atStart => exact ⟨0, none, 0, _, Nat.zero_le _, rfl, HD0.out⟩
    case round =>
      obtain ⟨k, va, vc, Vt, hk, rfl, hD⟩ := hrel
      have HD := hid hD
      have hsz := hD.sv.size
      have HBr : Hid (Below V.heap.size V wr) := HB9.out.trans (hD.sv.below (B := V.heap.size) (by have := HB9.out.size; omega) (fun j e => by omega))
      have HBw : Hid (Below w.heap.size w wr) := HB0.out.trans (HBr.out.mono HB0.out.size)
      obtain ⟨_, m0, m1, m2, m3⟩ := HXm.out.on HBr.out
      have hwr : w.heap.size < wr.heap.size := by have := HBr.out.size; omega
      clear m0 m1 m2 hD
      by_cases hlt : k < f.length
      · rcases HC.out with hz | ⟨wb, o, rfl, hwb, hcs⟩
        · have := HCl.out; omega
        obtain ⟨c0, c1, c3, a, c, c2, hsl, hAr⟩ := (hcs k (by have := HCl.out; omega)).below HBw.out (Nat.le_refl _) hwb
        have HAr := hid hAr
        have hlk := HTl.out k (by have := HCl.out; omega)
        have hwbr : wb < wr.heap.size := by omega
        clear hcs hAr
        go_wp2_with (first | (at_builtin; go_loud (refine wpList_append_I rfl _ _ rfl W9.heap.size (wr.heap.size + 1) rfl ((OwnI.lit0 (wr.alloc (.cells #[.int .i64 (clAt C k).lo, .int .i64 (clAt C k).hi, .slice a (clAt C k).ts.length c, .bool (clAt C k).was] 96)) (wr.heap.size + 1) W9.heap.size (by simp) (by simp; omega))) a (clAt C k).ts.length c (clAt C k).ts rfl rfl hsl (HAr.out.on (bbelow2' wr _ _)) hlk (by simp; omega) ?_; intro v' w3 hO3 hg3 hat3; obtain ⟨a', c', rfl, _, _, hbl3⟩ := hO3.form; have hs3 : Save ((wr.alloc (.cells #[.int .i64 (clAt C k).lo, .int .i64 (clAt C k).hi, .slice a (clAt C k).ts.length c, .bool (clAt C k).was] 96)).alloc (.cells #[] 2)) w3 (fun j => j = wr.heap.size + 1) := (Save.refl _ _).grown hg3 (fun k hk _ => by injection hk with hk; exact hk.symm); have hs3' : Save wr w3 (fun _ => False) := (((Save.refl wr (fun j => j = wr.heap.size + 1)).alloc (.cells #[.int .i64 (clAt C k).lo, .int .i64 (clAt C k).hi, .slice a (clAt C k).ts.length c, .bool (clAt C k).was] 96)).alloc (.cells #[] 2)).trans hs3 |>.mono (fun j hj e => by omega); have HS3 := hid hs3'; have HO3 := hid (OwnI.own_low hO3 (B := wr.heap.size + 1) (by rcases hat3 with e | e <;> (intro p hp; rw [e] at hp; injection hp with hp; (try simp at hp); omega))); have d0 := (hs3.cell (p := ⟨wr.heap.size, 0, none⟩) (by simp; omega) (by show ¬ wr.heap.size = _; omega)); have d1 := (hs3.cell (p := ⟨wr.heap.size, 1, none⟩) (by simp; omega) (by show ¬ wr.heap.size = _; omega)); have d2 := (hs3.cell (p := ⟨wr.heap.size, 2, none⟩) (by simp; omega) (by show ¬ wr.heap.size = _; omega)); have d3 := (hs3.cell (p := ⟨wr.heap.size, 3, none⟩) (by simp; omega) (by show ¬ wr.heap.size = _; omega)); have df := (hs3.frozen (p := ⟨wr.heap.size, 2, none⟩) (by simp; omega) (by show ¬ wr.heap.size = _; omega)); simp [go_sem] at d0 d1 d2 d3 df; have hwz3 : wr.heap.size < w3.heap.size := (by have := hs3.size; simp at this; omega); have p3 := (hs3'.cell (p := ⟨w5.heap.size, 3, none⟩) HD.out.box.lt (fun h => h)).trans HD.out.box.m3; have pf := (hs3'.frozen (p := ⟨w5.heap.size, 3, none⟩) HD.out.box.lt (fun h => h)).trans HD.out.fr.g3; have hmb3 := Nat.lt_of_lt_of_le HD.out.box.lt hs3'.size; clear hO3 hg3 hat3 hs3 hs3' m3 c0 c1 c2 c3)) | (at_builtin; go_loud (refine wpList_append_own_at _ rfl _ _ 32 rfl W9.heap.size 96 j0 _ 4 48 Tryz.uCks hj0 hy0 hy1 hy2 rfl (by decide) (.slice va k vc) k (flatK C Vt k) rfl ((HD.out.own.save (HS3.out.setCell (p := ⟨wr.heap.size, 2, none⟩) (fun h => absurd h (by show ¬ wr.heap.size < wr.heap.size; omega)) (.slice a' (clAt C k).ts.length c')) (fun _ _ h => h)).save ((Save.refl _ (fun _ => False)).alloc _) (fun _ _ h => h)) ⟨w3.heap.size, 0, none⟩ 1 1 (rowK C (fun i => if i = k then .slice a' (clAt C k).ts.length c' else Vt i) k) (by first | rfl | (simp [Act.eval, Act.put]; done)) rfl (by have := cells_k (w3.setCell ⟨wr.heap.size, 2, none⟩ (.slice a' (clAt C k).ts.length c')) w3.heap.size (by simp) C (fun i => if i = k then .slice a' (clAt C k).ts.length c' else Vt i) k 96; simpa using this) (rowK_one C _ k (by simp [Value.oneCell'])) (by unfold maxLen; omega) (by omega) (by simp; omega) ?_; intro v' w4 hown4 hgrow4 _ hat4; obtain ⟨gb, cp, rfl, _, _⟩ := World.ownsRow.form hown4 (by omega); have HW4 : Hid (OwnK w4 W9.heap.size (.slice (some ⟨gb, 0, none⟩) (k + 1) cp) C (fun i => if i = k then .slice a' (clAt C k).ts.length c' else Vt i) (k + 1)) := (by show w4.ownsRow _ _ _ _ _ _; rw [flatK, ← flatK_congr C Vt (fun i => if i = k then .slice a' (clAt C k).ts.length c' else Vt i) k (fun i hi => by rw [if_neg (by omega)])]; exact hown4); have hsX := (Save.alloc (HS3.out.setCell (p := ⟨wr.heap.size, 2, none⟩) (fun h => absurd h (by show ¬ wr.heap.size < wr.heap.size; omega)) (.slice a' (clAt C k).ts.length c')) (.cells #[.int .i64 (clAt C k).lo, .int .i64 (clAt C k).hi, .slice a' (clAt C k).ts.length c', .bool (clAt C k).was] 96)); have hoX := (HO3.out.save ((Save.setCell (S := fun j => j = wr.heap.size) (Save.refl w3 _) (p := ⟨wr.heap.size, 2, none⟩) (fun _ => rfl) (.slice a' (clAt C k).ts.length c')).alloc (.cells #[.int .i64 (clAt C k).lo, .int .i64 (clAt C k).hi, .slice a' (clAt C k).ts.length c', .bool (clAt C k).was] 96)) (fun p hp e => by have := (HO3.out.lt p hp).1; omega)).low (base' := wr.heap.size) (by omega); obtain ⟨z0, z1, z2⟩ := HD.out.mid hmb9 hsX hgrow4; have HP := hid (HD.out.put hmb9 hsX hoX hgrow4 hat4 HW4.out); clear hown4 hgrow4 hat4 hsX hoX)))
        go_roundw
        case rel => exact ⟨k + 1, some ⟨gb, 0, none⟩, cp, _, by omega, by go_num, HP.out⟩
        case measure => simp [intOf]; omega
      · have hk' : k = f.length := by omega
        subst hk'
        have hxq := HXr.out
        obtain ⟨rl, r0, r1, r2, r3⟩ := hxq.1.on HBr.out
        obtain ⟨q0, q1, q2, q3⟩ := hxq.2.on HBr.out hxq.1.lt
        obtain ⟨_, y0, y1, y2, y3⟩ := HD.out.box
        have hbl := HD.out.box.lt
        go_wp2_with fail
        refine bodyPost_ret (v := .agg #[.slice (some ⟨g, 0, none⟩) f.length gc, .int .i64 cnt, .int .i64 now, .slice va f.length vc]) (by simp [results, Tryz.results104, go_sem, r0, r1, r2, r3, q0, q1, q2, q3]) rfl ?_
        have s4 := gset4 wr (w.heap.size + 1) (.slice (some ⟨g, 0, none⟩) f.length gc) (.int .i64 cnt) (.int .i64 now) (.slice va f.length vc)
        have hown := HD.out.own.save s4 (fun j e => by have := (World.ownsRow.lt HD.out.own j e).1; omega)
        have hts := fun i hi => (HD.out.ts i hi).save s4 (fun j e => by have := ((HD.out.ts i hi).lt j e).1; omega)
        obtain ⟨cb, rfl, hcb, hcl', hck, hfz⟩ := cks_of h0 hown hts HD.out.ap
        have hn9 := HN9.out
        have hnw := HD.out.sv.nodes hn9 hgm9
        have hgr := hn9.1
        have hxl := hxq.1.lt
        exact ⟨g, gc, cb, vc, rfl, by omega, s4.nodes hnw (by omega), by omega, by omega, hcl', (fun i hi => (hck i hi).step (Save.refl _ (fun _ => False)) hcl' (fun h => h) (fun _ _ h => h.elim) (fun j e => by rcases e with e | e; exact Or.inl (Or.inl e); exact Or.inl (Or.inr (by omega)))), hfz, HBw.out.trans (s4.below (B := w.heap.size) HBw.out.size (fun j e => by omega))⟩
  · have HM9 : Hid (MBox ((((w5.setCell ⟨V.heap.size + 1, 0, none⟩ (.slice (some ⟨g, 0, none⟩) f.length gc)).setCell ⟨V.heap.size + 1, 1, none⟩ (.int .i64 cnt)).setCell ⟨V.heap.size + 1, 2, none⟩ (.int .i64 now)).setCell ⟨V.heap.size + 1, 3, none⟩ (.slice none 0 0)) (V.heap.size + 1) (some ⟨g, 0, none⟩) f.length gc cnt now none 0 0) := ⟨by simpa using ml, by simp [go_sem, y0], by simp [go_sem, y1], by simp [go_sem, y2], by simp [go_sem, y3]⟩
    have HF9 : Hid (MFree ((((w5.setCell ⟨V.heap.size + 1, 0, none⟩ (.slice (some ⟨g, 0, none⟩) f.length gc)).setCell ⟨V.heap.size + 1, 1, none⟩ (.int .i64 cnt)).setCell ⟨V.heap.size + 1, 2, none⟩ (.int .i64 now)).setCell ⟨V.heap.size + 1, 3, none⟩ (.slice none 0 0)) (V.heap.size + 1)) := ⟨by simpa using f0, by simpa using f1, by simpa using f2, by simpa using f3⟩
    have HS59 := hid (gset4 w5 (V.heap.size + 1) (.slice (some ⟨g, 0, none⟩) f.length gc) (.int .i64 cnt) (.int .i64 now) (.slice none 0 0))
    clear ml y0 y1 y2 y3 f0 f1 f2 f3 HMB
    generalize ((((w5.setCell ⟨V.heap.size + 1, 0, none⟩ (.slice (some ⟨g, 0, none⟩) f.length gc)).setCell ⟨V.heap.size + 1, 1, none⟩ (.int .i64 cnt)).setCell ⟨V.heap.size + 1, 2, none⟩ (.int .i64 now)).setCell ⟨V.heap.size + 1, 3, none⟩ (.slice none 0 0)) = W9 at *
    have HB9 := hid (HB5.out.trans (HS59.out.below (B := V.heap.size) hz5 (fun j e => by omega)))
    have HN9 := hid (HS59.out.nodes HN5.out hgm9)
    have hmbV : V.heap.size ≤ V.heap.size + 1 := by omega
    have hmb9 : V.heap.size + 1 < W9.heap.size := HM9.out.lt
    have HD0 : Hid (CpAt W9 W9 (V.heap.size + 1) g f.length gc cnt now none 0 C (fun _ => .slice none 0 0) 0) := ⟨World.ownsRow_nil _ _ _ _, HM9.out, HF9.out, fun i hi => absurd hi (by omega), fun i hi => absurd hi (by omega), Save.refl _ _⟩
    have hV2 := HXm.out.lt
    go_wp2_with fail
    go_loopw [4] (fun t wr => ∃ (k : Nat) (va : Option Addr) (vc : Nat) (Vt : Nat → Value), k ≤ f.length ∧ t = .int .i64 k ∧ CpAt W9 wr (V.heap.size + 1) g f.length gc cnt now va vc C Vt k) (fun t _ => f.length - (intOf t).toNat)
    case atStart => exact ⟨0, none, 0, _, Nat.zero_le _, rfl, HD0.out⟩
    case round =>
      obtain ⟨k, va, vc, Vt, hk, rfl, hD⟩ := hrel
      have HD := hid hD
      have hsz := hD.sv.size
      have HBr : Hid (Below V.heap.size V wr) := HB9.out.trans (hD.sv.below (B := V.heap.size) (by have := HB9.out.size; omega) (fun j e => by omega))
      have HBw : Hid (Below w.heap.size w wr) := HB0.out.trans (HBr.out.mono HB0.out.size)
      obtain ⟨_, m0, m1, m2, m3⟩ := HXm.out.on HBr.out
      have hwr : w.heap.size < wr.heap.size := by have := HBr.out.size; omega
      clear m0 m1 m2 hD
      by_cases hlt : k < f.length
      · rcases HC.out with hz | ⟨wb, o, rfl, hwb, hcs⟩
        · have := HCl.out; omega
        obtain ⟨c0, c1, c3, a, c, c2, hsl, hAr⟩ := (hcs k (by have := HCl.out; omega)).below HBw.out (Nat.le_refl _) hwb
        have HAr := hid hAr
        have hlk := HTl.out k (by have := HCl.out; omega)
        have hwbr : wb < wr.heap.size := by omega
        clear hcs hAr
        go_wp2_with (first | (at_builtin; go_loud (refine wpList_append_I rfl _ _ rfl W9.heap.size (wr.heap.size + 1) rfl ((OwnI.lit0 (wr.alloc (.cells #[.int .i64 (clAt C k).lo, .int .i64 (clAt C k).hi, .slice a (clAt C k).ts.length c, .bool (clAt C k).was] 96)) (wr.heap.size + 1) W9.heap.size (by simp) (by simp; omega))) a (clAt C k).ts.length c (clAt C k).ts rfl rfl hsl (HAr.out.on (bbelow2' wr _ _)) hlk (by simp; omega) ?_; intro v' w3 hO3 hg3 hat3; obtain ⟨a', c', rfl, _, _, hbl3⟩ := hO3.form; have hs3 : Save ((wr.alloc (.cells #[.int .i64 (clAt C k).lo, .int .i64 (clAt C k).hi, .slice a (clAt C k).ts.length c, .bool (clAt C k).was] 96)).alloc (.cells #[] 2)) w3 (fun j => j = wr.heap.size + 1) := (Save.refl _ _).grown hg3 (fun k hk _ => by injection hk with hk; exact hk.symm); have hs3' : Save wr w3 (fun _ => False) := (((Save.refl wr (fun j => j = wr.heap.size + 1)).alloc (.cells #[.int .i64 (clAt C k).lo, .int .i64 (clAt C k).hi, .slice a (clAt C k).ts.length c, .bool (clAt C k).was] 96)).alloc (.cells #[] 2)).trans hs3 |>.mono (fun j hj e => by omega); have HS3 := hid hs3'; have HO3 := hid (OwnI.own_low hO3 (B := wr.heap.size + 1) (by rcases hat3 with e | e <;> (intro p hp; rw [e] at hp; injection hp with hp; (try simp at hp); omega))); have d0 := (hs3.cell (p := ⟨wr.heap.size, 0, none⟩) (by simp; omega) (by show ¬ wr.heap.size = _; omega)); have d1 := (hs3.cell (p := ⟨wr.heap.size, 1, none⟩) (by simp; omega) (by show ¬ wr.heap.size = _; omega)); have d2 := (hs3.cell (p := ⟨wr.heap.size, 2, none⟩) (by simp; omega) (by show ¬ wr.heap.size = _; omega)); have d3 := (hs3.cell (p := ⟨wr.heap.size, 3, none⟩) (by simp; omega) (by show ¬ wr.heap.size = _; omega)); have df := (hs3.frozen (p := ⟨wr.heap.size, 2, none⟩) (by simp; omega) (by show ¬ wr.heap.size = _; omega)); simp [go_sem] at d0 d1 d2 d3 df; have hwz3 : wr.heap.size < w3.heap.size := (by have := hs3.size; simp at this; omega); have p3 := (hs3'.cell (p := ⟨V.heap.size + 1, 3, none⟩) HD.out.box.lt (fun h => h)).trans HD.out.box.m3; have pf := (hs3'.frozen (p := ⟨V.heap.size + 1, 3, none⟩) HD.out.box.lt (fun h => h)).trans HD.out.fr.g3; have hmb3 := Nat.lt_of_lt_of_le HD.out.box.lt hs3'.size; clear hO3 hg3 hat3 hs3 hs3' m3 c0 c1 c2 c3)) | (at_builtin; go_loud (refine wpList_append_own_at _ rfl _ _ 32 rfl W9.heap.size 96 j0 _ 4 48 Tryz.uCks hj0 hy0 hy1 hy2 rfl (by decide) (.slice va k vc) k (flatK C Vt k) rfl ((HD.out.own.save (HS3.out.setCell (p := ⟨wr.heap.size, 2, none⟩) (fun h => absurd h (by show ¬ wr.heap.size < wr.heap.size; omega)) (.slice a' (clAt C k).ts.length c')) (fun _ _ h => h)).save ((Save.refl _ (fun _ => False)).alloc _) (fun _ _ h => h)) ⟨w3.heap.size, 0, none⟩ 1 1 (rowK C (fun i => if i = k then .slice a' (clAt C k).ts.length c' else Vt i) k) (by first | rfl | (simp [Act.eval, Act.put]; done)) rfl (by have := cells_k (w3.setCell ⟨wr.heap.size, 2, none⟩ (.slice a' (clAt C k).ts.length c')) w3.heap.size (by simp) C (fun i => if i = k then .slice a' (clAt C k).ts.length c' else Vt i) k 96; simpa using this) (rowK_one C _ k (by simp [Value.oneCell'])) (by unfold maxLen; omega) (by omega) (by simp; omega) ?_; intro v' w4 hown4 hgrow4 _ hat4; obtain ⟨gb, cp, rfl, _, _⟩ := World.ownsRow.form hown4 (by omega); have HW4 : Hid (OwnK w4 W9.heap.size (.slice (some ⟨gb, 0, none⟩) (k + 1) cp) C (fun i => if i = k then .slice a' (clAt C k).ts.length c' else Vt i) (k + 1)) := (by show w4.ownsRow _ _ _ _ _ _; rw [flatK, ← flatK_congr C Vt (fun i => if i = k then .slice a' (clAt C k).ts.length c' else Vt i) k (fun i hi => by rw [if_neg (by omega)])]; exact hown4); have hsX := (Save.alloc (HS3.out.setCell (p := ⟨wr.heap.size, 2, none⟩) (fun h => absurd h (by show ¬ wr.heap.size < wr.heap.size; omega)) (.slice a' (clAt C k).ts.length c')) (.cells #[.int .i64 (clAt C k).lo, .int .i64 (clAt C k).hi, .slice a' (clAt C k).ts.length c', .bool (clAt C k).was] 96)); have hoX := (HO3.out.save ((Save.setCell (S := fun j => j = wr.heap.size) (Save.refl w3 _) (p := ⟨wr.heap.size, 2, none⟩) (fun _ => rfl) (.slice a' (clAt C k).ts.length c')).alloc (.cells #[.int .i64 (clAt C k).lo, .int .i64 (clAt C k).hi, .slice a' (clAt C k).ts.length c', .bool (clAt C k).was] 96)) (fun p hp e => by have := (HO3.out.lt p hp).1; omega)).low (base' := wr.heap.size) (by omega); obtain ⟨z0, z1, z2⟩ := HD.out.mid hmb9 hsX hgrow4; have HP := hid (HD.out.put hmb9 hsX hoX hgrow4 hat4 HW4.out); clear hown4 hgrow4 hat4 hsX hoX)))
        go_roundw
        case rel => exact ⟨k + 1, some ⟨gb, 0, none⟩, cp, _, by omega, by go_num, HP.out⟩
        case measure => simp [intOf]; omega
      · have hk' : k = f.length := by omega
        subst hk'
        have hxq := HXr.out
        obtain ⟨rl, r0, r1, r2, r3⟩ := hxq.1.on HBr.out
        obtain ⟨q0, q1, q2, q3⟩ := hxq.2.on HBr.out hxq.1.lt
        obtain ⟨_, y0, y1, y2, y3⟩ := HD.out.box
        have hbl := HD.out.box.lt
        go_wp2_with fail
        refine bodyPost_ret (v := .agg #[.slice (some ⟨g, 0, none⟩) f.length gc, .int .i64 cnt, .int .i64 now, .slice va f.length vc]) (by simp [results, Tryz.results104, go_sem, r0, r1, r2, r3, q0, q1, q2, q3]) rfl ?_
        have s4 := gset4 wr (w.heap.size + 1) (.slice (some ⟨g, 0, none⟩) f.length gc) (.int .i64 cnt) (.int .i64 now) (.slice va f.length vc)
        have hown := HD.out.own.save s4 (fun j e => by have := (World.ownsRow.lt HD.out.own j e).1; omega)
        have hts := fun i hi => (HD.out.ts i hi).save s4 (fun j e => by have := ((HD.out.ts i hi).lt j e).1; omega)
        obtain ⟨cb, rfl, hcb, hcl', hck, hfz⟩ := cks_of h0 hown hts HD.out.ap
        have hn9 := HN9.out
        have hnw := HD.out.sv.nodes hn9 hgm9
        have hgr := hn9.1
        have hxl := hxq.1.lt
        exact ⟨g, gc, cb, vc, rfl, by omega, s4.nodes hnw (by omega), by omega, by omega, hcl', (fun i hi => (hck i hi).step (Save.refl _ (fun _ => False)) hcl' (fun h => h) (fun _ _ h => h.elim) (fun j e => by rcases e with e | e; exact Or.inl (Or.inl e); exact Or.inl (Or.inr (by omega)))), hfz, HBw.out.trans (s4.below (B := w.heap.size) HBw.out.size (fun j e => by omega))⟩
  · have HM9 : Hid (MBox ((((w5.setCell ⟨V.heap.size, 0, none⟩ (.slice (some ⟨g, 0, none⟩) f.length gc)).setCell ⟨V.heap.size, 1, none⟩ (.int .i64 cnt)).setCell ⟨V.heap.size, 2, none⟩ (.int .i64 now)).setCell ⟨V.heap.size, 3, none⟩ (.slice none 0 0)) (V.heap.size) (some ⟨g, 0, none⟩) f.length gc cnt now none 0 0) := ⟨by simpa using ml, by simp [go_sem, y0], by simp [go_sem, y1], by simp [go_sem, y2], by simp [go_sem, y3]⟩
    have HF9 : Hid (MFree ((((w5.setCell ⟨V.heap.size, 0, none⟩ (.slice (some ⟨g, 0, none⟩) f.length gc)).setCell ⟨V.heap.size, 1, none⟩ (.int .i64 cnt)).setCell ⟨V.heap.size, 2, none⟩ (.int .i64 now)).setCell ⟨V.heap.size, 3, none⟩ (.slice none 0 0)) (V.heap.size)) := ⟨by simpa using f0, by simpa using f1, by simpa using f2, by simpa using f3⟩
    have HS59 := hid (gset4 w5 (V.heap.size) (.slice (some ⟨g, 0, none⟩) f.length gc) (.int .i64 cnt) (.int .i64 now) (.slice none 0 0))
    clear ml y0 y1 y2 y3 f0 f1 f2 f3 HMB
    generalize ((((w5.setCell ⟨V.heap.size, 0, none⟩ (.slice (some ⟨g, 0, none⟩) f.length gc)).setCell ⟨V.heap.size, 1, none⟩ (.int .i64 cnt)).setCell ⟨V.heap.size, 2, none⟩ (.int .i64 now)).setCell ⟨V.heap.size, 3, none⟩ (.slice none 0 0)) = W9 at *
    have HB9 := hid (HB5.out.trans (HS59.out.below (B := V.heap.size) hz5 (fun j e => by omega)))
    have HN9 := hid (HS59.out.nodes HN5.out hgm9)
    have hmbV : V.heap.size ≤ V.heap.size := by omega
    have hmb9 : V.heap.size < W9.heap.size := HM9.out.lt
    have HD0 : Hid (CpAt W9 W9 (V.heap.size) g f.length gc cnt now none 0 C (fun _ => .slice none 0 0) 0) := ⟨World.ownsRow_nil _ _ _ _, HM9.out, HF9.out, fun i hi => absurd hi (by omega), fun i hi => absurd hi (by omega), Save.refl _ _⟩
    have hV2 := HXm.out.lt
    go_wp2_with fail
    go_loopw [4] (fun t wr => ∃ (k : Nat) (va : Option Addr) (vc : Nat) (Vt : Nat → Value), k ≤ f.length ∧ t = .int .i64 k ∧ CpAt W9 wr (V.heap.size) g f.length gc cnt now va vc C Vt k) (fun t _ => f.length - (intOf t).toNat)
    case atStart => exact ⟨0, none, 0, _, Nat.zero_le _, rfl, HD0.out⟩
    case round =>
      obtain ⟨k, va, vc, Vt, hk, rfl, hD⟩ := hrel
      have HD := hid hD
      have hsz := hD.sv.size
      have HBr : Hid (Below V.heap.size V wr) := HB9.out.trans (hD.sv.below (B := V.heap.size) (by have := HB9.out.size; omega) (fun j e => by omega))
      have HBw : Hid (Below w.heap.size w wr) := HB0.out.trans (HBr.out.mono HB0.out.size)
      obtain ⟨_, m0, m1, m2, m3⟩ := HXm.out.on HBr.out
      have hwr : w.heap.size < wr.heap.size := by have := HBr.out.size; omega
      clear m0 m1 m2 hD
      by_cases hlt : k < f.length
      · rcases HC.out with hz | ⟨wb, o, rfl, hwb, hcs⟩
        · have := HCl.out; omega
        obtain ⟨c0, c1, c3, a, c, c2, hsl, hAr⟩ := (hcs k (by have := HCl.out; omega)).below HBw.out (Nat.le_refl _) hwb
        have HAr := hid hAr
        have hlk := HTl.out k (by have := HCl.out; omega)
        have hwbr : wb < wr.heap.size := by omega
        clear hcs hAr
        go_wp2_with (first | (at_builtin; go_loud (refine wpList_append_I rfl _ _ rfl W9.heap.size (wr.heap.size + 1) rfl ((OwnI.lit0 (wr.alloc (.cells #[.int .i64 (clAt C k).lo, .int .i64 (clAt C k).hi, .slice a (clAt C k).ts.length c, .bool (clAt C k).was] 96)) (wr.heap.size + 1) W9.heap.size (by simp) (by simp; omega))) a (clAt C k).ts.length c (clAt C k).ts rfl rfl hsl (HAr.out.on (bbelow2' wr _ _)) hlk (by simp; omega) ?_; intro v' w3 hO3 hg3 hat3; obtain ⟨a', c', rfl, _, _, hbl3⟩ := hO3.form; have hs3 : Save ((wr.alloc (.cells #[.int .i64 (clAt C k).lo, .int .i64 (clAt C k).hi, .slice a (clAt C k).ts.length c, .bool (clAt C k).was] 96)).alloc (.cells #[] 2)) w3 (fun j => j = wr.heap.size + 1) := (Save.refl _ _).grown hg3 (fun k hk _ => by injection hk with hk; exact hk.symm); have hs3' : Save wr w3 (fun _ => False) := (((Save.refl wr (fun j => j = wr.heap.size + 1)).alloc (.cells #[.int .i64 (clAt C k).lo, .int .i64 (clAt C k).hi, .slice a (clAt C k).ts.length c, .bool (clAt C k).was] 96)).alloc (.cells #[] 2)).trans hs3 |>.mono (fun j hj e => by omega); have HS3 := hid hs3'; have HO3 := hid (OwnI.own_low hO3 (B := wr.heap.size + 1) (by rcases hat3 with e | e <;> (intro p hp; rw [e] at hp; injection hp with hp; (try simp at hp); omega))); have d0 := (hs3.cell (p := ⟨wr.heap.size, 0, none⟩) (by simp; omega) (by show ¬ wr.heap.size = _; omega)); have d1 := (hs3.cell (p := ⟨wr.heap.size, 1, none⟩) (by simp; omega) (by show ¬ wr.heap.size = _; omega)); have d2 := (hs3.cell (p := ⟨wr.heap.size, 2, none⟩) (by simp; omega) (by show ¬ wr.heap.size = _; omega)); have d3 := (hs3.cell (p := ⟨wr.heap.size, 3, none⟩) (by simp; omega) (by show ¬ wr.heap.size = _; omega)); have df := (hs3.frozen (p := ⟨wr.heap.size, 2, none⟩) (by simp; omega) (by show ¬ wr.heap.size = _; omega)); simp [go_sem] at d0 d1 d2 d3 df; have hwz3 : wr.heap.size < w3.heap.size := (by have := hs3.size; simp at this; omega); have p3 := (hs3'.cell (p := ⟨V.heap.size, 3, none⟩) HD.out.box.lt (fun h => h)).trans HD.out.box.m3; have pf := (hs3'.frozen (p := ⟨V.heap.size, 3, none⟩) HD.out.box.lt (fun h => h)).trans HD.out.fr.g3; have hmb3 := Nat.lt_of_lt_of_le HD.out.box.lt hs3'.size; clear hO3 hg3 hat3 hs3 hs3' m3 c0 c1 c2 c3)) | (at_builtin; go_loud (refine wpList_append_own_at _ rfl _ _ 32 rfl W9.heap.size 96 j0 _ 4 48 Tryz.uCks hj0 hy0 hy1 hy2 rfl (by decide) (.slice va k vc) k (flatK C Vt k) rfl ((HD.out.own.save (HS3.out.setCell (p := ⟨wr.heap.size, 2, none⟩) (fun h => absurd h (by show ¬ wr.heap.size < wr.heap.size; omega)) (.slice a' (clAt C k).ts.length c')) (fun _ _ h => h)).save ((Save.refl _ (fun _ => False)).alloc _) (fun _ _ h => h)) ⟨w3.heap.size, 0, none⟩ 1 1 (rowK C (fun i => if i = k then .slice a' (clAt C k).ts.length c' else Vt i) k) (by first | rfl | (simp [Act.eval, Act.put]; done)) rfl (by have := cells_k (w3.setCell ⟨wr.heap.size, 2, none⟩ (.slice a' (clAt C k).ts.length c')) w3.heap.size (by simp) C (fun i => if i = k then .slice a' (clAt C k).ts.length c' else Vt i) k 96; simpa using this) (rowK_one C _ k (by simp [Value.oneCell'])) (by unfold maxLen; omega) (by omega) (by simp; omega) ?_; intro v' w4 hown4 hgrow4 _ hat4; obtain ⟨gb, cp, rfl, _, _⟩ := World.ownsRow.form hown4 (by omega); have HW4 : Hid (OwnK w4 W9.heap.size (.slice (some ⟨gb, 0, none⟩) (k + 1) cp) C (fun i => if i = k then .slice a' (clAt C k).ts.length c' else Vt i) (k + 1)) := (by show w4.ownsRow _ _ _ _ _ _; rw [flatK, ← flatK_congr C Vt (fun i => if i = k then .slice a' (clAt C k).ts.length c' else Vt i) k (fun i hi => by rw [if_neg (by omega)])]; exact hown4); have hsX := (Save.alloc (HS3.out.setCell (p := ⟨wr.heap.size, 2, none⟩) (fun h => absurd h (by show ¬ wr.heap.size < wr.heap.size; omega)) (.slice a' (clAt C k).ts.length c')) (.cells #[.int .i64 (clAt C k).lo, .int .i64 (clAt C k).hi, .slice a' (clAt C k).ts.length c', .bool (clAt C k).was] 96)); have hoX := (HO3.out.save ((Save.setCell (S := fun j => j = wr.heap.size) (Save.refl w3 _) (p := ⟨wr.heap.size, 2, none⟩) (fun _ => rfl) (.slice a' (clAt C k).ts.length c')).alloc (.cells #[.int .i64 (clAt C k).lo, .int .i64 (clAt C k).hi, .slice a' (clAt C k).ts.length c', .bool (clAt C k).was] 96)) (fun p hp e => by have := (HO3.out.lt p hp).1; omega)).low (base' := wr.heap.size) (by omega); obtain ⟨z0, z1, z2⟩ := HD.out.mid hmb9 hsX hgrow4; have HP := hid (HD.out.put hmb9 hsX hoX hgrow4 hat4 HW4.out); clear hown4 hgrow4 hat4 hsX hoX)))
        go_roundw
        case rel => exact ⟨k + 1, some ⟨gb, 0, none⟩, cp, _, by omega, by go_num, HP.out⟩
        case measure => simp [intOf]; omega
      · have hk' : k = f.length := by omega
        subst hk'
        have hxq := HXr.out
        obtain ⟨rl, r0, r1, r2, r3⟩ := hxq.1.on HBr.out
        obtain ⟨q0, q1, q2, q3⟩ := hxq.2.on HBr.out hxq.1.lt
        obtain ⟨_, y0, y1, y2, y3⟩ := HD.out.box
        have hbl := HD.out.box.lt
        go_wp2_with fail
        refine bodyPost_ret (v := .agg #[.slice (some ⟨g, 0, none⟩) f.length gc, .int .i64 cnt, .int .i64 now, .slice va f.length vc]) (by simp [results, Tryz.results104, go_sem, r0, r1, r2, r3, q0, q1, q2, q3]) rfl ?_
        have s4 := gset4 wr (w.heap.size + 1) (.slice (some ⟨g, 0, none⟩) f.length gc) (.int .i64 cnt) (.int .i64 now) (.slice va f.length vc)
        have hown := HD.out.own.save s4 (fun j e => by have := (World.ownsRow.lt HD.out.own j e).1; omega)
        have hts := fun i hi => (HD.out.ts i hi).save s4 (fun j e => by have := ((HD.out.ts i hi).lt j e).1; omega)
        obtain ⟨cb, rfl, hcb, hcl', hck, hfz⟩ := cks_of h0 hown hts HD.out.ap
        have hn9 := HN9.out
        have hnw := HD.out.sv.nodes hn9 hgm9
        have hgr := hn9.1
        have hxl := hxq.1.lt
        exact ⟨g, gc, cb, vc, rfl, by omega, s4.nodes hnw (by omega), by omega, by omega, hcl', (fun i hi => (hck i hi).step (Save.refl _ (fun _ => False)) hcl' (fun h => h) (fun _ _ h => h.elim) (fun j e => by rcases e with e | e; exact Or.inl (Or.inl e); exact Or.inl (Or.inr (by omega)))), hfz, HBw.out.trans (s4.below (B := w.heap.size) HBw.out.size (fun j e => by omega))⟩
end Go.Proofs.YtbfkbgmkibkbnaaGreatDoor
