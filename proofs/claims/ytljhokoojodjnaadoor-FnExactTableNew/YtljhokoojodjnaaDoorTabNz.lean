/-
  The program's copy of a formula that shares nothing: slices.Clone, own, by their contracts.
  Cells of no event: the program's bareCells, by its contract; plain facts on rows of such cells.
  The model's l06New, by its contract.
  MonNew, the model's and the program's, by their contracts.
  The program's formulasCode, by its contract.
  The program's MonNew, by its contract.
  TableNew, the model's and the program's, by their contracts.
  The laws' marks: heldNodeS by its contract.
  Marks over the answers of MonNew: rows of nodes that may be longer, rows of cells without times.
  Marks over the answers of TableNew: tables without rows.
  The walk of the law FnExactTableNew.
-/
import Derived.Test.YtljhokoojodjnaaDoorInN
import Derived.Test.YtljhokoojodjnaaDoorClone
import Derived.Test.YtljhokoojodjnaaDoorCkM
import Derived.Test.YtljhokoojodjnaaDoorMnA
import Derived.Test.YtljhokoojodjnaaDoorTabY
import Derived.Test.YtljhokoojodjnaaDoorMarkN
namespace Go.Proofs.YtljhokoojodjnaaDoor
open Go.RowKit
set_option linter.unusedVariables false
set_option linter.unusedSimpArgs false
theorem Tryd.uFm : Tryd.prog.underlying 66 = some (.slice 63) := by kernel_rfl
theorem eqIn_nil (w : World) (d : Nat) (t e : TypeId) (a : Addr) (l c : Nat) (h : Tryd.prog.underlying t = some (.slice e)) : (Op.equalIn (d + 1) t (.slice (some a) l c) (.slice none 0 0)).run Tryd.prog w = .ok false w := by
  simp [Op.equalIn, run_underlying h]
theorem equal_nil (w : World) (t e : TypeId) (a : Addr) (l c : Nat) (h : Tryd.prog.underlying t = some (.slice e)) : (Op.equal t (.slice (some a) l c) (.slice none 0 0)).run Tryd.prog w = .ok false w := eqIn_nil w 9999 t e a l c h
theorem eql_nil (w : World) (t e : TypeId) (a : Addr) (l c : Nat) (h : Tryd.prog.underlying t = some (.slice e)) : (binOp .eql t (.slice (some a) l c) (.slice none 0 0)).run Tryd.prog w = .ok (.bool false) w := by
  simp [binOp, equal_nil w t e a l c h]
theorem ownsN_none (w : World) (base : Nat) (h : base ≤ w.heap.size) : OwnsN (w.alloc (.cells #[] 63)) base (.slice (some ⟨w.heap.size, 0, none⟩) 0 0) [] :=
  World.ownsRow_made w #[] 0 h (by simp [maxLen]) (by simp)
theorem flatN_cells {W : World} {b : Nat} {f : List Nd} (h : NodesAt W b f) : ∀ j u, (flatN f)[j]? = some u → W.cell? ((⟨b, 0, none⟩ : Addr).add j) = some u := by
  intro j u hu
  have hj : j < f.length * 6 := by rw [← flatN_len]; exact (List.getElem?_eq_some_iff.1 hu).1
  have hi : j / 6 < f.length := by omega
  have e : j = j / 6 * 6 + j % 6 := by omega
  rw [e, flatN_get f (j / 6) (j % 6) hi (by omega)] at hu
  obtain ⟨c0, c1, c2, c3, c4, c5⟩ := h.2 (j / 6) hi
  rw [Addr.add_lit, Nat.zero_add]
  have hc : j % 6 = 0 ∨ j % 6 = 1 ∨ j % 6 = 2 ∨ j % 6 = 3 ∨ j % 6 = 4 ∨ j % 6 = 5 := by omega
  rw [e]
  generalize j / 6 = q at *
  generalize j % 6 = r at *
  rcases hc with rfl | rfl | rfl | rfl | rfl | rfl
  · simp [ndCells] at hu; rw [← hu]; exact c0
  · simp [ndCells] at hu; rw [← hu]; exact c1
  · simp [ndCells] at hu; rw [← hu]; exact c2
  · simp [ndCells] at hu; rw [← hu]; exact c3
  · simp [ndCells] at hu; rw [← hu]; exact c4
  · simp [ndCells] at hu; rw [← hu]; exact c5
theorem flatN_one (f : List Nd) : ∀ u ∈ flatN f, u.oneCell' = true := by
  intro u hu
  obtain ⟨x, _, hx⟩ := List.mem_flatMap.1 hu
  simp only [ndCells, List.mem_cons, List.not_mem_nil, or_false] at hx
  rcases hx with rfl | rfl | rfl | rfl | rfl | rfl <;> rfl
set_option maxRecDepth 20000 in
set_option maxHeartbeats 2000000 in
theorem cloneN_any (f : List Nd) (b cap : Nat) (hl : f.length ≤ 1048576) (w : World) (hN : NodesAt w b f) :
    Calls Tryd.prog 61 #[.slice (some ⟨b, 0, none⟩) f.length cap] w fun e w' => ∃ v, e = .returned v ∧ OwnsN w' w.heap.size v f ∧ Below w.heap.size w w' := by
  obtain ⟨i0, hi0, hz0, hz1, hz2⟩ := info_parts Tryd.infoN
  have HN := hid (hN.below (below_one' w (.cells #[] 63)) hN.1)
  have HB0 := hid (below_one' w (.cells #[] 63))
  have hnil : ∀ W, (binOp .eql 66 (.slice (some ⟨b, 0, none⟩) f.length cap) (.slice none 0 0)).run Tryd.prog W = .ok (.bool false) W := fun W => eql_nil W 66 _ ⟨b, 0, none⟩ _ _ Tryd.uFm
  clear hN
  go_enter Tryd.func61, Tryd.ntmps61
  go_wp2_with (at_builtin; go_loud (refine wpList_append_own_at _ rfl _ _ 66 rfl w.heap.size 63 i0 _ 6 56 Tryd.uFm hi0 hz0 hz1 hz2 rfl (by decide) _ 0 [] rfl (ownsN_none w w.heap.size (Nat.le_refl _)) ⟨b, 0, none⟩ f.length cap (flatN f) rfl (flatN_len f) (flatN_cells HN.out) (flatN_one f) (by unfold maxLen; omega) (by omega) (by simp) ?_; intro v5 w5 hown5 hgrow5 _ hat5; have HO5 : Hid (OwnsN w5 w.heap.size v5 f) := (by show w5.ownsRow _ _ _ _ _ _; simpa using hown5); have hs5 : Save w w5 (fun _ => False) := ((Save.refl w (fun _ => False)).alloc _).grown hgrow5 (fun k hk h => by simp [Value.ownBlock, Act.eval, Act.put] at hk; omega); have HB5 := hid (hs5.below (B := w.heap.size) (Nat.le_refl _) (fun j h => h.elim)); clear hown5 hgrow5 hat5 hs5))
  go_ret
  exact ⟨v5, rfl, HO5.out, HB5.out⟩
/-- A row of nodes that a call owns, as a row that may be longer. -/
theorem OwnsN.row {w : World} {base : Nat} {v : Value} {f : List Nd} (h : OwnsN w base v f) (h0 : 0 < f.length) : ∃ g c m z, v = .slice (some ⟨g, 0, none⟩) f.length c ∧ SlV (some ⟨g, 0, none⟩) f.length c ∧ base ≤ g ∧ f.length * 6 ≤ m ∧ w.rowIs g 63 m z ∧ (∀ i, i < f.length → z (i * 6 + 5) = .string (ndAt f i).nm) ∧ ∀ w' : World, w'.rowIs g 63 m z → NodesAt w' g f := by
  have hO := h
  rcases h.2 with ⟨_, h1⟩ | ⟨g, cap, cur, rfl, hb, hg, h1, h2, h3, h4⟩
  · omega
  · have hrow : w.rowIs g 63 cur.size (fun j => cur.getD j undef) := ⟨cur, hg, rfl, fun i hi => by simp [hi]⟩
    have hat := hO.at
    have key : ∀ i j v, i < f.length → j < 6 → w.cell? ⟨g, i * 6 + j, none⟩ = some v → cur.getD (i * 6 + j) undef = v := by
      intro i j v hi hj hc
      have h5 := hrow.cell (i := i * 6 + j) (by omega)
      rw [hc] at h5
      exact (Option.some.inj h5).symm
    refine ⟨g, cap, cur.size, _, rfl, Or.inr ⟨g, 0, rfl, h1, h2⟩, hb, by omega, hrow, fun i hi => key i 5 _ hi (by omega) (hat.2 i hi).c5, fun w' hr => ⟨hr.lt, fun i hi => ?_⟩⟩
    obtain ⟨c0, c1, c2, c3, c4, c5⟩ := hat.2 i hi
    have cell : ∀ j v, j < 6 → w.cell? ⟨g, i * 6 + j, none⟩ = some v → w'.cell? ⟨g, i * 6 + j, none⟩ = some v := fun j v hj hc => by
      rw [hr.cell (i := i * 6 + j) (by omega), key i j v hi hj hc]
    exact ⟨cell 0 _ (by omega) c0, cell 1 _ (by omega) c1, cell 2 _ (by omega) c2, cell 3 _ (by omega) c3, cell 4 _ (by omega) c4, cell 5 _ (by omega) c5⟩
set_option maxRecDepth 20000 in
set_option maxHeartbeats 4000000 in
theorem own_nodes (f : List Nd) (b cap : Nat) (h0 : 0 < f.length) (hl : f.length ≤ 1048576) (hnm : ∀ i, i < f.length → (ndAt f i).nm.size ≤ 10000) (w : World) (hN : NodesAt w b f) :
    Calls Tryd.prog 37 #[.slice (some ⟨b, 0, none⟩) f.length cap] w fun e w' => ∃ g c m z, e = .returned (.slice (some ⟨g, 0, none⟩) f.length c) ∧ SlV (some ⟨g, 0, none⟩) f.length c ∧ w.heap.size ≤ g ∧ f.length * 6 ≤ m ∧ w'.rowIs g 63 m z ∧ NodesAt w' g f ∧ Below w.heap.size w w' := by
  have HN := hid hN
  have HNm := hid hnm
  have HC := hid (cloneN_any f b cap hl w hN)
  have hbw := hN.1
  clear hN hnm
  go_enter Tryd.func37, Tryd.ntmps37
  go_wp2_with (go_at_call 61; refine HC.out.mono ?_; rintro e w1 ⟨v1, rfl, hO1, hb1⟩; obtain ⟨g, c, m, z, rfl, hsl, hg, hm, hr1, hz5, hall⟩ := hO1.row h0; have HSL := hid hsl; have HR1 := hid hr1; have HZ5 := hid hz5; have HAll := hid hall; have HB1 := hid hb1; clear hO1 hb1 hsl hr1 hz5 hall)
  go_loopw [10] (fun t wr => ∃ k : Nat, k ≤ f.length ∧ t = .int .i64 k ∧ wr.rowIs g 63 m z ∧ Below w.heap.size w wr) (fun t _ => f.length - (intOf t).toNat)
  case atStart => exact ⟨0, Nat.zero_le _, rfl, HR1.out, HB1.out⟩
  case round =>
    obtain ⟨k, hk, rfl, hrow, hbel⟩ := hrel
    have HRow := hid hrow
    have HB := hid hbel
    have hgr := hrow.lt
    clear hrow hbel
    by_cases hlt : k < f.length
    · obtain ⟨n0, n1, n2, n3, n4, n5⟩ := (HN.out.2 k hlt).below HB.out hbw
      have hbr : b < wr.heap.size := by have := HB.out.size; omega
      have hn10 := HNm.out k hlt
      have HZk := hid (HZ5.out k hlt)
      have HBa := hid (below_one' wr (.cells #[.int .i64 (ndAt f k).k, .int .i64 (ndAt f k).a, .int .i64 (ndAt f k).b, .int .i64 (ndAt f k).lo, .int .i64 (ndAt f k).hi, .string (ndAt f k).nm] 63))
      have HCl := hid (fun w => clone_any (ndAt f k).nm hn10 w)
      generalize ndAt f k = x at *
      go_wp2_with (go_at_call 62; refine (HCl.out _).mono ?_; rintro e w2 ⟨rfl, hb2⟩; have HB2 := hid (HB.out.trans ((HBa.out.trans (hb2.mono HBa.out.size)).mono HB.out.size)); have HR2 := hid ((World.rowIs.alloc HRow.out _).of_block (hb2.block g (by simp; omega))); have d5 := HR2.out.cell (i := k * 6 + 5) (by omega); have f5 := HR2.out.frozen (k * 6 + 5); clear hb2)
      go_roundw
      case rel =>
        refine ⟨k + 1, by omega, by go_num, (HR2.out.set (k * 6 + 5) _).congr (fun j hj => ?_), HB2.out.setCell hg _⟩
        by_cases e : j = k * 6 + 5
        · subst e; simp [HZk.out]
        · simp [e]
      case measure => simp [intOf]; omega
    · have hk' : k = f.length := by omega
      subst hk'
      go_wp2_with fail
      go_ret
      exact ⟨g, c, m, z, rfl, HSL.out, hg, hm, HRow.out, HAll.out _ HRow.out, HB.out⟩
end Go.Proofs.YtljhokoojodjnaaDoor
namespace Go.Proofs.YtljhokoojodjnaaDoor
open Go.RowKit
set_option linter.unusedVariables false
set_option linter.unusedSimpArgs false
/-- The cells of a formula of which no event is known. -/
def bareC (f : List Nd) : List Cl := f.map fun x => ⟨bareLo x, bareHi x, [], false⟩
theorem bareC_len (f : List Nd) : (bareC f).length = f.length := by simp [bareC]
theorem bareC_at (f : List Nd) (i : Nat) (h : i < f.length) : clAt (bareC f) i = ⟨bareLo (ndAt f i), bareHi (ndAt f i), [], false⟩ := by
  simp [bareC, clAt, ndAt, List.getD, h]
def noTs (i : Nat) : Value := .slice none 0 0
/-- A row of cells none of which has times. -/
def BareRow (w : World) (g : Nat) (f : List Nd) (m : Nat) (z : Nat → Value) (k : Nat) : Prop := w.rowIs g 102 m (rowC (bareC f) noTs z k)
theorem BareRow.cks {w : World} {g : Nat} {f : List Nd} {m : Nat} {z : Nat → Value} (h : BareRow w g f m z f.length) (hm : f.length * 4 ≤ m) : CksAt w (some ⟨g, 0, none⟩) (bareC f) := by
  refine Or.inr ⟨g, 0, rfl, World.rowIs.lt h, fun i hi => ?_⟩
  rw [bareC_len] at hi
  have hr : w.rowIs g 102 m (rowC (bareC f) noTs z f.length) := h
  refine ⟨?_, ?_, ?_, none, 0, ?_, ?_, ?_⟩
  · rw [show 0 + i * 4 = i * 4 by omega, hr.cell (by omega)]
    unfold rowC
    rw [if_pos (by omega), if_pos (by omega), show i * 4 / 4 = i by omega]
  · rw [show 0 + i * 4 + 1 = i * 4 + 1 by omega, hr.cell (by omega)]
    unfold rowC
    rw [if_pos (by omega), if_neg (by omega), if_pos (by omega), show (i * 4 + 1) / 4 = i by omega]
  · rw [show 0 + i * 4 + 3 = i * 4 + 3 by omega, hr.cell (by omega)]
    unfold rowC
    rw [if_pos (by omega), if_neg (by omega), if_neg (by omega), if_neg (by omega), show (i * 4 + 3) / 4 = i by omega]
  · rw [show 0 + i * 4 + 2 = i * 4 + 2 by omega, hr.cell (by omega)]
    unfold rowC
    rw [if_pos (by omega), if_neg (by omega), if_neg (by omega), if_pos (by omega), bareC_at f i hi]
    rfl
  · rw [bareC_at f i hi]
    exact slV_nil
  · rw [bareC_at f i hi]
    exact Or.inl rfl
def zCk : Array Value := #[.int .i64 0, .int .i64 0, .slice none 0 0, .bool false]
def zC (j : Nat) : Value := zCk[j % 4]!
theorem run_makeCk (n : Nat) (hn : n ≤ 1048576) (w : World) : Sem.run Tryd.prog (Instr.makeSlice 49 (.int .i64 n) (.int .i64 n)) w = .ok (.slice (some ⟨w.heap.size, 0, none⟩) n n) (w.alloc (.cells (madeCells zCk (n * 4)) 102)) := by
  obtain ⟨i0, hi, hz0, hz1, hz2⟩ := info_parts Tryd.infoCk
  have h := run_make (P := Tryd.prog) w 49 102 i0 _ Tryd.uCks hi hz0 .i64 .i64 n n (by omega) (Int.le_refl _) (by rw [hz2]; omega) (by omega)
  rw [hz1] at h
  have e : (Value.agg #[.int .i64 0, .int .i64 0, .slice none 0 0, .bool false]).cells = zCk := rfl
  rw [e] at h
  simpa using h
theorem bare_start (w : World) (f : List Nd) : BareRow (w.alloc (.cells (madeCells zCk (f.length * 4)) 102)) w.heap.size f (f.length * 4) zC 0 := by
  have := World.rowIs_alloc w (madeCells zCk (f.length * 4)) 102 (rowC (bareC f) noTs zC 0) (fun i hi => by
    rw [size_madeCells] at hi
    simp only [rowC, Nat.zero_mul, Nat.not_lt_zero, if_false]
    simp [madeCells, hi, zC, zCk])
  rwa [size_madeCells] at this
theorem zC_was (k : Nat) : zC (k * 4 + 3) = .bool false := by
  have h : (k * 4 + 3) % 4 = 3 := by omega
  unfold zC
  rw [h]
  rfl
theorem bare_step (f : List Nd) (k j : Nat) (hk : k < f.length) : rowC (bareC f) noTs zC (k + 1) j = if j = k * 4 + 2 then .slice none 0 0 else if j = k * 4 + 1 then .int .i64 (bareHi (ndAt f k)) else if j = k * 4 then .int .i64 (bareLo (ndAt f k)) else rowC (bareC f) noTs zC k j := by
  have h := rowC_step (bareC f) noTs zC k j (.slice none 0 0)
  have e : (fun i => if i = k then Value.slice none 0 0 else noTs i) = noTs := by
    funext i
    unfold noTs
    split <;> rfl
  rw [e, bareC_at f k hk] at h
  rw [h]
  by_cases h3 : j = k * 4 + 3
  · subst h3
    rw [if_pos rfl, if_neg (by omega), if_neg (by omega), if_neg (by omega)]
    unfold rowC
    rw [if_neg (by omega), zC_was]
  · rw [if_neg h3]
end Go.Proofs.YtljhokoojodjnaaDoor
namespace Go.Proofs.YtljhokoojodjnaaDoor
open Go.RowKit
set_option linter.unusedVariables false
set_option linter.unusedSimpArgs false
def bareV (x : Nd) : List Value := [.int .i64 (bareLo x), .int .i64 (bareHi x), .slice none 0 0, .bool false]
def flatB (f : List Nd) : Nat → List Value
  | 0 => []
  | k + 1 => flatB f k ++ bareV (ndAt f k)
theorem flatB_len (f : List Nd) : ∀ k, (flatB f k).length = k * 4 := by
  intro k
  induction k with
  | zero => rfl
  | succ k ih => simp [flatB, bareV, ih]; omega
theorem flatB_get (f : List Nd) : ∀ k i j, i < k → j < 4 → (flatB f k)[i * 4 + j]? = (bareV (ndAt f i))[j]? := by
  intro k
  induction k with
  | zero => intro i j h; omega
  | succ k ih =>
    intro i j hi hj
    have hl := flatB_len f k
    unfold flatB
    by_cases h : i < k
    · rw [List.getElem?_append_left (by omega)]
      exact ih i j h hj
    · have : i = k := by omega
      subst this
      rw [List.getElem?_append_right (by omega), hl]
      congr 1
      omega
theorem bareV_one (x : Nd) : ∀ u ∈ bareV x, u.oneCell' = true := by simp [bareV, Value.oneCell']
/-- A row of bare cells that a call owns. -/
def OwnB (w : World) (base : Nat) (v : Value) (f : List Nd) (k : Nat) : Prop := w.ownsRow base 102 4 v k (flatB f k)
theorem OwnB.save {w w' : World} {base : Nat} {v : Value} {f : List Nd} {k : Nat} {S : Nat → Prop} (h : OwnB w base v f k) (hs : Save w w' S) (hS : ∀ j, v.ownBlock = some j → ¬ S j) : OwnB w' base v f k := by
  refine ⟨h.1, ?_⟩
  rcases h.2 with hn | ⟨b, cap, cur, rfl, hb, hg, rest⟩
  · exact .inl hn
  · refine .inr ⟨b, cap, cur, rfl, hb, ?_, rest⟩
    rw [hs.block b (Array.getElem?_eq_some_iff.1 hg).1 (hS b rfl)]
    exact hg
theorem OwnB.lt {w : World} {base : Nat} {v : Value} {f : List Nd} {k : Nat} (h : OwnB w base v f k) : ∀ j, v.ownBlock = some j → base ≤ j ∧ j < w.heap.size := World.ownsRow.lt h
theorem OwnB.cks {w : World} {base : Nat} {v : Value} {f : List Nd} (h : OwnB w base v f f.length) : ∃ va vc, v = .slice va f.length vc ∧ CksAt w va (bareC f) ∧ ∀ q, va = some q → base ≤ q.block ∧ q.block < w.heap.size := by
  rcases h.2 with ⟨hv, h0⟩ | ⟨g, cap, cur, hv, hb, hg, h1, h2, h3, h4⟩
  · exact ⟨none, 0, by rw [hv, h0], Or.inl (by rw [bareC_len, h0]), fun q e => by cases e⟩
  · have hlt := (Array.getElem?_eq_some_iff.1 hg).1
    refine ⟨some ⟨g, 0, none⟩, cap, hv, Or.inr ⟨g, 0, rfl, hlt, fun i hi => ?_⟩, fun q e => by injection e with e; subst e; exact ⟨hb, hlt⟩⟩
    rw [bareC_len] at hi
    have key : ∀ j u, j < 4 → (bareV (ndAt f i))[j]? = some u → w.cell? ⟨g, 0 + i * 4 + j, none⟩ = some u := by
      intro j u hj hu
      have h5 := World.ownsRow.cells h (g := g) (by rw [hv]; rfl) (i * 4 + j) u (by rw [flatB_get f _ i j hi hj]; exact hu)
      rw [Addr.add_lit] at h5
      rw [← h5]
      congr 2
      omega
    rw [bareC_at f i hi]
    exact ⟨key 0 _ (by omega) rfl, key 1 _ (by omega) rfl, key 3 _ (by omega) rfl, none, 0, key 2 _ (by omega) rfl, slV_nil, Or.inl rfl⟩
/-- What stands in a round of l06New. -/
structure NewAt (W w : World) (q : Nat) (fa : Option Addr) (fn fc : Nat) (va : Option Addr) (vc : Nat) (f : List Nd) (k : Nat) : Prop where
  own : OwnB w (q + 1) (.slice va k vc) f k
  box : MBox w q fa fn fc 0 0 va k vc
  fr : MFree w q
  sv : Save W w (fun j => j = q)
theorem NewAt.mid {W V V' w3 : World} {q : Nat} {fa : Option Addr} {fn fc : Nat} {va : Option Addr} {vc : Nat} {f : List Nd} {k : Nat} (h : NewAt W V q fa fn fc va vc f k) (h1 : Save V V' (fun _ => False)) (hg : V'.grownBy w3 (Value.slice va k vc).ownBlock) :
    w3.cell? ⟨q, 3, none⟩ = some (.slice va k vc) ∧ w3.frozen? ⟨q, 3, none⟩ = false := by
  have hs : Save V w3 (fun j => (Value.slice va k vc).ownBlock = some j) := (h1.mono (T := fun j => (Value.slice va k vc).ownBlock = some j) (fun _ _ f => f.elim)).grown hg (fun k e _ => e)
  have hn : ¬ (Value.slice va k vc).ownBlock = some q := fun e => by have := (h.own.lt _ e).1; omega
  exact ⟨(hs.cell (p := ⟨q, 3, none⟩) h.box.lt hn).trans h.box.m3, (hs.frozen (p := ⟨q, 3, none⟩) h.box.lt hn).trans h.fr.g3⟩
theorem NewAt.put {W V V' w3 : World} {q : Nat} {fa : Option Addr} {fn fc : Nat} {va : Option Addr} {vc : Nat} {f : List Nd} {k : Nat} {gb cp : Nat} (h : NewAt W V q fa fn fc va vc f k) (hW : W.heap.size = q + 1) (h1 : Save V V' (fun _ => False)) (hg : V'.grownBy w3 (Value.slice va k vc).ownBlock) (ho : OwnB w3 (q + 1) (.slice (some ⟨gb, 0, none⟩) (k + 1) cp) f (k + 1)) :
    NewAt W (w3.setCell ⟨q, 3, none⟩ (.slice (some ⟨gb, 0, none⟩) (k + 1) cp)) q fa fn fc (some ⟨gb, 0, none⟩) cp f (k + 1) := by
  have hs : Save V w3 (fun j => (Value.slice va k vc).ownBlock = some j) := (h1.mono (T := fun j => (Value.slice va k vc).ownBlock = some j) (fun _ _ f => f.elim)).grown hg (fun k e _ => e)
  have hn : ¬ (Value.slice va k vc).ownBlock = some q := fun e => by have := (h.own.lt _ e).1; omega
  have hb3 : q < w3.heap.size := Nat.lt_of_lt_of_le h.box.lt hs.size
  have c3 := (hs.cell (p := ⟨q, 3, none⟩) h.box.lt hn).trans h.box.m3
  have hset := gset1 w3 q 3 (.slice (some ⟨gb, 0, none⟩) (k + 1) cp)
  refine ⟨ho.save hset (fun j e => by have := (ho.lt j e).1; omega), ⟨Nat.lt_of_lt_of_le hb3 hset.size, ?_, ?_, ?_, ?_⟩, (h.fr.save hs h.box.lt hn).set _ _, ?_⟩
  · rw [World.cell?_setCell_other _ _ _ _ (by simp)]; exact (hs.cell (p := ⟨q, 0, none⟩) h.box.lt hn).trans h.box.m0
  · rw [World.cell?_setCell_other _ _ _ _ (by simp)]; exact (hs.cell (p := ⟨q, 1, none⟩) h.box.lt hn).trans h.box.m1
  · rw [World.cell?_setCell_other _ _ _ _ (by simp)]; exact (hs.cell (p := ⟨q, 2, none⟩) h.box.lt hn).trans h.box.m2
  · simp [go_sem, c3]
  · refine Save.setCell (S := fun j => j = q) ?_ (p := ⟨q, 3, none⟩) (fun _ => rfl) _
    refine ⟨hs.os.trans h.sv.os, hs.tape.trans h.sv.tape, hs.output.trans h.sv.output, Nat.le_trans h.sv.size hs.size, fun j hj hq => ?_⟩
    exact (hs.block j (Nat.lt_of_lt_of_le hj h.sv.size) (fun e => by have := (h.own.lt _ e).1; omega)).trans (h.sv.block j hj hq)
theorem cells_ck (X : World) (n : Nat) (hn : n = X.heap.size) (x : Nd) : ∀ j u, (bareV x)[j]? = some u → (X.alloc (.cells #[.int .i64 (bareLo x), .int .i64 (bareHi x), .slice none 0 0, .bool false] 102)).cell? ((⟨n, 0, none⟩ : Addr).add j) = some u := by
  subst hn
  intro j u hu
  have hj : j < 4 := by have := (List.getElem?_eq_some_iff.1 hu).1; simpa [bareV] using this
  rw [Addr.add_lit, Nat.zero_add]
  have hc : j = 0 ∨ j = 1 ∨ j = 2 ∨ j = 3 := by omega
  rcases hc with rfl | rfl | rfl | rfl <;> (simp [bareV] at hu; subst hu; simp [go_sem])
theorem NewAt.start {w1 : World} (fa : Option Addr) (fn fc : Nat) (f : List Nd) : NewAt (w1.alloc (.cells #[.slice fa fn fc, .int .i64 0, .int .i64 0, .slice none 0 0] 51)) (w1.alloc (.cells #[.slice fa fn fc, .int .i64 0, .int .i64 0, .slice none 0 0] 51)) w1.heap.size fa fn fc none 0 f 0 :=
  ⟨World.ownsRow_nil _ _ _ _, MBox.new _ _ _ _ _ _ _ _ _ _, MFree.new _ _ _ _ _ _, Save.refl _ _⟩
theorem NewAt.ext {W w V : World} {q : Nat} {fa : Option Addr} {fn fc : Nat} {va : Option Addr} {vc : Nat} {f : List Nd} {k : Nat} (h : NewAt W w q fa fn fc va vc f k) (hs : Save w V (fun _ => False)) : NewAt W V q fa fn fc va vc f k :=
  ⟨h.own.save hs (fun _ _ h => h), h.box.save hs (fun h => h), h.fr.save hs h.box.lt (fun h => h), ⟨hs.os.trans h.sv.os, hs.tape.trans h.sv.tape, hs.output.trans h.sv.output, Nat.le_trans h.sv.size hs.size, fun j hj hq => (hs.block j (Nat.lt_of_lt_of_le hj h.sv.size) (fun h => h)).trans (h.sv.block j hj hq)⟩⟩
theorem ckNew' (w : World) (lo hi : Int) : (w.alloc (.cells #[.int .i64 lo, .int .i64 hi, .slice none 0 0, .bool false] 102)).cell? ⟨w.heap.size, 0, none⟩ = some (.int .i64 lo) ∧ (w.alloc (.cells #[.int .i64 lo, .int .i64 hi, .slice none 0 0, .bool false] 102)).cell? ⟨w.heap.size, 1, none⟩ = some (.int .i64 hi) ∧ (w.alloc (.cells #[.int .i64 lo, .int .i64 hi, .slice none 0 0, .bool false] 102)).cell? ⟨w.heap.size, 2, none⟩ = some (.slice none 0 0) ∧ (w.alloc (.cells #[.int .i64 lo, .int .i64 hi, .slice none 0 0, .bool false] 102)).cell? ⟨w.heap.size, 3, none⟩ = some (.bool false) ∧ w.heap.size < (w.alloc (.cells #[.int .i64 lo, .int .i64 hi, .slice none 0 0, .bool false] 102)).heap.size :=
  ⟨by simp [go_sem], by simp [go_sem], by simp [go_sem], by simp [go_sem], by simp⟩
theorem ckNew (w : World) (lo hi : Int) : (w.alloc (.cells #[.int .i64 lo, .int .i64 hi, .slice none 0 0, .bool false] 102)).drew.cell? ⟨w.heap.size, 0, none⟩ = some (.int .i64 lo) ∧ (w.alloc (.cells #[.int .i64 lo, .int .i64 hi, .slice none 0 0, .bool false] 102)).drew.cell? ⟨w.heap.size, 1, none⟩ = some (.int .i64 hi) ∧ (w.alloc (.cells #[.int .i64 lo, .int .i64 hi, .slice none 0 0, .bool false] 102)).drew.cell? ⟨w.heap.size, 2, none⟩ = some (.slice none 0 0) ∧ (w.alloc (.cells #[.int .i64 lo, .int .i64 hi, .slice none 0 0, .bool false] 102)).drew.cell? ⟨w.heap.size, 3, none⟩ = some (.bool false) ∧ w.heap.size < (w.alloc (.cells #[.int .i64 lo, .int .i64 hi, .slice none 0 0, .bool false] 102)).drew.heap.size :=
  ⟨by simp [go_sem], by simp [go_sem], by simp [go_sem], by simp [go_sem], by simp⟩
theorem ownsN_none' (w : World) (q : Nat) (hq : w.heap.size = q) (base : Nat) (h : base ≤ w.heap.size) : OwnsN (w.alloc (.cells #[] 63)) base (.slice (some ⟨q, 0, none⟩) 0 0) [] := by
  subst hq
  exact ownsN_none w base h
theorem gset4b (w : World) (q : Nat) (x y z u : Value) : Save w ((((w.setCell ⟨q, 0, none⟩ x).setCell ⟨q, 1, none⟩ y).setCell ⟨q, 2, none⟩ z).setCell ⟨q, 3, none⟩ u) (fun j => j = q) := gset4 w q x y z u
end Go.Proofs.YtljhokoojodjnaaDoor
namespace Go.Proofs.YtljhokoojodjnaaDoor
open Go.RowKit
set_option linter.unusedVariables false
set_option linter.unusedSimpArgs false
theorem rightB_all' (f : List Nd) (h : rightB f = true) : 1 ≤ f.length ∧ f.length ≤ 24 ∧ goodTo f f.length = true := by
  simp only [rightB, Bool.and_eq_true, decide_eq_true_eq] at h
  exact ⟨h.1.1, h.1.2, h.2.1⟩
/-- What a MonOut is handed round as. -/
def outV (fa : Option Addr) (fn fc : Nat) (cnt now : Int) (ca : Option Addr) (cn cc : Nat) (yes : Bool) (aa : Option Addr) (an ac : Nat) (code : Int) : Value := .agg #[.slice fa fn fc, .int .i64 cnt, .int .i64 now, .slice ca cn cc, .bool yes, .slice aa an ac, .int .i64 code]
def newCode (f : List Nd) : Int := if 400 < f.length then 2 else if rightB f then 0 else 1
/-- The formula of what MonNew tells. -/
def newF (f : List Nd) : List Nd := if newCode f = 0 then f else []
theorem newF_no {f : List Nd} {c : Int} (h : newCode f = c) (hc : c ≠ 0) : newF f = [] := by unfold newF; rw [h, if_neg hc]
theorem newF_yes {f : List Nd} (h : newCode f = 0) : newF f = f := by unfold newF; rw [if_pos h]
theorem newCode_size {f : List Nd} (h : 400 < f.length) : newCode f = 2 := by unfold newCode; rw [if_pos h]
theorem newCode_form {f : List Nd} (h : ¬ 400 < f.length) (hr : rightB f = false) : newCode f = 1 := by unfold newCode; rw [if_neg h, hr]; rfl
theorem newCode_ok {f : List Nd} (h : ¬ 400 < f.length) (hr : rightB f = true) : newCode f = 0 := by unfold newCode; rw [if_neg h, hr]; rfl
/-- A row of nodes, of which nothing is asked where it is empty. -/
def NsA (w : World) (a : Option Addr) (F : List Nd) : Prop := F.length = 0 ∨ ∃ b, a = some ⟨b, 0, none⟩ ∧ NodesAt w b F
/-- A row of nodes to be written to; it may be longer. -/
def RowA (w : World) (a : Option Addr) (n : Nat) : Prop := n = 0 ∨ ∃ b m z, a = some ⟨b, 0, none⟩ ∧ n * 6 ≤ m ∧ w.rowIs b 63 m z
def RowB (w : World) (a : Option Addr) (F : List Nd) : Prop := F.length = 0 ∨ ∃ b, a = some ⟨b, 0, none⟩ ∧ BareRow w b F (F.length * 4) zC F.length
theorem RowB.cks {w : World} {a : Option Addr} {F : List Nd} (h : RowB w a F) : CksAt w a (bareC F) := by
  rcases h with h | ⟨b, rfl, h⟩
  · exact Or.inl (by rw [bareC_len, h])
  · exact h.cks (Nat.le_refl _)
/-- The box of a MonOut. -/
structure OBox (W : World) (q : Nat) (fa : Option Addr) (fn fc : Nat) (cnt now : Int) (ca : Option Addr) (cn cc : Nat) (yes : Bool) (aa : Option Addr) (an ac : Nat) (code : Int) : Prop where
  lt : q < W.heap.size
  o0 : W.cell? ⟨q, 0, none⟩ = some (.slice fa fn fc)
  o1 : W.cell? ⟨q, 1, none⟩ = some (.int .i64 cnt)
  o2 : W.cell? ⟨q, 2, none⟩ = some (.int .i64 now)
  o3 : W.cell? ⟨q, 3, none⟩ = some (.slice ca cn cc)
  o4 : W.cell? ⟨q, 4, none⟩ = some (.bool yes)
  o5 : W.cell? ⟨q, 5, none⟩ = some (.slice aa an ac)
  o6 : W.cell? ⟨q, 6, none⟩ = some (.int .i64 code)
theorem OBox.save {W W' : World} {q : Nat} {fa : Option Addr} {fn fc : Nat} {cnt now : Int} {ca : Option Addr} {cn cc : Nat} {yes : Bool} {aa : Option Addr} {an ac : Nat} {code : Int} {S : Nat → Prop} (h : OBox W q fa fn fc cnt now ca cn cc yes aa an ac code) (hs : Save W W' S) (h1 : ¬ S q) : OBox W' q fa fn fc cnt now ca cn cc yes aa an ac code :=
  ⟨Nat.lt_of_lt_of_le h.lt hs.size, (hs.cell (p := ⟨q, _, none⟩) h.lt h1).trans h.o0, (hs.cell (p := ⟨q, _, none⟩) h.lt h1).trans h.o1, (hs.cell (p := ⟨q, _, none⟩) h.lt h1).trans h.o2, (hs.cell (p := ⟨q, _, none⟩) h.lt h1).trans h.o3, (hs.cell (p := ⟨q, _, none⟩) h.lt h1).trans h.o4, (hs.cell (p := ⟨q, _, none⟩) h.lt h1).trans h.o5, (hs.cell (p := ⟨q, _, none⟩) h.lt h1).trans h.o6⟩
theorem OBox.on {W W' : World} {q : Nat} {fa : Option Addr} {fn fc : Nat} {cnt now : Int} {ca : Option Addr} {cn cc : Nat} {yes : Bool} {aa : Option Addr} {an ac : Nat} {code : Int} (h : OBox W q fa fn fc cnt now ca cn cc yes aa an ac code) (hb : Below W.heap.size W W') : OBox W' q fa fn fc cnt now ca cn cc yes aa an ac code :=
  h.save (S := fun _ => False) (Save.of_below hb _ (fun j h1 h2 => absurd h1 (by omega))) (fun h => h)
structure OFree (W : World) (q : Nat) : Prop where
  g0 : W.frozen? ⟨q, 0, none⟩ = false
  g1 : W.frozen? ⟨q, 1, none⟩ = false
  g2 : W.frozen? ⟨q, 2, none⟩ = false
  g3 : W.frozen? ⟨q, 3, none⟩ = false
  g4 : W.frozen? ⟨q, 4, none⟩ = false
  g5 : W.frozen? ⟨q, 5, none⟩ = false
  g6 : W.frozen? ⟨q, 6, none⟩ = false
theorem OFree.on {W W' : World} {q : Nat} (h : OFree W q) (hb : Below W.heap.size W W') (hq : q < W.heap.size) : OFree W' q :=
  ⟨(hb.frozen (p := ⟨q, _, none⟩) hq).trans h.g0, (hb.frozen (p := ⟨q, _, none⟩) hq).trans h.g1, (hb.frozen (p := ⟨q, _, none⟩) hq).trans h.g2, (hb.frozen (p := ⟨q, _, none⟩) hq).trans h.g3, (hb.frozen (p := ⟨q, _, none⟩) hq).trans h.g4, (hb.frozen (p := ⟨q, _, none⟩) hq).trans h.g5, (hb.frozen (p := ⟨q, _, none⟩) hq).trans h.g6⟩
theorem set7 (w : World) (q : Nat) (x0 x1 x2 x3 x4 x5 x6 : Value) : Save w (((((((w.setCell ⟨q, 0, none⟩ x0).setCell ⟨q, 1, none⟩ x1).setCell ⟨q, 2, none⟩ x2).setCell ⟨q, 3, none⟩ x3).setCell ⟨q, 4, none⟩ x4).setCell ⟨q, 5, none⟩ x5).setCell ⟨q, 6, none⟩ x6) (fun j => j = q) :=
  Save.setCell (S := fun j => j = q) (Save.setCell (S := fun j => j = q) (Save.setCell (S := fun j => j = q) (gset4 w q x0 x1 x2 x3) (p := ⟨q, 4, none⟩) (fun _ => rfl) _) (p := ⟨q, 5, none⟩) (fun _ => rfl) _) (p := ⟨q, 6, none⟩) (fun _ => rfl) _
theorem CksAt.bare_save {w w' : World} {a : Option Addr} {F : List Nd} {S : Nat → Prop} (h : CksAt w a (bareC F)) (hs : Save w w' S) (h1 : ∀ q, a = some q → ¬ S q.block) : CksAt w' a (bareC F) := by
  rcases h with h | ⟨b, off, rfl, hlt, hc⟩
  · exact Or.inl h
  · refine Or.inr ⟨b, off, rfl, Nat.lt_of_lt_of_le hlt hs.size, fun i hi => ?_⟩
    obtain ⟨d0, d1, d3, a', c', d2, d4, d5⟩ := hc i hi
    have hn : ¬ S b := h1 ⟨b, off, none⟩ rfl
    refine ⟨(hs.cell (p := ⟨b, _, none⟩) hlt hn).trans d0, (hs.cell (p := ⟨b, _, none⟩) hlt hn).trans d1, (hs.cell (p := ⟨b, _, none⟩) hlt hn).trans d3, a', c', (hs.cell (p := ⟨b, _, none⟩) hlt hn).trans d2, d4, Or.inl ?_⟩
    rw [bareC_len] at hi
    rw [bareC_at F i hi]
    rfl
end Go.Proofs.YtljhokoojodjnaaDoor
namespace Go.Proofs.YtljhokoojodjnaaDoor
open Go.RowKit
set_option linter.unusedVariables false
set_option linter.unusedSimpArgs false
def longTo (L : Nat → List Nd) (k : Nat) : Bool := (List.range k).any fun i => decide (400 < (L i).length)
def rightTo (L : Nat → List Nd) (k : Nat) : Bool := (List.range k).all fun i => rightB (L i)
def codeTo (L : Nat → List Nd) (m : Nat) : Int := if longTo L m then 2 else if rightTo L m then 0 else 1
theorem longTo_succ (L : Nat → List Nd) (k : Nat) : longTo L (k + 1) = (longTo L k || decide (400 < (L k).length)) := by simp [longTo, List.range_succ]
theorem longTo_yes (L : Nat → List Nd) (k m : Nat) (hk : k < m) (h : 400 < (L k).length) : longTo L m = true := by
  simp only [longTo, List.any_eq_true, List.mem_range]
  exact ⟨k, hk, by simpa using h⟩
theorem rightTo_succ (L : Nat → List Nd) (k : Nat) : rightTo L (k + 1) = (rightTo L k && rightB (L k)) := by simp [rightTo, List.range_succ]
theorem rightTo_no (L : Nat → List Nd) (k m : Nat) (hk : k < m) (h : rightB (L k) = false) : rightTo L m = false := by
  simp only [rightTo, List.all_eq_false, List.mem_range]
  exact ⟨k, hk, by simp [h]⟩
/-- A list of rows of nodes. -/
structure FsAt (w : World) (b : Nat) (m : Nat) (L : Nat → List Nd) (A C : Nat → Nat) : Prop where
  lt : b < w.heap.size
  cell : ∀ j, j < m → w.cell? ⟨b, j, none⟩ = some (.slice (some ⟨A j, 0, none⟩) (L j).length (C j))
  nodes : ∀ j, j < m → NodesAt w (A j) (L j)
theorem FsAt.on {w w' : World} {b m : Nat} {L : Nat → List Nd} {A C : Nat → Nat} (h : FsAt w b m L A C) (hb : Below w.heap.size w w') : FsAt w' b m L A C :=
  ⟨Nat.lt_of_lt_of_le h.lt hb.size, fun j hj => (hb.cell (p := ⟨b, j, none⟩) h.lt).trans (h.cell j hj), fun j hj => (h.nodes j hj).below hb (h.nodes j hj).1⟩
set_option maxRecDepth 20000 in
set_option maxHeartbeats 2000000 in
theorem codes_any (m : Nat) (hm : m ≤ 1000) (L : Nat → List Nd) (A C : Nat → Nat) (b c : Nat) (hok : ∀ j, j < m → (∀ i, i < (L j).length → ndOk (ndAt (L j) i)) ∧ (L j).length ≤ 1048576) (code : Int) (hcode : codeTo L m = code) (w : World) (hF : FsAt w b m L A C) (hkw : Kw w) (hg : 1 < w.heap.size) :
    Calls Tryd.prog 36 #[.slice (some ⟨b, 0, none⟩) m c] w fun e w' => e = .returned (.int .i64 code) ∧ Below w.heap.size w w' := by
  have HF := hid hF
  have HK := hid hkw
  have HOk := hid hok
  have HC : Hid (code = if longTo L m then 2 else if rightTo L m then 0 else 1) := hcode.symm
  clear hF hkw hok hcode
  go_enter Tryd.func36, Tryd.ntmps36
  go_wp2_with fail
  go_loop [9] (fun i => ∃ k : Nat, k ≤ m ∧ i = .int .i64 k ∧ longTo L k = false) (fun i => m - (intOf i).toNat)
  case atStart => exact ⟨0, Nat.zero_le _, rfl, rfl⟩
  case round =>
    obtain ⟨k, hk, rfl, hg'⟩ := hrel
    have HG := hid hg'
    clear hg'
    by_cases hlt : k < m
    · have d0 := HF.out.cell k hlt
      have hb0 := HF.out.lt
      have hl1 := (HOk.out k hlt).2
      by_cases h4 : 400 < (L k).length
      · have HE : Hid (code = 2) := by show code = 2; rw [HC.out, if_pos (longTo_yes L k m hlt h4)]
        go_wp2_with fail
        go_ret
        exact ⟨ret_int HE.out.symm, Below.refl _ _⟩
      · have HS : Hid (longTo L (k + 1) = false) := by show longTo L (k + 1) = false; rw [longTo_succ, HG.out]; simp; omega
        go_wp2_with fail
        go_round
        case rel => exact ⟨k + 1, by omega, by go_num, HS.out⟩
        case measure => simp [intOf]; omega
    · have hk' : k = m := by omega
      subst hk'
      have HC2 : Hid (code = if rightTo L k then 0 else 1) := by show code = _; rw [HC.out, HG.out]; rfl
      clear HC HG hk hlt
      go_wp2_with fail
      go_loopw [19] (fun i wr => ∃ k' : Nat, k' ≤ k ∧ i = .int .i64 k' ∧ rightTo L k' = true ∧ Below w.heap.size w wr) (fun i _ => k - (intOf i).toNat)
      case atStart => exact ⟨0, Nat.zero_le _, rfl, rfl, Below.refl _ _⟩
      case round =>
        obtain ⟨j, hj, rfl, hr, hbel⟩ := hrel
        have HR := hid hr
        have HB := hid hbel
        have hz := hbel.size
        clear hr hbel
        by_cases hlt : j < k
        · have HFr := hid (HF.out.on HB.out)
          have d0 := HFr.out.cell j hlt
          have hb0 := HFr.out.lt
          have HRi : Hid (∀ v, rightB (L j) = v → Calls Tryd.prog 29 #[.slice (some ⟨A j, 0, none⟩) (L j).length (C j)] wr fun e w' => e = .returned (.bool v) ∧ Below wr.heap.size wr w') := fun v hv => by subst hv; exact implRight_any (L j) (A j) (C j) wr (HFr.out.nodes j hlt) (HOk.out j hlt).1 (by have := (HOk.out j hlt).2; unfold maxLen; omega) (HK.out.below HB.out hg) (by omega)
          rcases Bool.eq_false_or_eq_true (rightB (L j)) with hv | hv
          · have HS : Hid (rightTo L (j + 1) = true) := by show rightTo L (j + 1) = true; rw [rightTo_succ, HR.out, hv]; rfl
            have HRv := hid (HRi.out true hv)
            clear HRi hv
            go_wp2_with (go_at_call 29; refine HRv.out.mono ?_; rintro e w1 ⟨rfl, hb1⟩; have HB1 := hid (HB.out.trans (hb1.mono HB.out.size)); clear hb1)
            go_roundw
            case rel => exact ⟨j + 1, by omega, by go_num, HS.out, HB1.out⟩
            case measure => simp [intOf]; omega
          · have HE : Hid (code = 1) := by show code = 1; rw [HC2.out, rightTo_no L j k hlt hv]; rfl
            have HRv := hid (HRi.out false hv)
            clear HRi hv
            go_wp2_with (go_at_call 29; refine HRv.out.mono ?_; rintro e w1 ⟨rfl, hb1⟩; have HB1 := hid (HB.out.trans (hb1.mono HB.out.size)); clear hb1)
            go_ret
            exact ⟨ret_int HE.out.symm, HB1.out⟩
        · have hj' : j = k := by omega
          subst hj'
          have HE : Hid (code = 0) := by show code = 0; rw [HC2.out, HR.out]; rfl
          go_wp2_with fail
          go_ret
          exact ⟨ret_int HE.out.symm, HB.out⟩
end Go.Proofs.YtljhokoojodjnaaDoor
namespace Go.Proofs.YtljhokoojodjnaaDoor
open Go.RowKit
set_option linter.unusedVariables false
set_option linter.unusedSimpArgs false
theorem goodTo_nm' (f : List Nd) (n : Nat) (h : goodTo f n = true) (i : Nat) (hi : i < n) : (ndAt f i).nm.size ≤ 8 := by
  have h1 := (goodTo_at f i n hi h).1
  simp only [nodeB, Bool.and_eq_true] at h1
  have h2 := h1.2.1
  split at h2
  · simp [wordB] at h2
    omega
  · have h3 : (ndAt f i).nm.size = 0 := by
      rw [← emptyB_eq _ h2]
      rfl
    omega
theorem newCode_to (f : List Nd) : newCode f = codeTo (fun _ => f) 1 := by
  unfold newCode codeTo
  by_cases h : 400 < f.length
  · rw [if_pos h, if_pos (longTo_yes (fun _ => f) 0 1 (by omega) h)]
  · have h2 : longTo (fun _ => f) 1 = false := by simp [longTo, List.range_succ]; omega
    rw [if_neg h, h2, rightTo_succ]
    simp [rightTo]
theorem fs_one (w : World) (o : Obj) (f : List Nd) (b cap : Nat) (hN : NodesAt w b f) (t : TypeId) : FsAt ((w.alloc o).alloc (.cells #[.slice (some ⟨b, 0, none⟩) f.length cap] t)) (w.heap.size + 1) 1 (fun _ => f) (fun _ => b) (fun _ => cap) :=
  ⟨by simp, fun j hj => by obtain rfl : j = 0 := by omega
                           simp [go_sem], fun j hj => (hN.below (((Below.refl w.heap.size w).alloc (Nat.le_refl _) o).alloc (by simp) _) hN.1)⟩
end Go.Proofs.YtljhokoojodjnaaDoor
namespace Go.Proofs.YtljhokoojodjnaaDoor
open Go.RowKit
set_option linter.unusedVariables false
set_option linter.unusedSimpArgs false
/-- What a TableOut is handed round as. -/
def toV (fa : Option Addr) (fn fc : Nat) (cap : Int) (ra : Option Addr) (rn rc : Nat) (yes : Bool) (code : Int) : Value := .agg #[.slice fa fn fc, .int .i64 cap, .slice ra rn rc, .bool yes, .int .i64 code]
def tnCode (f : List Nd) (most : Int) : Int := if 400 < f.length then 2 else if (rightB f && capB most) then 0 else 1
def tnF (f : List Nd) (most : Int) : List Nd := if tnCode f most = 0 then f else []
def tnC (f : List Nd) (most : Int) : Int := if tnCode f most = 0 then most else 0
theorem tn_no {f : List Nd} {most : Int} {c : Int} (h : tnCode f most = c) (hc : c ≠ 0) : tnF f most = [] ∧ tnC f most = 0 := by unfold tnF tnC; rw [h, if_neg hc, if_neg hc]; exact ⟨rfl, rfl⟩
theorem tn_yes {f : List Nd} {most : Int} (h : tnCode f most = 0) : tnF f most = f ∧ tnC f most = most := by unfold tnF tnC; rw [if_pos h, if_pos h]; exact ⟨rfl, rfl⟩
theorem tnCode_size {f : List Nd} {most : Int} (h : 400 < f.length) : tnCode f most = 2 := by unfold tnCode; rw [if_pos h]
theorem tnCode_form {f : List Nd} {most : Int} (h : ¬ 400 < f.length) (hr : (rightB f && capB most) = false) : tnCode f most = 1 := by unfold tnCode; rw [if_neg h, hr]; rfl
theorem tnCode_ok {f : List Nd} {most : Int} (h : ¬ 400 < f.length) (hr : (rightB f && capB most) = true) : tnCode f most = 0 := by unfold tnCode; rw [if_neg h, hr]; rfl
/-- The box of a TableOut. -/
structure UBox (W : World) (q : Nat) (fa : Option Addr) (fn fc : Nat) (cap : Int) (ra : Option Addr) (rn rc : Nat) (yes : Bool) (code : Int) : Prop where
  lt : q < W.heap.size
  o0 : W.cell? ⟨q, 0, none⟩ = some (.slice fa fn fc)
  o1 : W.cell? ⟨q, 1, none⟩ = some (.int .i64 cap)
  o2 : W.cell? ⟨q, 2, none⟩ = some (.slice ra rn rc)
  o3 : W.cell? ⟨q, 3, none⟩ = some (.bool yes)
  o4 : W.cell? ⟨q, 4, none⟩ = some (.int .i64 code)
theorem UBox.save {W W' : World} {q : Nat} {fa : Option Addr} {fn fc : Nat} {cap : Int} {ra : Option Addr} {rn rc : Nat} {yes : Bool} {code : Int} {S : Nat → Prop} (h : UBox W q fa fn fc cap ra rn rc yes code) (hs : Save W W' S) (h1 : ¬ S q) : UBox W' q fa fn fc cap ra rn rc yes code :=
  ⟨Nat.lt_of_lt_of_le h.lt hs.size, (hs.cell (p := ⟨q, _, none⟩) h.lt h1).trans h.o0, (hs.cell (p := ⟨q, _, none⟩) h.lt h1).trans h.o1, (hs.cell (p := ⟨q, _, none⟩) h.lt h1).trans h.o2, (hs.cell (p := ⟨q, _, none⟩) h.lt h1).trans h.o3, (hs.cell (p := ⟨q, _, none⟩) h.lt h1).trans h.o4⟩
theorem UBox.on {W W' : World} {q : Nat} {fa : Option Addr} {fn fc : Nat} {cap : Int} {ra : Option Addr} {rn rc : Nat} {yes : Bool} {code : Int} (h : UBox W q fa fn fc cap ra rn rc yes code) (hb : Below W.heap.size W W') : UBox W' q fa fn fc cap ra rn rc yes code :=
  h.save (S := fun _ => False) (Save.of_below hb _ (fun j h1 h2 => absurd h1 (by omega))) (fun h => h)
theorem UBox.new (w : World) (fa : Option Addr) (fn fc : Nat) (cap : Int) (ra : Option Addr) (rn rc : Nat) (yes : Bool) (code : Int) (t : TypeId) : UBox (w.alloc (.cells #[.slice fa fn fc, .int .i64 cap, .slice ra rn rc, .bool yes, .int .i64 code] t)) w.heap.size fa fn fc cap ra rn rc yes code :=
  ⟨by simp, by simp [go_sem], by simp [go_sem], by simp [go_sem], by simp [go_sem], by simp [go_sem]⟩
def uZ : Obj := .cells #[.slice none 0 0, .int .i64 0, .slice none 0 0, .bool false, .int .i64 0] 37
theorem UBox.zero (w : World) : UBox (w.alloc uZ) w.heap.size none 0 0 0 none 0 0 false 0 ∧ RFree (w.alloc uZ) w.heap.size := by
  unfold uZ
  exact ⟨UBox.new _ _ _ _ _ _ _ _ _ _ _, RFree.new _ _ _ _ _ _ _⟩
set_option maxRecDepth 20000 in
set_option maxHeartbeats 4000000 in
theorem specTNew_any (f : List Nd) (b cap : Nat) (most : Int) (w : World) (hN : NodesAt w b f) (hok : ∀ i, i < f.length → ndOk (ndAt f i)) (hlen : f.length ≤ 1048576) (F : List Nd) (C : Int) (code : Int) (hF : tnF f most = F) (hC : tnC f most = C) (hc : tnCode f most = code) :
    Calls Tryd.prog 12 #[.slice (some ⟨b, 0, none⟩) f.length cap, .int .i64 most] w fun e w' => ∃ fa fc, e = .returned (toV fa F.length fc C none 0 0 false code) ∧ NsA w' fa F ∧ (∀ q, fa = some q → w.heap.size ≤ q.block ∧ q.block < w'.heap.size) ∧ Below w.heap.size w w' := by
  obtain ⟨i0, hi0, hz0, hz1, hz2⟩ := info_parts Tryd.infoN
  have HU : Hid (∀ fa fn fc cap ra rn rc yes code, toV fa fn fc cap ra rn rc yes code = .agg #[.slice fa fn fc, .int .i64 cap, .slice ra rn rc, .bool yes, .int .i64 code]) := fun _ _ _ _ _ _ _ _ _ => rfl
  have HB0 := hid (below_one' w uZ)
  have HX0 := hid (UBox.zero w).1
  have HG0 := hid (UBox.zero w).2
  unfold uZ at HB0 HX0 HG0
  simp only [HU.out]
  by_cases h4 : 400 < f.length
  · obtain rfl : 2 = code := by rw [← hc, tnCode_size h4]
    obtain rfl : [] = F := by rw [← hF, (tn_no hc (by omega)).1]
    obtain rfl : 0 = C := by rw [← hC, (tn_no hc (by omega)).2]
    clear hF hc hC
    go_enter Tryd.func12, Tryd.ntmps12
    go_wp2_with fail
    refine bodyPost_ret (v := .agg #[.slice none 0 0, .int .i64 0, .slice none 0 0, .bool false, .int .i64 2]) (by simp [results, Tryd.results12, go_sem]) rfl ?_
    exact ⟨none, 0, rfl, Or.inl rfl, (fun q e => by cases e), below_one' _ _⟩
  · have h4' : ¬ ((f.length : Int) > 400) := by omega
    have HR : Hid (∀ v, rightB f = v → ∀ w' : World, Below w.heap.size w w' → Calls Tryd.prog 23 #[.slice (some ⟨b, 0, none⟩) f.length cap] w' fun e w'' => e = .returned (.bool v) ∧ Below w'.heap.size w' w'') := fun v hv w' h => by subst hv; exact specRight_any f b cap w' (hN.below h hN.1) (fun i hi => (hok i hi).nm) (by unfold maxLen; omega)
    have HCp := hid (fun v (h : capB most = v) w => capS_any most v h w)
    rcases Bool.eq_false_or_eq_true (rightB f && capB most) with hrc | hrc
    · obtain rfl : 0 = code := by rw [← hc, tnCode_ok h4 hrc]
      obtain rfl : f = F := by rw [← hF, (tn_yes hc).1]
      obtain rfl : most = C := by rw [← hC, (tn_yes hc).2]
      rw [Bool.and_eq_true] at hrc
      obtain ⟨hr, hcp⟩ := hrc
      obtain ⟨hl1, hl2, _⟩ := rightB_all' f hr
      have HF := hid (HR.out true hr)
      have HCt := hid (HCp.out true hcp)
      have HN := hid hN
      have hbw := hN.1
      clear hF hc hC HR hr hcp HCp hN
      go_enter Tryd.func12, Tryd.ntmps12
      go_wp2_with (first | (go_at_call 23; refine (HF.out _ HB0.out).mono ?_; rintro e w1 ⟨rfl, hb1⟩; have HB1 := hid (HB0.out.trans (hb1.mono HB0.out.size)); have HX1 := hid (HX0.out.on hb1); have HG1 := hid (HG0.out.on hb1 HX0.out.lt); have hs1 := hb1.size; clear hb1) | (go_at_call 24; refine (HCt.out _).mono ?_; rintro e w' ⟨rfl, rfl⟩) | (at_builtin; go_loud (refine wpList_append_own_at _ rfl _ _ 28 rfl w1.heap.size 63 i0 _ 6 56 Tryd.uNs hi0 hz0 hz1 hz2 rfl (by decide) _ 0 [] rfl (ownsN_none w1 w1.heap.size (Nat.le_refl _)) ⟨b, 0, none⟩ f.length cap (flatN f) rfl (flatN_len f) (flatN_cells ((HN.out.below HB1.out hbw).below (below_one' w1 _) (by have := HB1.out.size; omega))) (flatN_one f) (by unfold maxLen; omega) (by omega) (by simp) ?_; intro v5 w5 hown5 hgrow5 _ hat5; have hO5 : OwnsN w5 w1.heap.size v5 f := (by show w5.ownsRow _ _ _ _ _ _; simpa using hown5); obtain ⟨g, gc, m, z, rfl, _, hg, hm, hr, _, hall⟩ := hO5.row (by omega); have hs5 : Save w1 w5 (fun _ => False) := ((Save.refl w1 (fun _ => False)).alloc _).grown hgrow5 (fun k hk h => by simp [Value.ownBlock, Act.eval, Act.put] at hk; omega); have HN5 := hid (hall _ hr); have HB5 := hid (HB1.out.trans (hs5.below (B := w.heap.size) HB1.out.size (fun j h => h.elim))); obtain ⟨hq, o0, o1, o2, o3, o4⟩ := HX1.out.save hs5 (fun h => h); obtain ⟨g0, g1, g2, g3, g4⟩ := HG1.out.on (hs5.below (B := w1.heap.size) (Nat.le_refl _) (fun j h => h.elim)) HX1.out.lt; have hz5 := hs5.size; clear hown5 hgrow5 hat5 hs5 hO5 hr hall)))
      refine bodyPost_ret (v := .agg #[.slice (some ⟨g, 0, none⟩) f.length gc, .int .i64 most, .slice none 0 0, .bool false, .int .i64 0]) (by simp [results, Tryd.results12, go_sem, o0, o1, o2, o3, o4, g0, g1, g2, g3, g4]) rfl ?_
      have hx := HX1.out.lt
      have s5 := rset5 w5 w.heap.size (.slice (some ⟨g, 0, none⟩) f.length gc) (.int .i64 most) (.slice none 0 0) (.bool false) (.int .i64 0)
      have hz7 := s5.size
      have hn5 := HN5.out.1
      have hb1s := HB1.out.size
      exact ⟨some ⟨g, 0, none⟩, gc, rfl, Or.inr ⟨g, rfl, s5.nodes HN5.out (by omega)⟩, (fun q e => by injection e with e; subst e; exact ⟨by show _ ≤ g; omega, by show g < _; omega⟩), HB5.out.trans (s5.below (B := w.heap.size) HB5.out.size (fun j h => by omega))⟩
    · obtain rfl : 1 = code := by rw [← hc, tnCode_form h4 hrc]
      obtain rfl : [] = F := by rw [← hF, (tn_no hc (by omega)).1]
      obtain rfl : 0 = C := by rw [← hC, (tn_no hc (by omega)).2]
      rcases Bool.eq_false_or_eq_true (rightB f) with hr | hr
      · have hcp : capB most = false := by rw [hr] at hrc; simpa using hrc
        have HF := hid (HR.out true hr)
        have HCt := hid (HCp.out false hcp)
        clear hF hc hC HR hr hcp HCp hN hrc
        go_enter Tryd.func12, Tryd.ntmps12
        go_wp2_with (first | (go_at_call 23; refine (HF.out _ HB0.out).mono ?_; rintro e w1 ⟨rfl, hb1⟩; have HB1 := hid (HB0.out.trans (hb1.mono HB0.out.size)); obtain ⟨hq, o0, o1, o2, o3, o4⟩ := HX0.out.on hb1; obtain ⟨g0, g1, g2, g3, g4⟩ := HG0.out.on hb1 HX0.out.lt; clear hb1) | (go_at_call 24; refine (HCt.out _).mono ?_; rintro e w' ⟨rfl, rfl⟩))
        refine bodyPost_ret (v := .agg #[.slice none 0 0, .int .i64 0, .slice none 0 0, .bool false, .int .i64 1]) (by simp [results, Tryd.results12, go_sem, o0, o1, o2, o3, o4, g0, g1, g2, g3, g4]) rfl ?_
        have s5 := rset5 w1 w.heap.size (.slice none 0 0) (.int .i64 0) (.slice none 0 0) (.bool false) (.int .i64 1)
        exact ⟨none, 0, rfl, Or.inl rfl, (fun q e => by cases e), HB1.out.trans (s5.below (B := w.heap.size) HB1.out.size (fun j h => by omega))⟩
      · have HF := hid (HR.out false hr)
        clear hF hc hC HR hr HCp hN hrc
        go_enter Tryd.func12, Tryd.ntmps12
        go_wp2_with (go_at_call 23; refine (HF.out _ HB0.out).mono ?_; rintro e w1 ⟨rfl, hb1⟩; have HB1 := hid (HB0.out.trans (hb1.mono HB0.out.size)); obtain ⟨hq, o0, o1, o2, o3, o4⟩ := HX0.out.on hb1; obtain ⟨g0, g1, g2, g3, g4⟩ := HG0.out.on hb1 HX0.out.lt; clear hb1)
        refine bodyPost_ret (v := .agg #[.slice none 0 0, .int .i64 0, .slice none 0 0, .bool false, .int .i64 1]) (by simp [results, Tryd.results12, go_sem, o0, o1, o2, o3, o4, g0, g1, g2, g3, g4]) rfl ?_
        have s5 := rset5 w1 w.heap.size (.slice none 0 0) (.int .i64 0) (.slice none 0 0) (.bool false) (.int .i64 1)
        exact ⟨none, 0, rfl, Or.inl rfl, (fun q e => by cases e), HB1.out.trans (s5.below (B := w.heap.size) HB1.out.size (fun j h => by omega))⟩
set_option maxRecDepth 20000 in
set_option maxHeartbeats 4000000 in
theorem implTNew_any (f : List Nd) (b cap : Nat) (most : Int) (w : World) (hN : NodesAt w b f) (hok : ∀ i, i < f.length → ndOk (ndAt f i)) (hlen : f.length ≤ 1048576) (hkw : Kw w) (hg : 1 < w.heap.size) (F : List Nd) (C : Int) (code : Int) (hF : tnF f most = F) (hC : tnC f most = C) (hc : tnCode f most = code) :
    Calls Tryd.prog 14 #[.slice (some ⟨b, 0, none⟩) f.length cap, .int .i64 most] w fun e w' => ∃ fa fc, e = .returned (toV fa F.length fc C none 0 0 false code) ∧ NsA w' fa F ∧ RowA w' fa F.length ∧ (∀ q, fa = some q → q = ⟨q.block, 0, none⟩ ∧ w.heap.size ≤ q.block ∧ q.block < w'.heap.size) ∧ Below w.heap.size w w' := by
  have HU : Hid (∀ fa fn fc cap ra rn rc yes code, toV fa fn fc cap ra rn rc yes code = .agg #[.slice fa fn fc, .int .i64 cap, .slice ra rn rc, .bool yes, .int .i64 code]) := fun _ _ _ _ _ _ _ _ _ => rfl
  have HB0 := hid (below_one' w uZ)
  have HX0 := hid (UBox.zero w).1
  have HG0 := hid (UBox.zero w).2
  have HFs := hid (fs_one w uZ f b cap hN 28)
  have HBf := hid (below_one' (w.alloc uZ) (.cells #[.slice (some ⟨b, 0, none⟩) f.length cap] 28))
  unfold uZ at HB0 HX0 HG0 HFs HBf
  simp only [HU.out]
  have HBa := hid (HB0.out.trans (HBf.out.mono HB0.out.size))
  have HXa := hid (HX0.out.on HBf.out)
  have HGa := hid (HG0.out.on HBf.out HX0.out.lt)
  have HCd := hid (fun c (hcc : newCode f = c) => codes_any 1 (by omega) (fun _ => f) (fun _ => b) (fun _ => cap) (w.heap.size + 1) 1 (fun _ _ => ⟨hok, hlen⟩) c (by rw [← newCode_to, hcc]) _ HFs.out (hkw.below HBa.out hg) (by have := HBa.out.size; omega))
  have HCp := hid (fun v (h : capB most = v) w => capI_any most v h w)
  by_cases h4 : 400 < f.length
  · obtain rfl : 2 = code := by rw [← hc, tnCode_size h4]
    obtain rfl : [] = F := by rw [← hF, (tn_no hc (by omega)).1]
    obtain rfl : 0 = C := by rw [← hC, (tn_no hc (by omega)).2]
    have HCe := hid (HCd.out 2 (newCode_size h4))
    clear hF hc hC hN hkw HFs HBf HX0 HG0 HB0 HCd HCp
    go_enter Tryd.func14, Tryd.ntmps14
    go_wp2_with (go_at_call 36; refine HCe.out.mono ?_; rintro e w1 ⟨rfl, hb1⟩; have HB1 := hid (HBa.out.trans (hb1.mono HBa.out.size)); obtain ⟨hq, o0, o1, o2, o3, o4⟩ := HXa.out.on hb1; obtain ⟨g0, g1, g2, g3, g4⟩ := HGa.out.on hb1 HXa.out.lt; clear hb1)
    refine bodyPost_ret (by simp [results, Tryd.results14, go_sem, o0, o1, o2, o3, o4, g0, g1, g2, g3, g4]; rfl) rfl ?_
    have s5 := rset5 w1 w.heap.size (.slice none 0 0) (.int .i64 0) (.slice none 0 0) (.bool false) (.int .i64 2)
    exact ⟨none, 0, rfl, Or.inl rfl, Or.inl rfl, (fun q e => by cases e), HB1.out.trans (s5.below (B := w.heap.size) HB1.out.size (fun j h => by omega))⟩
  · rcases Bool.eq_false_or_eq_true (rightB f) with hr | hr
    · have HCe := hid (HCd.out 0 (newCode_ok h4 hr))
      rcases Bool.eq_false_or_eq_true (capB most) with hcp | hcp
      · have HCt := hid (HCp.out true hcp)
        obtain rfl : 0 = code := by rw [← hc, tnCode_ok h4 (by rw [hr, hcp]; rfl)]
        obtain rfl : f = F := by rw [← hF, (tn_yes hc).1]
        obtain rfl : most = C := by rw [← hC, (tn_yes hc).2]
        obtain ⟨hl1, hl2, hgd⟩ := rightB_all' f hr
        have HNw := hid (fun w' (h : Below w.heap.size w w') => own_nodes f b cap (by omega) (by omega) (fun i hi => by have := goodTo_nm' f _ hgd i hi; omega) w' (hN.below h hN.1))
        clear hF hc hC hr hN hgd hkw HFs HBf HX0 HG0 HB0 HCd HCp hcp
        go_enter Tryd.func14, Tryd.ntmps14
        go_wp2_with (first | (go_at_call 36; refine HCe.out.mono ?_; rintro e w1 ⟨rfl, hb1⟩; have HB1 := hid (HBa.out.trans (hb1.mono HBa.out.size)); have HX1 := hid (HXa.out.on hb1); have HG1 := hid (HGa.out.on hb1 HXa.out.lt); have hz1 := hb1.size; clear hb1) | (go_at_call 30; refine (HCt.out _).mono ?_; rintro e w' ⟨rfl, rfl⟩) | (go_at_call 37; refine (HNw.out _ HB1.out).mono ?_; rintro e w2 ⟨g, gc, m, z, rfl, _, hgg, hm, hr2, hn2, hb2⟩; have HB2 := hid (HB1.out.trans (hb2.mono HB1.out.size)); have HN2 := hid hn2; have HR2 := hid hr2; obtain ⟨hq, o0, o1, o2, o3, o4⟩ := HX1.out.on hb2; obtain ⟨g0, g1, g2, g3, g4⟩ := HG1.out.on hb2 HX1.out.lt; have hz2 := hb2.size; clear hb2 hn2 hr2))
        refine bodyPost_ret (v := .agg #[.slice (some ⟨g, 0, none⟩) f.length gc, .int .i64 most, .slice none 0 0, .bool false, .int .i64 0]) (by simp [results, Tryd.results14, go_sem, o0, o1, o2, o3, o4, g0, g1, g2, g3, g4]) rfl ?_
        have hx := HX1.out.lt
        have hb1s := HB1.out.size
        have s5 := rset5 w2 w.heap.size (.slice (some ⟨g, 0, none⟩) f.length gc) (.int .i64 most) (.slice none 0 0) (.bool false) (.int .i64 0)
        have hz7 := s5.size
        have hn2 := HN2.out.1
        exact ⟨some ⟨g, 0, none⟩, gc, rfl, Or.inr ⟨g, rfl, s5.nodes HN2.out (by omega)⟩, Or.inr ⟨g, m, z, rfl, hm, HR2.out.of_block (s5.block g HR2.out.lt (by omega))⟩, (fun q e => by injection e with e; subst e; exact ⟨rfl, by show _ ≤ g; omega, by show g < _; omega⟩), HB2.out.trans (s5.below (B := w.heap.size) HB2.out.size (fun j h => by omega))⟩
      · have HCt := hid (HCp.out false hcp)
        obtain rfl : 1 = code := by rw [← hc, tnCode_form h4 (by rw [hr, hcp]; rfl)]
        obtain rfl : [] = F := by rw [← hF, (tn_no hc (by omega)).1]
        obtain rfl : 0 = C := by rw [← hC, (tn_no hc (by omega)).2]
        clear hF hc hC hr hN hkw HFs HBf HX0 HG0 HB0 HCd HCp hcp
        go_enter Tryd.func14, Tryd.ntmps14
        go_wp2_with (first | (go_at_call 36; refine HCe.out.mono ?_; rintro e w1 ⟨rfl, hb1⟩; have HB1 := hid (HBa.out.trans (hb1.mono HBa.out.size)); obtain ⟨hq, o0, o1, o2, o3, o4⟩ := HXa.out.on hb1; obtain ⟨g0, g1, g2, g3, g4⟩ := HGa.out.on hb1 HXa.out.lt; clear hb1) | (go_at_call 30; refine (HCt.out _).mono ?_; rintro e w' ⟨rfl, rfl⟩))
        refine bodyPost_ret (by simp [results, Tryd.results14, go_sem, o0, o1, o2, o3, o4, g0, g1, g2, g3, g4]; rfl) rfl ?_
        have s5 := rset5 w1 w.heap.size (.slice none 0 0) (.int .i64 0) (.slice none 0 0) (.bool false) (.int .i64 1)
        exact ⟨none, 0, rfl, Or.inl rfl, Or.inl rfl, (fun q e => by cases e), HB1.out.trans (s5.below (B := w.heap.size) HB1.out.size (fun j h => by omega))⟩
    · have HCe := hid (HCd.out 1 (newCode_form h4 hr))
      obtain rfl : 1 = code := by rw [← hc, tnCode_form h4 (by rw [hr]; rfl)]
      obtain rfl : [] = F := by rw [← hF, (tn_no hc (by omega)).1]
      obtain rfl : 0 = C := by rw [← hC, (tn_no hc (by omega)).2]
      clear hF hc hC hr hN hkw HFs HBf HX0 HG0 HB0 HCd HCp
      go_enter Tryd.func14, Tryd.ntmps14
      go_wp2_with (go_at_call 36; refine HCe.out.mono ?_; rintro e w1 ⟨rfl, hb1⟩; have HB1 := hid (HBa.out.trans (hb1.mono HBa.out.size)); obtain ⟨hq, o0, o1, o2, o3, o4⟩ := HXa.out.on hb1; obtain ⟨g0, g1, g2, g3, g4⟩ := HGa.out.on hb1 HXa.out.lt; clear hb1)
      refine bodyPost_ret (by simp [results, Tryd.results14, go_sem, o0, o1, o2, o3, o4, g0, g1, g2, g3, g4]; rfl) rfl ?_
      have s5 := rset5 w1 w.heap.size (.slice none 0 0) (.int .i64 0) (.slice none 0 0) (.bool false) (.int .i64 1)
      exact ⟨none, 0, rfl, Or.inl rfl, Or.inl rfl, (fun q e => by cases e), HB1.out.trans (s5.below (B := w.heap.size) HB1.out.size (fun j h => by omega))⟩
end Go.Proofs.YtljhokoojodjnaaDoor
namespace Go.Proofs.YtljhokoojodjnaaDoor
open Go.RowKit
set_option linter.unusedVariables false
set_option linter.unusedSimpArgs false
theorem heldNodeS_nil (a : Option Addr) (k0 c : Nat) (w : World) :
    Calls Tryd.prog 64 #[.slice a 0 c, .int .i64 k0] w fun e w' => e = .returned (.int .i64 k0) ∧ w = w' := by
  go_enter Tryd.func64, Tryd.ntmps64
  go_wp2_with fail
  go_loopw [1, 5] (fun t s wr => t = .int .i64 k0 ∧ s = .int .i64 0 ∧ w = wr) (fun _ _ _ => 0)
  case atStart => exact ⟨rfl, rfl, rfl⟩
  case round =>
    obtain ⟨rfl, rfl, rfl⟩ := hrel
    go_wp2_with fail
    go_ret
    exact ⟨rfl, rfl⟩
set_option maxRecDepth 20000 in
set_option maxHeartbeats 2000000 in
theorem heldNodeS_row (n k0 b c : Nat) (hn : n ≤ 1048576) (hk0 : 0 < k0) (hk1 : k0 ≤ 1000) (w : World) (h : NodesAt w b (markN k0 n)) :
    Calls Tryd.prog 64 #[.slice (some ⟨b, 0, none⟩) n c, .int .i64 k0] w fun e w' => e = .returned (.int .i64 (k0 + n * 6 : Nat)) ∧ Below w.heap.size w w' := by
  have H := hid h
  clear h
  go_enter Tryd.func64, Tryd.ntmps64
  go_wp2_with fail
  go_loopw [1, 5] (fun t s wr => ∃ k : Nat, k ≤ n ∧ t = .int .i64 (k0 + k * 6 : Nat) ∧ s = .int .i64 k ∧ Below w.heap.size w wr) (fun _ s _ => n - (intOf s).toNat)
  case atStart => exact ⟨0, Nat.zero_le _, rfl, rfl, Below.refl _ _⟩
  case round =>
    obtain ⟨k, hk, rfl, rfl, hbel⟩ := hrel
    have HB := hid hbel
    have hsz := hbel.size
    clear hbel
    by_cases hlt : k < n
    · have hnd := H.out.2 k (by rw [markN_len]; exact hlt)
      rw [markN_at _ _ _ hlt] at hnd
      obtain ⟨d0, d1, d2, d3, d4, d5⟩ := hnd.below HB.out H.out.1
      clear hnd
      simp only [mkNd, Nd.k, Nd.a, Nd.b, Nd.lo, Nd.hi, Nd.nm] at d0 d1 d2 d3 d4 d5
      have hbl : b < wr.heap.size := Nat.lt_of_lt_of_le H.out.1 hsz
      go_wp2_with fail
      go_region_with (go_at_call 39; refine (markText_int _ (k0 + k * 6 + 5) (by push_cast; omega) (by omega) (by omega) _).mono ?_; rintro e w1 ⟨rfl, hb1⟩; have HB1 : Hid (Below w.heap.size w w1) := HB.out.trans (Below.mono ⟨hb1.os, hb1.tape, hb1.output, hb1.size, hb1.block⟩ hsz); have d6 := (hb1.cell (p := ⟨b, k * 6 + 5, none⟩) hbl).trans d5; clear hb1)
      all_goals
        go_wp2_with fail
        go_roundw
        case rel => exact ⟨k + 1, by omega, by simp; omega, by go_num, HB1.out⟩
        case measure => simp [intOf]; omega
    · have hk' : k = n := by omega
      subst hk'
      go_wp2_with fail
      go_ret
      exact ⟨rfl, HB.out⟩
end Go.Proofs.YtljhokoojodjnaaDoor
namespace Go.Proofs.YtljhokoojodjnaaDoor
open Go.RowKit
set_option linter.unusedVariables false
set_option linter.unusedSimpArgs false
set_option maxRecDepth 20000 in
set_option maxHeartbeats 2000000 in
theorem markNodeS_long (n k0 b c : Nat) (z : Nat → Value) (hn : n ≤ 1048576) (hk0 : 0 < k0) (hk1 : k0 ≤ 1000) (m : Nat) (hm : n * 6 ≤ m) (w : World) (h : w.rowIs b 63 m z) :
    Calls Tryd.prog 17 #[.slice (some ⟨b, 0, none⟩) n c, .int .i64 k0] w fun e w' => e = .returned (.int .i64 (k0 + n * 6 : Nat)) ∧ w'.rowIs b 63 m (rowF (markN k0 n) z n) ∧ Save w w' (fun j => j = b) := by
  have HR0 := hid (h.congr (fun j hj => (show z j = rowF (markN k0 n) z 0 j by simp [rowF])))
  have hbl := h.lt
  clear h
  go_enter Tryd.func17, Tryd.ntmps17
  go_wp2_with fail
  go_loopw [1, 5] (fun t s wr => ∃ k : Nat, k ≤ n ∧ t = .int .i64 (k0 + k * 6 : Nat) ∧ s = .int .i64 k ∧ wr.rowIs b 63 m (rowF (markN k0 n) z k) ∧ Save w wr (fun j => j = b)) (fun _ s _ => n - (intOf s).toNat)
  case atStart => exact ⟨0, Nat.zero_le _, rfl, rfl, HR0.out, Save.refl _ _⟩
  case round =>
    clear HR0
    obtain ⟨k, hk, rfl, rfl, hrow, hsv⟩ := hrel
    have HS := hid hsv
    have HRow := hid hrow
    have hsz := hrow.lt
    clear hrow hsv
    by_cases hlt : k < n
    · have d0 := HRow.out.cell (i := k * 6) (by omega)
      have d1 := HRow.out.cell (i := k * 6 + 1) (by omega)
      have d2 := HRow.out.cell (i := k * 6 + 2) (by omega)
      have d3 := HRow.out.cell (i := k * 6 + 3) (by omega)
      have d4 := HRow.out.cell (i := k * 6 + 4) (by omega)
      have f0 := HRow.out.frozen
      go_wp2_with fail
      refine (markText_int _ (k0 + k * 6 + 5) (by push_cast; omega) (by omega) (by omega) _).mono ?_
      rintro e w1 ⟨rfl, hb1⟩
      have HR1 := hid ((((((HRow.out.set (k * 6) _).set (k * 6 + 1) _).set (k * 6 + 2) _).set (k * 6 + 3) _).set (k * 6 + 4) _).of_block (hb1.block b (by simpa using hsz)))
      have HS1 := hid ((((((HS.out.setCell (p := ⟨b, k * 6, none⟩) (fun _ => rfl) _).setCell (p := ⟨b, k * 6 + 1, none⟩) (fun _ => rfl) _).setCell (p := ⟨b, k * 6 + 2, none⟩) (fun _ => rfl) _).setCell (p := ⟨b, k * 6 + 3, none⟩) (fun _ => rfl) _).setCell (p := ⟨b, k * 6 + 4, none⟩) (fun _ => rfl) _).trans (Save.of_below hb1 _ (fun j h1 h2 => absurd h1 (by omega))))
      have d5 := HR1.out.cell (i := k * 6 + 5) (by omega)
      have f5 := HR1.out.frozen (k * 6 + 5)
      clear hb1 d0 d1 d2 d3 d4 f0
      go_wp2_with fail
      go_roundw
      case rel =>
        refine ⟨k + 1, by omega, by simp; omega, by go_num, (HR1.out.set (k * 6 + 5) _).congr (fun j hj => ?_), HS1.out.setCell (p := ⟨b, k * 6 + 5, none⟩) (fun _ => rfl) _⟩
        rw [rowF_step, markN_at _ _ _ hlt]
        simp [mkNd, Int.add_assoc, Nd.k, Nd.a, Nd.b, Nd.lo, Nd.hi, Nd.nm]
      case measure => simp [intOf]; omega
    · have hk' : k = n := by omega
      subst hk'
      go_wp2_with fail
      go_ret
      exact ⟨rfl, HRow.out, HS.out⟩
theorem row_nodes_long {w : World} {b m : Nat} {f : List Nd} {z : Nat → Value} (h : w.rowIs b 63 m (rowF f z f.length)) (hm : f.length * 6 ≤ m) : NodesAt w b f := by
  refine ⟨h.lt, fun i hi => ?_⟩
  have key : ∀ r, r < 6 → w.cell? ⟨b, i * 6 + r, none⟩ = some ((ndCells (ndAt f i)).getD r undef) := by
    intro r hr
    rw [h.cell (by omega)]
    unfold rowF
    rw [if_pos (by omega), show (i * 6 + r) / 6 = i by omega, show (i * 6 + r) % 6 = r by omega]
  exact ⟨key 0 (by decide), key 1 (by decide), key 2 (by decide), key 3 (by decide), key 4 (by decide), key 5 (by decide)⟩
/-- The block of a slice's address. -/
def OfB (a : Option Addr) (j : Nat) : Prop := ∃ q, a = some q ∧ q.block = j
theorem markNs (n : Nat) (a : Option Addr) (c : Nat) (hn : n ≤ 1048576) (w : World) (h : RowA w a n) :
    Calls Tryd.prog 17 #[.slice a n c, .int .i64 1] w fun e w' => e = .returned (.int .i64 (1 + n * 6 : Nat)) ∧ NsA w' a (markN 1 n) ∧ Save w w' (OfB a) := by
  rcases h with rfl | ⟨b, m, z, rfl, hm, h⟩
  · refine (markNodeS_nil a 1 c w).mono ?_
    rintro e w' ⟨rfl, rfl⟩
    exact ⟨rfl, Or.inl rfl, Save.refl _ _⟩
  · refine (markNodeS_long n 1 b c z hn (by omega) (by omega) m hm w h).mono ?_
    rintro e w' ⟨rfl, hr, hs⟩
    refine ⟨rfl, Or.inr ⟨b, rfl, ?_⟩, hs.mono (fun j _ e => ⟨_, rfl, e.symm⟩)⟩
    exact @row_nodes_long w' b m (markN 1 n) z (by rw [markN_len]; exact hr) (by rw [markN_len]; exact hm)
theorem heldNs (n : Nat) (a : Option Addr) (c : Nat) (hn : n ≤ 1048576) (w : World) (h : NsA w a (markN 1 n)) :
    Calls Tryd.prog 64 #[.slice a n c, .int .i64 1] w fun e w' => e = .returned (.int .i64 (1 + n * 6 : Nat)) ∧ Below w.heap.size w w' := by
  rcases h with h | ⟨b, rfl, h⟩
  · rw [markN_len] at h
    subst h
    refine (heldNodeS_nil a 1 c w).mono ?_
    rintro e w' ⟨rfl, rfl⟩
    exact ⟨rfl, Below.refl _ _⟩
  · exact heldNodeS_row n 1 b c hn (by omega) (by omega) w h
theorem NsA.save {w w' : World} {a : Option Addr} {P : List Nd} {S : Nat → Prop} (h : NsA w a P) (hs : Save w w' S) (hS : ∀ q, a = some q → ¬ S q.block) : NsA w' a P :=
  h.imp id (fun ⟨b, e, hn⟩ => ⟨b, e, hs.nodes hn (hS _ e)⟩)
theorem NsA.on {w w' : World} {a : Option Addr} {P : List Nd} (h : NsA w a P) (hb : Below w.heap.size w w') : NsA w' a P :=
  h.imp id (fun ⟨b, e, hn⟩ => ⟨b, e, hn.below hb hn.1⟩)
theorem RowA.save {w w' : World} {a : Option Addr} {n : Nat} {S : Nat → Prop} (h : RowA w a n) (hs : Save w w' S) (hS : ∀ q, a = some q → ¬ S q.block) : RowA w' a n :=
  h.imp id (fun ⟨b, m, z, e, hm, hr⟩ => ⟨b, m, z, e, hm, hr.of_block (hs.block b hr.lt (hS _ e))⟩)
theorem RowA.on {w w' : World} {a : Option Addr} {n : Nat} (h : RowA w a n) (hb : Below w.heap.size w w') : RowA w' a n :=
  h.imp id (fun ⟨b, m, z, e, hm, hr⟩ => ⟨b, m, z, e, hm, hr.of_block (hb.block b hr.lt)⟩)
theorem RowB.save {w w' : World} {a : Option Addr} {F : List Nd} {S : Nat → Prop} (h : RowB w a F) (hs : Save w w' S) (hS : ∀ q, a = some q → ¬ S q.block) : RowB w' a F :=
  h.imp id (fun ⟨b, e, hr⟩ => ⟨b, e, World.rowIs.of_block hr (hs.block b (World.rowIs.lt hr) (hS _ e))⟩)
theorem RowB.on {w w' : World} {a : Option Addr} {F : List Nd} (h : RowB w a F) (hb : Below w.heap.size w w') : RowB w' a F :=
  h.imp id (fun ⟨b, e, hr⟩ => ⟨b, e, World.rowIs.of_block hr (hb.block b (World.rowIs.lt hr))⟩)
set_option maxRecDepth 20000 in
theorem eqNs_nil (a1 a2 : Option Addr) (c1 c2 : Nat) (w : World) :
    Calls Tryd.prog 16 #[.slice a1 0 c1, .slice a2 0 c2] w fun e w' => e = .returned (.bool true) ∧ Below w.heap.size w w' := by
  go_enter Tryd.func16, Tryd.ntmps16
  go_wp2_with fail
  go_loopw [5] (fun t wr => t = .int .i64 0 ∧ wr = w) (fun _ _ => 0)
  case atStart => exact ⟨rfl, rfl⟩
  case round =>
    obtain ⟨rfl, rfl⟩ := hrel
    go_wp2_with fail
    go_ret
    exact ⟨rfl, Below.refl _ _⟩
theorem eqNs (P : List Nd) (n : Nat) (hn : P.length = n) (a1 a2 : Option Addr) (c1 c2 : Nat) (hl : n ≤ 1048576) (w : World) (h1 : NsA w a1 P) (h2 : NsA w a2 P) :
    Calls Tryd.prog 16 #[.slice a1 n c1, .slice a2 n c2] w fun e w' => e = .returned (.bool true) ∧ Below w.heap.size w w' := by
  subst hn
  rcases h1 with h0 | ⟨b1, rfl, h1⟩
  · rw [h0]
    exact eqNs_nil a1 a2 c1 c2 w
  · rcases h2 with h0 | ⟨b2, rfl, h2⟩
    · rw [h0]
      exact eqNs_nil _ a2 c1 c2 w
    · exact eqNodeS_same P b1 b2 c1 c2 hl w h1 h2
/-- Cell j of a row of bare cells of which the first k are marked. -/
def rowM (k0 : Nat) (z : Nat → Value) (k j : Nat) : Value := if j < k * 4 then (if j % 4 = 0 then .int .i64 ((k0 + j / 4 * 3 : Nat) : Int) else if j % 4 = 1 then .int .i64 ((k0 + j / 4 * 3 + 1 : Nat) : Int) else if j % 4 = 2 then .slice none 0 0 else .bool (decide (((k0 + j / 4 * 3 + 2 : Nat) : Int) % 3 = 0))) else z j
theorem rowM_step (k0 : Nat) (z : Nat → Value) (k j : Nat) (hz : z (k * 4 + 2) = .slice none 0 0) : rowM k0 z (k + 1) j = if j = k * 4 + 3 then .bool (decide (((k0 + k * 3 + 2 : Nat) : Int) % 3 = 0)) else if j = k * 4 + 1 then .int .i64 ((k0 + k * 3 + 1 : Nat) : Int) else if j = k * 4 then .int .i64 ((k0 + k * 3 : Nat) : Int) else rowM k0 z k j := by
  unfold rowM
  by_cases h : j < k * 4
  · have e3 : ¬ j = k * 4 + 3 := by omega
    have e1 : ¬ j = k * 4 + 1 := by omega
    have e0 : ¬ j = k * 4 := by omega
    have h' : j < (k + 1) * 4 := by omega
    simp only [e3, e1, e0, h, h', if_true, if_false]
  · by_cases h' : j < (k + 1) * 4
    · have hd : j / 4 = k := by omega
      have hj : j = k * 4 ∨ j = k * 4 + 1 ∨ j = k * 4 + 2 ∨ j = k * 4 + 3 := by omega
      rcases hj with e | e | e | e
      · rw [if_pos h', if_pos (by omega), if_neg (by omega), if_neg (by omega), if_pos e, hd]
      · rw [if_pos h', if_neg (by omega), if_pos (by omega), if_neg (by omega), if_pos e, hd]
      · rw [if_pos h', if_neg (by omega), if_neg (by omega), if_pos (by omega), if_neg (by omega), if_neg (by omega), if_neg (by omega), if_neg h, e, hz]
      · rw [if_pos h', if_neg (by omega), if_neg (by omega), if_neg (by omega), if_pos e, hd]
    · rw [if_neg h', if_neg (by omega), if_neg (by omega), if_neg (by omega), if_neg h]
set_option maxRecDepth 20000 in
set_option maxHeartbeats 2000000 in
theorem markCs_row (n k0 b c : Nat) (z : Nat → Value) (hn : n ≤ 1048576) (hk1 : k0 ≤ 10000000) (m : Nat) (hm : n * 4 ≤ m) (hz : ∀ i, i < n → z (i * 4 + 2) = .slice none 0 0) (w : World) (h : w.rowIs b 102 m z) :
    Calls Tryd.prog 82 #[.slice (some ⟨b, 0, none⟩) n c, .int .i64 k0] w fun e w' => e = .returned (.int .i64 (k0 + n * 3 : Nat)) ∧ w'.rowIs b 102 m (rowM k0 z n) ∧ Save w w' (fun j => j = b) := by
  have HR0 := hid (h.congr (fun j hj => (show z j = rowM k0 z 0 j by simp [rowM])))
  have hbl := h.lt
  have HZ := hid hz
  clear h hz
  go_enter Tryd.func82, Tryd.ntmps82
  go_wp2_with fail
  go_loopw [1, 5] (fun t s wr => ∃ k : Nat, k ≤ n ∧ t = .int .i64 (k0 + k * 3 : Nat) ∧ s = .int .i64 k ∧ wr.rowIs b 102 m (rowM k0 z k) ∧ Save w wr (fun j => j = b)) (fun _ s _ => n - (intOf s).toNat)
  case atStart => exact ⟨0, Nat.zero_le _, rfl, rfl, HR0.out, Save.refl _ _⟩
  case round =>
    clear HR0
    obtain ⟨k, hk, rfl, rfl, hrow, hsv⟩ := hrel
    have HS := hid hsv
    have HRow := hid hrow
    have hsz := hrow.lt
    clear hrow hsv
    by_cases hlt : k < n
    · have HZk := hid (HZ.out k hlt)
      have d0 := HRow.out.cell (i := k * 4) (by omega)
      have d1 := HRow.out.cell (i := k * 4 + 1) (by omega)
      have d2' := HRow.out.cell (i := k * 4 + 2) (by omega)
      have d2 : wr.cell? ⟨b, k * 4 + 2, none⟩ = some (.slice none 0 0) := by rw [d2']; unfold rowM; rw [if_neg (by omega), HZk.out]
      have d3 := HRow.out.cell (i := k * 4 + 3) (by omega)
      have f0 := HRow.out.frozen
      have HMI := hid (fun (q : Nat) (hq : q ≤ 1000000000) w => markInt64S_any q 0 none 0 (by omega) hq w (Or.inl rfl))
      clear d2'
      go_wp2_with fail
      rw [show ((k0 : Int) + (k : Int) * 3 + 1 + 1) = ((k0 + k * 3 + 2 : Nat) : Int) by push_cast; omega]
      refine (HMI.out (k0 + k * 3 + 2) (by omega) _).mono ?_
      rintro e w1 ⟨rfl, _, hs1⟩
      have hno : ¬ OfT none b := fun h => by obtain ⟨q, e, _⟩ := h; cases e
      have HR1 := hid (((HRow.out.set (k * 4) _).set (k * 4 + 1) _).of_block (hs1.block b (by simpa using hsz) hno))
      have HS1 := hid (((HS.out.setCell (p := ⟨b, k * 4, none⟩) (fun _ => rfl) (.int .i64 ((k0 : Int) + (k : Int) * 3))).setCell (p := ⟨b, k * 4 + 1, none⟩) (fun _ => rfl) (.int .i64 ((k0 : Int) + (k : Int) * 3 + 1))).trans (hs1.mono (fun j _ h => by obtain ⟨q, e, _⟩ := h; cases e)))
      have e3 := HR1.out.cell (i := k * 4 + 3) (by omega)
      have f3 := HR1.out.frozen (k * 4 + 3)
      have HSt := hid (fun j => rowM_step k0 z k j HZk.out)
      clear hs1 d0 d1 d2 d3 f0 HMI
      go_wp2_with fail
      go_roundw
      case rel =>
        refine ⟨k + 1, by omega, by simp; omega, by go_num, (HR1.out.set (k * 4 + 3) _).congr (fun j hj => ?_), HS1.out.setCell (p := ⟨b, k * 4 + 3, none⟩) (fun _ => rfl) _⟩
        rw [HSt.out]
        split
        · congr 1
        · split
          · congr 1
          · split
            · congr 1
            · rfl
      case measure => simp [intOf]; omega
    · have hk' : k = n := by omega
      subst hk'
      go_wp2_with fail
      go_ret
      exact ⟨rfl, HRow.out, HS.out⟩
end Go.Proofs.YtljhokoojodjnaaDoor
namespace Go.Proofs.YtljhokoojodjnaaDoor
open Go.RowKit
set_option linter.unusedVariables false
set_option linter.unusedSimpArgs false
set_option maxRecDepth 20000 in
theorem eqRs_nil (a1 a2 : Option Addr) (c1 c2 : Nat) (w : World) :
    Calls Tryd.prog 33 #[.slice a1 0 c1, .slice a2 0 c2] w fun e w' => e = .returned (.bool true) ∧ w = w' := by
  go_enter Tryd.func33, Tryd.ntmps33
  go_wp2_with fail
  go_loopw [5] (fun t wr => t = .int .i64 0 ∧ w = wr) (fun _ _ => 0)
  case atStart => exact ⟨rfl, rfl⟩
  case round =>
    obtain ⟨rfl, rfl⟩ := hrel
    go_wp2_with fail
    go_ret
    exact ⟨rfl, rfl⟩
set_option maxRecDepth 20000 in
theorem markRs_nil (a : Option Addr) (k0 c : Nat) (w : World) :
    Calls Tryd.prog 63 #[.slice a 0 c, .int .i64 k0] w fun e w' => e = .returned (.int .i64 k0) ∧ w = w' := by
  go_enter Tryd.func63, Tryd.ntmps63
  go_wp2_with fail
  go_loopw [1, 5] (fun t s wr => t = .int .i64 k0 ∧ s = .int .i64 0 ∧ w = wr) (fun _ _ _ => 0)
  case atStart => exact ⟨rfl, rfl, rfl⟩
  case round =>
    obtain ⟨rfl, rfl, rfl⟩ := hrel
    go_wp2_with fail
    go_ret
    exact ⟨rfl, rfl⟩
set_option maxRecDepth 20000 in
theorem heldRs_nil (a : Option Addr) (k0 c : Nat) (w : World) :
    Calls Tryd.prog 65 #[.slice a 0 c, .int .i64 k0] w fun e w' => e = .returned (.int .i64 k0) ∧ w = w' := by
  go_enter Tryd.func65, Tryd.ntmps65
  go_wp2_with fail
  go_loopw [1, 5] (fun t s wr => t = .int .i64 k0 ∧ s = .int .i64 0 ∧ w = wr) (fun _ _ _ => 0)
  case atStart => exact ⟨rfl, rfl, rfl⟩
  case round =>
    obtain ⟨rfl, rfl, rfl⟩ := hrel
    go_wp2_with fail
    go_ret
    exact ⟨rfl, rfl⟩
set_option maxRecDepth 20000 in
set_option maxHeartbeats 2000000 in
theorem eqTabA (F : List Nd) (n : Nat) (hn : F.length = n) (a1 a2 : Option Addr) (d1 d2 : Nat) (cap : Int) (hl : n ≤ 1048576) (w : World) (n1 : NsA w a1 F) (n2 : NsA w a2 F) :
    Calls Tryd.prog 10 #[.agg #[.slice a1 n d1, .int .i64 cap, .slice none 0 0], .agg #[.slice a2 n d2, .int .i64 cap, .slice none 0 0]] w fun e w' => e = .returned (.bool true) ∧ Below w.heap.size w w' := by
  have HB0 := hid (bbelow2' w (.cells #[.slice a1 n d1, .int .i64 cap, .slice none 0 0] 31) (.cells #[.slice a2 n d2, .int .i64 cap, .slice none 0 0] 31))
  have N1 := hid (n1.on HB0.out)
  have N2 := hid (n2.on HB0.out)
  have HNS := hid (fun w h1 h2 => eqNs F n hn a1 a2 d1 d2 hl w h1 h2)
  have HRS := hid (fun w => eqRs_nil none none 0 0 w)
  clear n1 n2 hn
  have e1 : (cap != cap) = false := by simp
  go_enter Tryd.func10, Tryd.ntmps10
  go_wp2_with (first | (go_at_call 16; refine (HNS.out _ N1.out N2.out).mono ?_; rintro e w1 ⟨rfl, hb⟩; have HB1 := hid (HB0.out.trans (hb.mono (by simp; omega))); obtain ⟨hc, hf⟩ := bcell hb; have hz : w.heap.size + 2 ≤ w1.heap.size := (by have := hb.size; simp at this; omega); clear hb) | (go_at_call 33; refine (HRS.out _).mono ?_; rintro e w' ⟨rfl, rfl⟩))
  go_ret
  exact ⟨rfl, HB1.out⟩
set_option maxRecDepth 20000 in
set_option maxHeartbeats 2000000 in
theorem eqTOutA (F : List Nd) (n : Nat) (hn : F.length = n) (a1 a2 : Option Addr) (d1 d2 : Nat) (cap code : Int) (hl : n ≤ 1048576) (w : World) (n1 : NsA w a1 F) (n2 : NsA w a2 F) :
    Calls Tryd.prog 15 #[toV a1 n d1 cap none 0 0 false code, toV a2 n d2 cap none 0 0 false code] w fun e w' => e = .returned (.bool true) ∧ Below w.heap.size w w' := by
  unfold toV
  have HB0 := hid (bbelow2' w (.cells #[.slice a1 n d1, .int .i64 cap, .slice none 0 0, .bool false, .int .i64 code] 37) (.cells #[.slice a2 n d2, .int .i64 cap, .slice none 0 0, .bool false, .int .i64 code] 37))
  have HM := hid (fun w n1 n2 => eqTabA F n hn a1 a2 d1 d2 cap hl w n1 n2)
  have N1 := hid (n1.on HB0.out)
  have N2 := hid (n2.on HB0.out)
  clear n1 n2 hn
  have e1 : (code != code) = false := by simp
  go_enter Tryd.func15, Tryd.ntmps15
  go_wp2_with (go_at_call 10; refine (HM.out _ N1.out N2.out).mono ?_; rintro e w1 ⟨rfl, hb⟩; have HB1 := hid (HB0.out.trans (hb.mono (by simp; omega))); obtain ⟨hc, hf⟩ := bcell hb; have hz : w.heap.size + 2 ≤ w1.heap.size := (by have := hb.size; simp at this; omega); clear hb)
  go_ret
  exact ⟨rfl, HB1.out⟩
set_option maxRecDepth 20000 in
set_option maxHeartbeats 2000000 in
theorem markTabA (F : List Nd) (fa : Option Addr) (fc : Nat) (cap : Int) (hl : F.length ≤ 1000000) (w : World) (hap : ∀ q, fa = some q → q.block < w.heap.size) (hf : RowA w fa F.length) :
    Calls Tryd.prog 40 #[.agg #[.slice fa F.length fc, .int .i64 cap, .slice none 0 0], .int .i64 1] w fun e w' => e = .returned (.int .i64 (1 + F.length * 6 : Nat)) ∧ NsA w' fa (markN 1 F.length) ∧ Save w w' (OfB fa) := by
  have HX0 := hid (TBox.new w fa F.length fc cap none 0 0 31)
  have HB0 := hid (below_one' w (.cells #[.slice fa F.length fc, .int .i64 cap, .slice none 0 0] 31))
  have HF := hid (hf.on HB0.out)
  have HAp := hid hap
  have HMN := hid (fun w h => markNs F.length fa fc (by omega) w h)
  have hS0 : Hid (Save w (w.alloc (.cells #[.slice fa F.length fc, .int .i64 cap, .slice none 0 0] 31)) (OfB fa)) := Save.alloc (Save.refl w _) _
  have HRS := hid (fun (k : Nat) w => markRs_nil none k 0 w)
  clear hf hap
  go_enter Tryd.func40, Tryd.ntmps40
  go_wp2_with (first | (go_at_call 17; refine (HMN.out _ HF.out).mono ?_; rintro e w1 ⟨rfl, hn1, hs1⟩; have HN1 := hid hn1; have HS1 := hid (hS0.out.trans hs1); obtain ⟨_, m0, m1, m2⟩ := HX0.out.save hs1 (fun h => by obtain ⟨p, e2, h⟩ := h; have := HAp.out p e2; omega); clear hn1 hs1) | (go_at_call 63; refine (HRS.out (1 + F.length * 6) _).mono ?_; rintro e w' ⟨rfl, rfl⟩))
  go_ret
  exact ⟨rfl, HN1.out, HS1.out⟩
set_option maxRecDepth 20000 in
set_option maxHeartbeats 2000000 in
theorem markTOutA (F : List Nd) (fa : Option Addr) (fc : Nat) (cap code : Int) (hl : F.length ≤ 1000000) (w : World) (hap : ∀ q, fa = some q → q.block < w.heap.size) (hf : RowA w fa F.length) :
    Calls Tryd.prog 18 #[toV fa F.length fc cap none 0 0 false code, .int .i64 1] w fun e w' => e = .returned (.int .i64 (1 + F.length * 6 : Nat)) ∧ NsA w' fa (markN 1 F.length) ∧ Save w w' (OfB fa) := by
  unfold toV
  have HB0 := hid (below_one' w (.cells #[.slice fa F.length fc, .int .i64 cap, .slice none 0 0, .bool false, .int .i64 code] 37))
  have HMM := hid (markTabA F fa fc cap hl _ (fun q e => Nat.lt_of_lt_of_le (hap q e) HB0.out.size) (hf.on HB0.out))
  have hS0 : Hid (Save w (w.alloc (.cells #[.slice fa F.length fc, .int .i64 cap, .slice none 0 0, .bool false, .int .i64 code] 37)) (OfB fa)) := Save.alloc (Save.refl w _) _
  clear hf hap
  go_enter Tryd.func18, Tryd.ntmps18
  go_wp2_with (go_at_call 40; refine HMM.out.mono ?_; rintro e w1 ⟨rfl, hn1, hs1⟩; have HN1 := hid hn1; have HS1 := hid (hS0.out.trans hs1); clear hn1 hs1)
  go_ret
  exact ⟨rfl, HN1.out, HS1.out⟩
set_option maxRecDepth 20000 in
set_option maxHeartbeats 2000000 in
theorem heldTabA (n : Nat) (fa : Option Addr) (fc : Nat) (cap : Int) (hl : n ≤ 1000000) (w : World) (hf : NsA w fa (markN 1 n)) :
    Calls Tryd.prog 41 #[.agg #[.slice fa n fc, .int .i64 cap, .slice none 0 0], .int .i64 1] w fun e w' => e = .returned (.int .i64 (1 + n * 6 : Nat)) ∧ Below w.heap.size w w' := by
  have HB0 := hid (below_one' w (.cells #[.slice fa n fc, .int .i64 cap, .slice none 0 0] 31))
  have HX0 := hid (TBox.new w fa n fc cap none 0 0 31)
  have HF := hid (hf.on HB0.out)
  have HMN := hid (fun w h => heldNs n fa fc (by omega) w h)
  have HRS := hid (fun (k : Nat) w => heldRs_nil none k 0 w)
  have hk1 : ¬ (((1 + n * 6 : Nat) : Int) < 0) := by omega
  clear hf
  go_enter Tryd.func41, Tryd.ntmps41
  go_wp2_with (first | (go_at_call 64; refine (HMN.out _ HF.out).mono ?_; rintro e w1 ⟨rfl, hb1⟩; have HB1 := hid (HB0.out.trans (hb1.mono HB0.out.size)); obtain ⟨_, m0, m1, m2⟩ := HX0.out.on hb1; clear hb1) | (go_at_call 65; refine (HRS.out (1 + n * 6) _).mono ?_; rintro e w' ⟨rfl, rfl⟩))
  go_ret
  exact ⟨rfl, HB1.out⟩
set_option maxRecDepth 20000 in
set_option maxHeartbeats 2000000 in
theorem heldTOutA (n : Nat) (fa : Option Addr) (fc : Nat) (cap code : Int) (hl : n ≤ 1000000) (w : World) (hf : NsA w fa (markN 1 n)) :
    Calls Tryd.prog 19 #[toV fa n fc cap none 0 0 false code, .int .i64 1] w fun e w' => e = .returned (.int .i64 (1 + n * 6 : Nat)) ∧ Below w.heap.size w w' := by
  unfold toV
  have HB0 := hid (below_one' w (.cells #[.slice fa n fc, .int .i64 cap, .slice none 0 0, .bool false, .int .i64 code] 37))
  have HMM := hid (heldTabA n fa fc cap hl _ (hf.on HB0.out))
  have hk1 : ¬ (((1 + n * 6 : Nat) : Int) < 0) := by omega
  clear hf
  go_enter Tryd.func19, Tryd.ntmps19
  go_wp2_with (go_at_call 41; refine HMM.out.mono ?_; rintro e w1 ⟨rfl, hb1⟩; have HB1 := hid (HB0.out.trans (hb1.mono HB0.out.size)); clear hb1)
  go_ret
  exact ⟨rfl, HB1.out⟩
/-- A row of nodes that the law holds. -/
structure XRw (w : World) (b : Nat) (f : List Nd) : Prop where
  at' : NodesAt w b f
  row : RowA w (some ⟨b, 0, none⟩) f.length
theorem XRw.on {w w' : World} {b : Nat} {f : List Nd} (h : XRw w b f) (hb : Below w.heap.size w w') : XRw w' b f := ⟨h.at'.below hb h.at'.1, h.row.on hb⟩
theorem tnF_len (f : List Nd) (most : Int) (h : f.length ≤ 1048576) : (tnF f most).length ≤ 1000000 := by
  by_cases h4 : 400 < f.length
  · rw [(tn_no (tnCode_size h4) (by omega)).1]; simp
  · unfold tnF
    split
    · omega
    · simp
theorem ofB_one {b j : Nat} (h : OfB (some ⟨b, 0, none⟩) j) : j = b := by
  obtain ⟨q, e, h⟩ := h
  injection e with e
  subst e
  exact h.symm
end Go.Proofs.YtljhokoojodjnaaDoor
namespace Go.Proofs.YtljhokoojodjnaaDoor
open Go.RowKit
set_option linter.unusedVariables false
set_option linter.unusedSimpArgs false
set_option maxRecDepth 20000 in
set_option maxHeartbeats 8000000 in
theorem walkTabN (a : Option Addr) (cap : Nat) (f : List Nd) (most : Int) (w : World) (hI : InN w a cap f) (hkw : Kw w) (hg : 1 < w.heap.size) :
    Calls Tryd.prog 4 #[.slice a f.length cap, .int .i64 most] w fun e w' => e = .returned (.bool true) ∧ Below w.heap.size w w' := by
  have HI := hid hI
  have HK := hid hkw
  have HU : Hid (∀ fa fn fc cap ra rn rc yes code, toV fa fn fc cap ra rn rc yes code = .agg #[.slice fa fn fc, .int .i64 cap, .slice ra rn rc, .bool yes, .int .i64 code]) := fun _ _ _ _ _ _ _ _ _ => rfl
  clear hI hkw
  go_enter Tryd.func4, Tryd.ntmps4
  go_wp2_with fail
  refine (szNodeS_any f a cap (fun i hi => (HI.out.ok i hi).nm) HI.out.len _ HI.out.arg).mono ?_
  rintro e w1 ⟨r, rfl, hr, hb1⟩
  have HB1 := hid hb1
  have hz1 := hb1.size
  by_cases hr0 : r < 0
  · clear hb1 hr
    go_wp2_with fail
    go_ret
    exact ⟨rfl, HB1.out⟩
  obtain ⟨hl, _⟩ := hr (by omega)
  clear hb1 hr
  obtain ⟨F, hF⟩ : ∃ F, tnF f most = F := ⟨_, rfl⟩
  obtain ⟨CA, hCA⟩ : ∃ CA, tnC f most = CA := ⟨_, rfl⟩
  obtain ⟨code, hcode⟩ : ∃ code, tnCode f most = code := ⟨_, rfl⟩
  have hFl : F.length ≤ 1000000 := by rw [← hF]; exact tnF_len f most hl
  have HTN := hid (fun w h => toNodeS_row f a cap hl w h)
  have HSN := hid (fun b w h => specTNew_any f b f.length most w h HI.out.ok hl F CA code hF hCA hcode)
  have HIN := hid (fun b w h hk hg => implTNew_any f b f.length most w h HI.out.ok hl hk hg F CA code hF hCA hcode)
  have HEQ := hid (fun a1 a2 d1 d2 w n1 n2 => eqTOutA F F.length rfl a1 a2 d1 d2 CA code (by omega) w n1 n2)
  have HHO := hid (fun fa fc w h1 => heldTOutA F.length fa fc CA code hFl w h1)
  simp only [HU.out] at HSN HIN HEQ HHO
  clear hF hcode hCA
  go_wp2_with fail
  refine (HTN.out _ (HI.out.arg.below HB1.out (Nat.le_refl _))).mono ?_
  rintro e w2 ⟨b2, rfl, hb2, hn2, _, _, hbl2⟩
  have HB2 := hid (HB1.out.trans (hbl2.mono (by omega)))
  have hz2 := hbl2.size
  have XA2 := hid hn2
  clear hn2
  clear hbl2
  go_wp2_with fail
  refine (HSN.out b2 _ XA2.out).mono ?_
  rintro e w3 ⟨fa0, fc0, rfl, hn3, hf3, hbl3⟩
  have HB3 := hid (HB2.out.trans (hbl3.mono (by omega)))
  have hz3 := hbl3.size
  have NW3 := hid hn3
  have HF0 := hid hf3
  clear hn3 hf3
  clear hbl3
  go_wp2_with fail
  have hbl4 := below_one' w3 (.cells #[.slice fa0 F.length fc0, .int .i64 CA, .slice none 0 0, .bool false, .int .i64 code] 37)
  have HB4 := hid (HB3.out.trans (hbl4.mono (by omega)))
  have NW4 := hid (NW3.out.on hbl4)
  have HW4 := hid (UBox.new w3 fa0 F.length fc0 CA none 0 0 false code 37)
  have hz4 : w3.heap.size < (w3.alloc (.cells #[.slice fa0 F.length fc0, .int .i64 CA, .slice none 0 0, .bool false, .int .i64 code] 37)).heap.size := by simp
  clear hbl4
  generalize w3.alloc (.cells #[.slice fa0 F.length fc0, .int .i64 CA, .slice none 0 0, .bool false, .int .i64 code] 37) = w4 at *
  refine (HTN.out _ (HI.out.arg.below HB4.out (Nat.le_refl _))).mono ?_
  rintro e w5 ⟨b5, rfl, hb5, hn5, ⟨z5, hr5⟩, _, hbl5⟩
  have HB5 := hid (HB4.out.trans (hbl5.mono (by omega)))
  have hz5 := hbl5.size
  have NW5 := hid (NW4.out.on hbl5)
  have HW5 := hid (HW4.out.on hbl5)
  have XX5 := hid (show XRw _ b5 f from ⟨hn5, Or.inr ⟨b5, _, z5, rfl, Nat.le_refl _, hr5⟩⟩)
  have hb5l := hn5.1
  clear hn5 hr5
  clear hbl5
  go_wp2_with fail
  refine (HIN.out b5 _ XX5.out.at' (HK.out.below HB5.out hg) (by omega)).mono ?_
  rintro e w6 ⟨ga, gc, rfl, hn6, hr6, hf6, hbl6⟩
  have HB6 := hid (HB5.out.trans (hbl6.mono (by omega)))
  have hz6 := hbl6.size
  have NW6 := hid (NW5.out.on hbl6)
  have HW6 := hid (HW5.out.on hbl6)
  have XX6 := hid (XX5.out.on hbl6)
  have NG6 := hid hn6
  have RG6 := hid hr6
  have HGf := hid hf6
  clear hn6 hr6 hf6
  clear hbl6
  obtain ⟨u0, c00, c01, c02, c03, c04⟩ := HW6.out
  go_wp2_with fail
  have hbl7 := below_one' w6 (.cells #[.slice ga F.length gc, .int .i64 CA, .slice none 0 0, .bool false, .int .i64 code] 37)
  have HB7 := hid (HB6.out.trans (hbl7.mono (by omega)))
  have NW7 := hid (NW6.out.on hbl7)
  have HW7 := hid (HW6.out.on hbl7)
  have XX7 := hid (XX6.out.on hbl7)
  have NG7 := hid (NG6.out.on hbl7)
  have RG7 := hid (RG6.out.on hbl7)
  have HG7 := hid (UBox.new w6 ga F.length gc CA none 0 0 false code 37)
  have hz7 : w6.heap.size < (w6.alloc (.cells #[.slice ga F.length gc, .int .i64 CA, .slice none 0 0, .bool false, .int .i64 code] 37)).heap.size := by simp
  clear hbl7
  generalize w6.alloc (.cells #[.slice ga F.length gc, .int .i64 CA, .slice none 0 0, .bool false, .int .i64 code] 37) = w7 at *
  refine (HEQ.out ga fa0 gc fc0 _ NG7.out NW7.out).mono ?_
  rintro e w8 ⟨rfl, hbl8⟩
  have HB8 := hid (HB7.out.trans (hbl8.mono (by omega)))
  have hz8 := hbl8.size
  have NW8 := hid (NW7.out.on hbl8)
  have HW8 := hid (HW7.out.on hbl8)
  have XX8 := hid (XX7.out.on hbl8)
  have NG8 := hid (NG7.out.on hbl8)
  have RG8 := hid (RG7.out.on hbl8)
  have HG8 := hid (HG7.out.on hbl8)
  clear hbl8
  clear u0 c00 c01 c02 c03 c04
  go_wp2_with fail
  refine (HTN.out _ (HI.out.arg.below HB8.out (Nat.le_refl _))).mono ?_
  rintro e w9 ⟨b9, rfl, hb9, hn9, _, _, hbl9⟩
  have HB9 := hid (HB8.out.trans (hbl9.mono (by omega)))
  have hz9 := hbl9.size
  have NW9 := hid (NW8.out.on hbl9)
  have HW9 := hid (HW8.out.on hbl9)
  have XX9 := hid (XX8.out.on hbl9)
  have NG9 := hid (NG8.out.on hbl9)
  have RG9 := hid (RG8.out.on hbl9)
  have HG9 := hid (HG8.out.on hbl9)
  have XB9 := hid hn9
  clear hn9
  clear hbl9
  go_wp2_with fail
  refine (eqNodeS_same f b5 b9 f.length f.length hl _ XX9.out.at' XB9.out).mono ?_
  rintro e w10 ⟨rfl, hbl10⟩
  have HB10 := hid (HB9.out.trans (hbl10.mono (by omega)))
  have hz10 := hbl10.size
  have NW10 := hid (NW9.out.on hbl10)
  have HW10 := hid (HW9.out.on hbl10)
  have XX10 := hid (XX9.out.on hbl10)
  have NG10 := hid (NG9.out.on hbl10)
  have RG10 := hid (RG9.out.on hbl10)
  have HG10 := hid (HG9.out.on hbl10)
  clear hbl10
  go_wp2_with fail
  refine (markNs f.length (some ⟨b5, 0, none⟩) f.length hl _ XX10.out.row).mono ?_
  rintro e w11 ⟨rfl, _, hs11⟩
  have HB11 := hid (HB10.out.trans (hs11.below (B := w.heap.size) (by omega) (fun j hj => by have := ofB_one hj; omega)))
  have hz11 := hs11.size
  have NW11 := hid (NW10.out.save hs11 (fun q e h => by have := ofB_one h; have := HF0.out q e; omega))
  have HW11 := hid (HW10.out.save hs11 (fun h => by have := ofB_one h; omega))
  have NG11 := hid (NG10.out.save hs11 (fun q e h => by have := ofB_one h; have := HGf.out q e; omega))
  have RG11 := hid (RG10.out.save hs11 (fun q e h => by have := ofB_one h; have := HGf.out q e; omega))
  have HG11 := hid (HG10.out.save hs11 (fun h => by have := ofB_one h; omega))
  clear hs11
  have hk0 : ¬ ((1 + f.length * 6 : Nat) : Int) < 0 := by omega
  obtain ⟨u0, c00, c01, c02, c03, c04⟩ := HG11.out
  obtain ⟨u1, c10, c11, c12, c13, c14⟩ := HW11.out
  go_wp2_with fail
  refine (HEQ.out ga fa0 gc fc0 _ NG11.out NW11.out).mono ?_
  rintro e w12 ⟨rfl, hbl12⟩
  have HB12 := hid (HB11.out.trans (hbl12.mono (by omega)))
  have hz12 := hbl12.size
  have NW12 := hid (NW11.out.on hbl12)
  have HW12 := hid (HW11.out.on hbl12)
  have NG12 := hid (NG11.out.on hbl12)
  have RG12 := hid (RG11.out.on hbl12)
  have HG12 := hid (HG11.out.on hbl12)
  clear hbl12 u0 c00 c01 c02 c03 c04 u1 c10 c11 c12 c13 c14
  have HMO := hid (markTOutA F ga gc CA code hFl w12 (fun q e => by have := HGf.out q e; omega) RG12.out)
  rw [HU.out] at HMO
  obtain ⟨u0, c00, c01, c02, c03, c04⟩ := HG12.out
  go_wp2_with fail
  refine (HMO.out).mono ?_
  rintro e w13 ⟨rfl, hn13, hs13⟩
  have HB13 := hid (HB12.out.trans (hs13.below (B := w.heap.size) (by omega) (fun j hj => by obtain ⟨p, e2, h⟩ := hj; (have := HGf.out p e2; omega))))
  have hz13 := hs13.size
  have NW13 := hid (NW12.out.save hs13 (fun q e h => by obtain ⟨p, e2, h⟩ := h; exact absurd h (by have := HGf.out p e2; have := HF0.out q e; omega)))
  have HW13 := hid (HW12.out.save hs13 (fun h => by obtain ⟨p, e2, h⟩ := h; exact absurd h (by have := HGf.out p e2; omega)))
  have HG13 := hid (HG12.out.save hs13 (fun h => by obtain ⟨p, e2, h⟩ := h; exact absurd h (by have := HGf.out p e2; omega)))
  have NM13 := hid hn13
  clear hn13
  clear hs13 u0 c00 c01 c02 c03 c04
  obtain ⟨u0, c00, c01, c02, c03, c04⟩ := HG13.out
  go_wp2_with fail
  refine (HHO.out ga gc _ NM13.out).mono ?_
  rintro e w14 ⟨rfl, hbl14⟩
  have HB14 := hid (HB13.out.trans (hbl14.mono (by omega)))
  have hz14 := hbl14.size
  have NW14 := hid (NW13.out.on hbl14)
  have HW14 := hid (HW13.out.on hbl14)
  have HG14 := hid (HG13.out.on hbl14)
  have NM14 := hid (NM13.out.on hbl14)
  clear hbl14 u0 c00 c01 c02 c03 c04
  have hq0 : ¬ ((1 + F.length * 6 : Nat) : Int) < 0 := by omega
  go_wp2_with fail
  refine (HTN.out _ (HI.out.arg.below HB14.out (Nat.le_refl _))).mono ?_
  rintro e w15 ⟨b15, rfl, hb15, hn15, _, _, hbl15⟩
  have HB15 := hid (HB14.out.trans (hbl15.mono (by omega)))
  have hz15 := hbl15.size
  have NW15 := hid (NW14.out.on hbl15)
  have HW15 := hid (HW14.out.on hbl15)
  have HG15 := hid (HG14.out.on hbl15)
  have NM15 := hid (NM14.out.on hbl15)
  have XC15 := hid hn15
  clear hn15
  clear hbl15
  go_wp2_with fail
  refine (HIN.out b15 _ XC15.out (HK.out.below HB15.out hg) (by omega)).mono ?_
  rintro e w16 ⟨ha, hc, rfl, hn16, _, _, hbl16⟩
  have HB16 := hid (HB15.out.trans (hbl16.mono (by omega)))
  have hz16 := hbl16.size
  have NW16 := hid (NW15.out.on hbl16)
  have HW16 := hid (HW15.out.on hbl16)
  have HG16 := hid (HG15.out.on hbl16)
  have NM16 := hid (NM15.out.on hbl16)
  have NH16 := hid hn16
  clear hn16
  clear hbl16
  obtain ⟨u0, c00, c01, c02, c03, c04⟩ := HW16.out
  go_wp2_with fail
  have hbl17 := below_one' w16 (.cells #[.slice ha F.length hc, .int .i64 CA, .slice none 0 0, .bool false, .int .i64 code] 37)
  have HB17 := hid (HB16.out.trans (hbl17.mono (by omega)))
  have NW17 := hid (NW16.out.on hbl17)
  have HW17 := hid (HW16.out.on hbl17)
  have HG17 := hid (HG16.out.on hbl17)
  have NM17 := hid (NM16.out.on hbl17)
  have NH17 := hid (NH16.out.on hbl17)
  have HH17 := hid (UBox.new w16 ha F.length hc CA none 0 0 false code 37)
  have hz17 : w16.heap.size < (w16.alloc (.cells #[.slice ha F.length hc, .int .i64 CA, .slice none 0 0, .bool false, .int .i64 code] 37)).heap.size := by simp
  clear hbl17
  generalize w16.alloc (.cells #[.slice ha F.length hc, .int .i64 CA, .slice none 0 0, .bool false, .int .i64 code] 37) = w17 at *
  refine (HEQ.out ha fa0 hc fc0 _ NH17.out NW17.out).mono ?_
  rintro e w18 ⟨rfl, hbl18⟩
  have HB18 := hid (HB17.out.trans (hbl18.mono (by omega)))
  have hz18 := hbl18.size
  have NW18 := hid (NW17.out.on hbl18)
  have HW18 := hid (HW17.out.on hbl18)
  have HG18 := hid (HG17.out.on hbl18)
  have NM18 := hid (NM17.out.on hbl18)
  have NH18 := hid (NH17.out.on hbl18)
  have HH18 := hid (HH17.out.on hbl18)
  clear hbl18
  clear u0 c00 c01 c02 c03 c04
  obtain ⟨u0, c00, c01, c02, c03, c04⟩ := HG18.out
  go_wp2_with fail
  refine (HHO.out ga gc _ NM18.out).mono ?_
  rintro e w19 ⟨rfl, hbl19⟩
  have HB19 := hid (HB18.out.trans (hbl19.mono (by omega)))
  have hz19 := hbl19.size
  have NW19 := hid (NW18.out.on hbl19)
  have HW19 := hid (HW18.out.on hbl19)
  have HG19 := hid (HG18.out.on hbl19)
  have NM19 := hid (NM18.out.on hbl19)
  have NH19 := hid (NH18.out.on hbl19)
  have HH19 := hid (HH18.out.on hbl19)
  clear hbl19 u0 c00 c01 c02 c03 c04
  go_wp2_with fail
  go_ret
  exact ⟨rfl, HB19.out⟩
end Go.Proofs.YtljhokoojodjnaaDoor
