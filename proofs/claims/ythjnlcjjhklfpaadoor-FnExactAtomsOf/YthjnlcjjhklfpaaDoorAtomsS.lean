/-
  AtomsOf: plain facts; the model's l02PutName by its contract. (Under way.)
-/
import Derived.Test.YthjnlcjjhklfpaaDoorInN
import Derived.Test.YthjnlcjjhklfpaaDoorClD
namespace Go.Proofs.YthjnlcjjhklfpaaDoor
open Go.RowKit
set_option linter.unusedVariables false
set_option linter.unusedSimpArgs false
theorem ownsRow_lower {w : World} {base base' : Nat} {e : TypeId} {size : Nat} {v : Value} {n : Nat} {xs : List Value} (h : w.ownsRow base e size v n xs) (hb : base' ≤ base) : w.ownsRow base' e size v n xs :=
  ⟨h.1, h.2.imp id (fun ⟨g, cap, cur, a, b, c⟩ => ⟨g, cap, cur, a, Nat.le_trans hb b, c⟩)⟩
theorem rightB_three (f : List Nd) (h : rightB f = true) : 1 ≤ f.length ∧ f.length ≤ 24 ∧ goodTo f f.length = true := by
  simp only [rightB, Bool.and_eq_true, decide_eq_true_eq] at h
  exact ⟨h.1.1, h.1.2, h.2.1⟩
/-- A row of texts that the call owns. -/
def OwnsT (w : World) (base : Nat) (v : Value) (S : List ByteArray) : Prop := w.ownsRow base 9 1 v S.length (S.map Value.string)
theorem OwnsT.form {w : World} {base : Nat} {v : Value} {S : List ByteArray} (h : OwnsT w base v S) : ∃ a c, v = .slice a S.length c ∧ (0 < S.length → ∃ g, a = some ⟨g, 0, none⟩ ∧ base ≤ g ∧ g < w.heap.size ∧ ∀ j, j < S.length → w.cell? ⟨g, j, none⟩ = some (.string (txAt S j))) := by
  rcases h.2 with ⟨hv, h0⟩ | ⟨g, cap, cur, hv, hb, hg, _⟩
  · exact ⟨none, 0, by rw [hv, h0], fun h => by omega⟩
  · refine ⟨some ⟨g, 0, none⟩, cap, hv, fun _ => ⟨g, rfl, hb, (Array.getElem?_eq_some_iff.1 hg).1, fun j hj => ?_⟩⟩
    have h1 := World.ownsRow.cells h (g := g) (by rw [hv]; rfl) j (.string (txAt S j)) (by simp [hj, txAt, List.getD])
    rw [Addr.add_lit] at h1
    simpa using h1
/-- How many of the first texts are lower. -/
def lowN (t : ByteArray) : List ByteArray → Nat
  | [] => 0
  | x :: S => if Op.bytesLess x.toList t.toList = true then lowN t S + 1 else 0
def putN (S : List ByteArray) (t : ByteArray) : List ByteArray :=
  if lowN t S < S.length ∧ (txAt S (lowN t S)).toList = t.toList then S else S.take (lowN t S) ++ [t] ++ S.drop (lowN t S)
theorem lowN_eq (t : ByteArray) : ∀ (S : List ByteArray) (k : Nat), k ≤ S.length → (∀ j, j < k → Op.bytesLess (txAt S j).toList t.toList = true) → (k < S.length → Op.bytesLess (txAt S k).toList t.toList = false) → lowN t S = k := by
  intro S
  induction S with
  | nil => intro k hk _ _; simp at hk; subst hk; rfl
  | cons x S ih =>
    intro k hk h1 h2
    cases k with
    | zero =>
      have := h2 (by simp)
      have hx : Op.bytesLess x.toList t.toList = false := this
      simp [lowN, hx]
    | succ k =>
      have hx : Op.bytesLess x.toList t.toList = true := h1 0 (by omega)
      have := ih k (by simpa using hk) (fun j hj => h1 (j + 1) (by omega)) (fun h => h2 (by simpa using h))
      simp [lowN, hx, this]
theorem ownsT_made (w : World) (base : Nat) (h : base ≤ w.heap.size) : (w.alloc (.cells #[] 9)).ownsRow base 9 1 (.slice (some ⟨w.heap.size, 0, none⟩) 0 0) 0 [] :=
  ⟨rfl, Or.inr ⟨w.heap.size, 0, #[], rfl, h, blk_new w _, Nat.le_refl _, by unfold maxLen; omega, rfl, rfl⟩⟩
theorem Tryd.infoT : (Tryd.prog.info? 9).map (fun i => (i.zero, i.size, i.bytes)) = some (some (.string ⟨#[]⟩), 1, 16) := by kernel_rfl
theorem Tryd.uTs : Tryd.prog.underlying 29 = some (.slice 9) := by kernel_rfl
theorem txts_one (S : List ByteArray) : ∀ u ∈ S.map Value.string, u.oneCell' = true := by
  intro u hu
  obtain ⟨b, _, rfl⟩ := List.mem_map.1 hu
  rfl
theorem take_cells {W : World} {g : Nat} {S : List ByteArray} (h : ∀ j, j < S.length → W.cell? ⟨g, j, none⟩ = some (.string (txAt S j))) (k : Nat) : ∀ j u, ((S.take k).map Value.string)[j]? = some u → W.cell? ((⟨g, 0, none⟩ : Addr).add j) = some u := by
  intro j u hu
  rw [Addr.add_lit]
  have hj : j < (S.take k).length := by simpa using (List.getElem?_eq_some_iff.1 hu).1
  have hj2 : j < S.length := by simp at hj; omega
  rw [show 0 + j = j by omega, h j hj2]
  have hjk : j < k := by simp at hj; omega
  simp [List.getElem?_take, hjk, hj2] at hu
  simp [txAt, List.getD, hj2, hu]
theorem drop_cells {W : World} {g : Nat} {S : List ByteArray} (h : ∀ j, j < S.length → W.cell? ⟨g, j, none⟩ = some (.string (txAt S j))) (k : Nat) : ∀ j u, ((S.drop k).map Value.string)[j]? = some u → W.cell? ((⟨g, k, none⟩ : Addr).add j) = some u := by
  intro j u hu
  rw [Addr.add_lit]
  have hj : j < (S.drop k).length := by simpa using (List.getElem?_eq_some_iff.1 hu).1
  have hj2 : k + j < S.length := by simp at hj; omega
  rw [h (k + j) hj2]
  simp [hj2] at hu
  simp [txAt, List.getD, hj2, hu]
theorem World.size_alloc' (w : World) (o : Obj) : (w.alloc o).heap.size = w.heap.size + 1 := by simp
theorem cells_grown {W W' : World} {row : Option Nat} {g : Nat} {S : List ByteArray} (h : ∀ j, j < S.length → W.cell? ⟨g, j, none⟩ = some (.string (txAt S j))) (hg : W.grownBy W' row) (hl : g < W.heap.size) (hne : some g ≠ row) : ∀ j, j < S.length → W'.cell? ⟨g, j, none⟩ = some (.string (txAt S j)) :=
  fun j hj => (World.cell?_of_block (a := ⟨g, j, none⟩) (hg.block g hl hne)).trans (h j hj)
theorem cells_alloc {W : World} {g : Nat} {S : List ByteArray} (h : ∀ j, j < S.length → W.cell? ⟨g, j, none⟩ = some (.string (txAt S j))) (o : Obj) (hl : g < W.heap.size) : ∀ j, j < S.length → (W.alloc o).cell? ⟨g, j, none⟩ = some (.string (txAt S j)) :=
  fun j hj => by rw [World.cell?_alloc_past o g j hl]; exact h j hj
theorem own_high {W : World} {base : Nat} {e : TypeId} {size : Nat} {v : Value} {n : Nat} {xs : List Value} (h : W.ownsRow base e size v n xs) {g : Nat} (hg : g < base) : some g ≠ v.ownBlock := fun e => by
  have := (World.ownsRow.lt h g e.symm).1
  omega
/-- What three appends leave. -/
theorem putN_own {W : World} {base base' : Nat} {v : Value} {S : List ByteArray} {t : ByteArray} {k n : Nat} (hk : k ≤ S.length) (hn : n = 0 + k + 1 + (S.length - k)) (h : W.ownsRow base 9 1 v n ((([] : List Value) ++ (S.take k).map Value.string ++ [.string t]) ++ (S.drop k).map Value.string)) (hb : base' ≤ base) :
    ∃ g c, v = .slice (some ⟨g, 0, none⟩) (S.take k ++ [t] ++ S.drop k).length c ∧ OwnsT W base' v (S.take k ++ [t] ++ S.drop k) := by
  have hln : (S.take k ++ [t] ++ S.drop k).length = n := by simp; omega
  have hO : OwnsT W base' v (S.take k ++ [t] ++ S.drop k) := by
    unfold OwnsT
    rw [hln]
    simpa using ownsRow_lower h hb
  rcases h.2 with ⟨_, h0⟩ | ⟨g, cap, cur, hv, _⟩
  · omega
  · exact ⟨g, cap, by rw [hln]; exact hv, hO⟩
set_option maxRecDepth 20000 in
set_option maxHeartbeats 2000000 in
theorem putName_any (S : List ByteArray) (t : ByteArray) (g c base : Nat) (w : World) (hO : OwnsT w base (.slice (some ⟨g, 0, none⟩) S.length c) S) (hl : S.length ≤ 24) (hb : base ≤ w.heap.size) :
    Calls Tryd.prog 65 #[.slice (some ⟨g, 0, none⟩) S.length c, .string t] w fun e w' => ∃ g' c', e = .returned (.slice (some ⟨g', 0, none⟩) (putN S t).length c') ∧ OwnsT w' base (.slice (some ⟨g', 0, none⟩) (putN S t).length c') (putN S t) ∧ Below base w w' := by
  obtain ⟨a', c', e, hform⟩ := hO.form
  injection e with e1 e2 e3
  subst e1 e3
  have HO := hid hO
  have hcap : S.length ≤ c := by
    rcases hO.2 with ⟨e, _⟩ | ⟨_, _, _, e, _, _, h1, _⟩
    · injection e with e1; cases e1
    · injection e with _ _ e3; omega
  have hcap2 : c ≤ maxLen := by
    rcases hO.2 with ⟨e, _⟩ | ⟨_, _, _, e, _, _, _, h1, _⟩
    · injection e with e1; cases e1
    · injection e with _ _ e3; omega
  have hgb := World.ownsRow.lt hO g rfl
  have HC : Hid (∀ j, j < S.length → w.cell? ⟨g, j, none⟩ = some (.string (txAt S j))) := by
    intro j hj
    obtain ⟨g', e, _, _, h⟩ := hform (by omega)
    injection e with e; injection e with e; subst e
    exact h j hj
  clear hO hform e2
  obtain ⟨i0, hi, hz0, hz1, hz2⟩ := info_parts Tryd.infoT
  go_enter Tryd.func65, Tryd.ntmps65
  go_wp2_with fail
  go_loop [5] (fun s => ∃ k : Nat, k ≤ S.length ∧ s = .int .i64 k ∧ ∀ j, j < k → Op.bytesLess (txAt S j).toList t.toList = true) (fun s => S.length - (intOf s).toNat)
  case atStart => exact ⟨0, Nat.zero_le _, rfl, fun j h => by omega⟩
  case round =>
    obtain ⟨k, hk, rfl, hlow⟩ := hrel
    have HL := hid hlow
    clear hlow
    by_cases hlt : k < S.length
    · have hc := HC.out k hlt
      rcases Bool.eq_false_or_eq_true (Op.bytesLess (txAt S k).toList t.toList) with hless | hless
      · go_wp2_with fail
        go_round
        case rel => exact ⟨k + 1, by omega, by go_num, fun j hj => by
          by_cases e : j = k
          · subst e; exact hless
          · exact HL.out j (by omega)⟩
        case measure => simp [intOf]; omega
      · have HK := hid (lowN_eq t S k hk HL.out (fun _ => hless))
        rcases Bool.eq_false_or_eq_true ((txAt S k).toList == t.toList) with heq | heq
        · have HP : Hid (putN S t = S) := by
            show putN S t = S
            unfold putN
            rw [HK.out, if_pos ⟨hlt, by simpa using heq⟩]
          go_wp2_with fail
          go_ret
          exact ⟨g, c, by rw [HP.out]; rfl, by rw [HP.out]; exact HO.out, Below.refl _ _⟩
        · have HP : Hid (putN S t = S.take k ++ [t] ++ S.drop k) := by
            show putN S t = _
            unfold putN
            rw [HK.out, if_neg (fun h => by rw [h.2] at heq; simp at heq)]
          go_wp2_with (first | (at_builtin; refine wpList_append_own _ rfl _ _ 29 rfl w.heap.size 9 i0 _ 1 16 Tryd.uTs hi hz0 hz1 hz2 rfl (by decide) _ _ _ rfl (ownsT_made w _ (Nat.le_refl _)) ⟨g, 0, none⟩ k c ((S.take k).map Value.string) rfl (by simp; omega) (take_cells (cells_alloc HC.out _ hgb.2) k) (txts_one _) (by unfold maxLen; omega) (by omega) (by simp) ?_; intro v2 w2 hown2 hgrow2 _; have hz2' := hgrow2.size; simp only [World.size_alloc'] at hz2'; have HC2 := hid (cells_grown (cells_alloc HC.out _ hgb.2) hgrow2 (by simp; omega) (own_high (ownsT_made w _ (Nat.le_refl _)) hgb.2)); have HB2 := hid (((Below.refl base w).alloc hb _).grown hgrow2 (by simp; omega) (fun q hq => by have := (World.ownsRow.lt (ownsT_made w _ (Nat.le_refl _)) q hq).1; omega))) | (at_builtin; refine wpList_append_own _ rfl _ _ 29 rfl w.heap.size 9 i0 _ 1 16 Tryd.uTs hi hz0 hz1 hz2 rfl (by decide) _ _ _ rfl (hown2.alloc _) ⟨w2.heap.size, 0, none⟩ 1 1 [.string t] rfl rfl (cell_one _ _ _) (by simp [Value.oneCell']) (by unfold maxLen; omega) (by omega) (by simp; omega) ?_; intro v3 w3 hown3 hgrow3 _; have hz3' := hgrow3.size; simp only [World.size_alloc'] at hz3'; have HC3 := hid (cells_grown (cells_alloc HC2.out _ (by omega)) hgrow3 (by simp; omega) (own_high hown2 hgb.2)); have HB3 := hid ((HB2.out.alloc (by omega) _).grown hgrow3 (by simp; omega) (fun q hq => by have := (World.ownsRow.lt hown2 q hq).1; omega))) | (at_builtin; refine wpList_append_own _ rfl _ _ 29 rfl w.heap.size 9 i0 _ 1 16 Tryd.uTs hi hz0 hz1 hz2 rfl (by decide) _ _ _ rfl hown3 ⟨g, k, none⟩ (S.length - k) (c - k) ((S.drop k).map Value.string) rfl (by simp) (drop_cells HC3.out k) (txts_one _) (by unfold maxLen; omega) (by omega) (by omega) ?_; intro v4 w4 hown4 hgrow4 _; have HB4 := hid (HB3.out.grown hgrow4 (by omega) (fun q hq => by have := (World.ownsRow.lt hown3 q hq).1; omega))))
          obtain ⟨g4, c4, rfl, hO4⟩ := putN_own hk rfl hown4 hb
          go_ret
          exact ⟨g4, c4, by rw [HP.out]; rfl, by rw [HP.out]; exact hO4, HB4.out⟩
    · have HK := hid (lowN_eq t S k hk HL.out (fun h => absurd h hlt))
      have HP : Hid (putN S t = S.take k ++ [t] ++ S.drop k) := by
        show putN S t = _
        unfold putN
        rw [HK.out, if_neg (fun h => hlt h.1)]
      by_cases hck : c = k
      · subst hck
        go_wp2_with (first | (at_builtin; refine wpList_append_own _ rfl _ _ 29 rfl w.heap.size 9 i0 _ 1 16 Tryd.uTs hi hz0 hz1 hz2 rfl (by decide) _ _ _ rfl (ownsT_made w _ (Nat.le_refl _)) ⟨g, 0, none⟩ c c ((S.take c).map Value.string) rfl (by simp; omega) (take_cells (cells_alloc HC.out _ hgb.2) c) (txts_one _) (by unfold maxLen; omega) (by omega) (by simp) ?_; intro v2 w2 hown2 hgrow2 _; have hz2' := hgrow2.size; simp only [World.size_alloc'] at hz2'; have HC2 := hid (cells_grown (cells_alloc HC.out _ hgb.2) hgrow2 (by simp; omega) (own_high (ownsT_made w _ (Nat.le_refl _)) hgb.2)); have HB2 := hid (((Below.refl base w).alloc hb _).grown hgrow2 (by simp; omega) (fun q hq => by have := (World.ownsRow.lt (ownsT_made w _ (Nat.le_refl _)) q hq).1; omega))) | (at_builtin; refine wpList_append_own _ rfl _ _ 29 rfl w.heap.size 9 i0 _ 1 16 Tryd.uTs hi hz0 hz1 hz2 rfl (by decide) _ _ _ rfl (hown2.alloc _) ⟨w2.heap.size, 0, none⟩ 1 1 [.string t] rfl rfl (cell_one _ _ _) (by simp [Value.oneCell']) (by unfold maxLen; omega) (by omega) (by simp; omega) ?_; intro v3 w3 hown3 hgrow3 _; have hz3' := hgrow3.size; simp only [World.size_alloc'] at hz3'; have HC3 := hid (cells_grown (cells_alloc HC2.out _ (by omega)) hgrow3 (by simp; omega) (own_high hown2 hgb.2)); have HB3 := hid ((HB2.out.alloc (by omega) _).grown hgrow3 (by simp; omega) (fun q hq => by have := (World.ownsRow.lt hown2 q hq).1; omega))) | (at_builtin; refine wpList_append_own _ rfl _ _ 29 rfl w.heap.size 9 i0 _ 1 16 Tryd.uTs hi hz0 hz1 hz2 rfl (by decide) _ _ _ rfl hown3 ⟨g, 0, none⟩ 0 0 [] rfl rfl (fun j u hu => by simp at hu) (fun u hu => by cases hu) (by unfold maxLen; omega) (by omega) (by omega) ?_; intro v4 w4 hown4 hgrow4 _; have HB4 := hid (HB3.out.grown hgrow4 (by omega) (fun q hq => by have := (World.ownsRow.lt hown3 q hq).1; omega))))
        obtain ⟨g4, c4, rfl, hO4⟩ := putN_own (S := S) (t := t) (n := 0 + c + 1 + 0) (k := c) hk (by omega) (by rw [show (S.drop c).map Value.string = ([] : List Value) by rw [List.drop_eq_nil_of_le (by omega)]; rfl]; exact hown4) hb
        go_ret
        exact ⟨g4, c4, by rw [HP.out]; rfl, by rw [HP.out]; exact hO4, HB4.out⟩
      · have hck2 : k < c := by omega
        go_wp2_with (first | (at_builtin; refine wpList_append_own _ rfl _ _ 29 rfl w.heap.size 9 i0 _ 1 16 Tryd.uTs hi hz0 hz1 hz2 rfl (by decide) _ _ _ rfl (ownsT_made w _ (Nat.le_refl _)) ⟨g, 0, none⟩ k c ((S.take k).map Value.string) rfl (by simp; omega) (take_cells (cells_alloc HC.out _ hgb.2) k) (txts_one _) (by unfold maxLen; omega) (by omega) (by simp) ?_; intro v2 w2 hown2 hgrow2 _; have hz2' := hgrow2.size; simp only [World.size_alloc'] at hz2'; have HC2 := hid (cells_grown (cells_alloc HC.out _ hgb.2) hgrow2 (by simp; omega) (own_high (ownsT_made w _ (Nat.le_refl _)) hgb.2)); have HB2 := hid (((Below.refl base w).alloc hb _).grown hgrow2 (by simp; omega) (fun q hq => by have := (World.ownsRow.lt (ownsT_made w _ (Nat.le_refl _)) q hq).1; omega))) | (at_builtin; refine wpList_append_own _ rfl _ _ 29 rfl w.heap.size 9 i0 _ 1 16 Tryd.uTs hi hz0 hz1 hz2 rfl (by decide) _ _ _ rfl (hown2.alloc _) ⟨w2.heap.size, 0, none⟩ 1 1 [.string t] rfl rfl (cell_one _ _ _) (by simp [Value.oneCell']) (by unfold maxLen; omega) (by omega) (by simp; omega) ?_; intro v3 w3 hown3 hgrow3 _; have hz3' := hgrow3.size; simp only [World.size_alloc'] at hz3'; have HC3 := hid (cells_grown (cells_alloc HC2.out _ (by omega)) hgrow3 (by simp; omega) (own_high hown2 hgb.2)); have HB3 := hid ((HB2.out.alloc (by omega) _).grown hgrow3 (by simp; omega) (fun q hq => by have := (World.ownsRow.lt hown2 q hq).1; omega))) | (at_builtin; refine wpList_append_own _ rfl _ _ 29 rfl w.heap.size 9 i0 _ 1 16 Tryd.uTs hi hz0 hz1 hz2 rfl (by decide) _ _ _ rfl hown3 ⟨g, k, none⟩ (S.length - k) (c - k) ((S.drop k).map Value.string) rfl (by simp) (drop_cells HC3.out k) (txts_one _) (by unfold maxLen; omega) (by omega) (by omega) ?_; intro v4 w4 hown4 hgrow4 _; have HB4 := hid (HB3.out.grown hgrow4 (by omega) (fun q hq => by have := (World.ownsRow.lt hown3 q hq).1; omega))))
        obtain ⟨g4, c4, rfl, hO4⟩ := putN_own hk rfl hown4 hb
        go_ret
        exact ⟨g4, c4, by rw [HP.out]; rfl, by rw [HP.out]; exact hO4, HB4.out⟩
/-- The names of the first k nodes' atoms, put one by one. -/
def atomsTo (f : List Nd) : Nat → List ByteArray
  | 0 => []
  | k + 1 => if (ndAt f k).k = 2 then putN (atomsTo f k) (ndAt f k).nm else atomsTo f k
def atomsB (f : List Nd) : List ByteArray := if rightB f = true then atomsTo f f.length else []
theorem putN_len (S : List ByteArray) (t : ByteArray) : (putN S t).length ≤ S.length + 1 := by
  unfold putN
  split
  · omega
  · simp; omega
theorem atomsTo_len (f : List Nd) : ∀ k, (atomsTo f k).length ≤ k := by
  intro k
  induction k with
  | zero => simp [atomsTo]
  | succ k ih =>
    unfold atomsTo
    split
    · have := putN_len (atomsTo f k) (ndAt f k).nm; omega
    · omega
theorem ownsT_below {w w' : World} {base : Nat} {v : Value} {S : List ByteArray} (h : OwnsT w base v S) (hb : Below w.heap.size w w') : OwnsT w' base v S :=
  ⟨h.1, h.2.imp id (fun ⟨g, cap, cur, a, b, c, d⟩ => ⟨g, cap, cur, a, b, (hb.block g (Array.getElem?_eq_some_iff.1 c).1).trans c, d⟩)⟩
set_option maxRecDepth 20000 in
set_option maxHeartbeats 2000000 in
theorem specAtoms_any (f : List Nd) (b cap : Nat) (w : World) (hN : NodesAt w b f) (hok : ∀ i, i < f.length → ndOk (ndAt f i)) (hlen : f.length ≤ maxLen) :
    Calls Tryd.prog 19 #[.slice (some ⟨b, 0, none⟩) f.length cap] w fun e w' => ∃ g c, e = .returned (.slice (some ⟨g, 0, none⟩) (atomsB f).length c) ∧ OwnsT w' w.heap.size (.slice (some ⟨g, 0, none⟩) (atomsB f).length c) (atomsB f) ∧ Below w.heap.size w w' := by
  have HN := hid hN
  have HOk := hid hok
  have hb := hN.1
  clear hN hok
  rcases Bool.eq_false_or_eq_true (rightB f) with hr | hr
  · obtain ⟨hl1, hl2, _⟩ := rightB_three f hr
    have HE : Hid (atomsB f = atomsTo f f.length) := by show atomsB f = _; simp [atomsB, hr]
    go_enter Tryd.func19, Tryd.ntmps19
    go_wp2_with fail
    go_loopw [3, 4] (fun t s wr => ∃ k g c : Nat, k ≤ f.length ∧ s = .int .i64 k ∧ t = .slice (some ⟨g, 0, none⟩) (atomsTo f k).length c ∧ OwnsT wr w.heap.size t (atomsTo f k) ∧ Below w.heap.size w wr) (fun _ s _ => f.length - (intOf s).toNat)
    case atStart => exact ⟨0, w.heap.size, 0, Nat.zero_le _, rfl, rfl, ownsT_made w _ (Nat.le_refl _), (Below.refl _ _).alloc (Nat.le_refl _) _⟩
    case round =>
      obtain ⟨k, g, c, hk, rfl, rfl, hO, hbel⟩ := hrel
      have HB := hid hbel
      have HO := hid hO
      have hsz := hbel.size
      have hal := atomsTo_len f k
      clear hbel hO
      by_cases hlt : k < f.length
      · have HNr := hid (HN.out.below HB.out hb)
        have HC := hid (specRight_any f b cap wr HNr.out (fun i hi => (HOk.out i hi).nm) hlen)
        by_cases hk2 : (ndAt f k).k = 2
        · have HT : Hid (atomsTo f (k + 1) = putN (atomsTo f k) (ndAt f k).nm) := by
            show (if (ndAt f k).k = 2 then putN (atomsTo f k) (ndAt f k).nm else atomsTo f k) = _
            rw [if_pos hk2]
          go_wp2_with (first | (go_at_call 58; refine HC.out.mono ?_; rintro e w1 ⟨rfl, hb1⟩; have HB1 := hid (HB.out.trans (hb1.mono hsz)); have hz1 := hb1.size; have HO1 : Hid (OwnsT w1 w.heap.size (.slice (some ⟨g, 0, none⟩) (atomsTo f k).length c) (atomsTo f k)) := ownsT_below HO.out hb1; obtain ⟨c0, c1, c2, c3, c4, c5⟩ := (HN.out.2 k hlt).below HB1.out hb; rw [hk2] at c0; clear hb1 c1 c2 c3 c4) | (go_at_call 65; refine (putName_any (atomsTo f k) (ndAt f k).nm g c w.heap.size w1 HO1.out (by omega) (by omega)).mono ?_; rintro e w2 ⟨g2, cc2, rfl, hO2, hb2⟩; have HO2 := hid hO2; have HB2 := hid (HB1.out.trans hb2); clear hO2 hb2))
          go_roundw
          case rel => exact ⟨k + 1, g2, cc2, by omega, by go_num, by rw [HT.out], by rw [HT.out]; exact HO2.out, HB2.out⟩
          case measure => simp [intOf]; omega
        · have HT : Hid (atomsTo f (k + 1) = atomsTo f k) := by
            show (if (ndAt f k).k = 2 then putN (atomsTo f k) (ndAt f k).nm else atomsTo f k) = _
            rw [if_neg hk2]
          have hk3 : ((ndAt f k).k == 2) = false := by simpa using hk2
          go_wp2_with (go_at_call 58; refine HC.out.mono ?_; rintro e w1 ⟨rfl, hb1⟩; have HB1 := hid (HB.out.trans (hb1.mono hsz)); have hz1 := hb1.size; have HO1 : Hid (OwnsT w1 w.heap.size (.slice (some ⟨g, 0, none⟩) (atomsTo f k).length c) (atomsTo f k)) := ownsT_below HO.out hb1; obtain ⟨c0, c1, c2, c3, c4, c5⟩ := (HN.out.2 k hlt).below HB1.out hb; clear hb1 c1 c2 c3 c4)
          go_roundw
          case rel => exact ⟨k + 1, g, c, by omega, by go_num, by rw [HT.out], by rw [HT.out]; exact HO1.out, HB1.out⟩
          case measure => simp [intOf]; omega
      · have hk' : k = f.length := by omega
        subst hk'
        go_wp2_with fail
        go_ret
        exact ⟨g, c, by rw [HE.out]; rfl, by rw [HE.out]; exact HO.out, HB.out⟩
  · have HE : Hid (atomsB f = []) := by show atomsB f = _; simp [atomsB, hr]
    go_enter Tryd.func19, Tryd.ntmps19
    go_wp2_with fail
    go_loopw [3, 4] (fun t s wr => t = .slice (some ⟨w.heap.size, 0, none⟩) 0 0 ∧ s = .int .i64 0 ∧ OwnsT wr w.heap.size t [] ∧ Below w.heap.size w wr) (fun _ _ _ => 0)
    case atStart => exact ⟨rfl, rfl, ownsT_made w _ (Nat.le_refl _), (Below.refl _ _).alloc (Nat.le_refl _) _⟩
    case round =>
      obtain ⟨rfl, rfl, hO, hbel⟩ := hrel
      have HB := hid hbel
      have HO := hid hO
      have hsz := hbel.size
      have HNr := hid (HN.out.below hbel hb)
      have HC := hid (specRight_any f b cap wr HNr.out (fun i hi => (HOk.out i hi).nm) hlen)
      clear hbel hO
      by_cases h0 : 0 < f.length
      · go_wp2_with (go_at_call 58; refine HC.out.mono ?_; rintro e w1 ⟨rfl, hb1⟩; have HB1 := hid (HB.out.trans (hb1.mono hsz)); have HO1 : Hid (OwnsT w1 w.heap.size (.slice (some ⟨w.heap.size, 0, none⟩) 0 0) []) := ownsT_below HO.out hb1; clear hb1)
        go_ret
        exact ⟨_, 0, by rw [HE.out]; rfl, by rw [HE.out]; exact HO1.out, HB1.out⟩
      · have h1 : f.length = 0 := by omega
        go_wp2_with fail
        go_ret
        exact ⟨_, 0, by rw [HE.out]; rfl, by rw [HE.out]; exact HO.out, HB.out⟩
end Go.Proofs.YthjnlcjjhklfpaaDoor
