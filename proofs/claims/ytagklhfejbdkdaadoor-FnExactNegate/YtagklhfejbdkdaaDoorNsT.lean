/-
  Rows of nodes that a call owns or tells: plain facts, the laws' marks over them.
-/
import Derived.Test.YtagklhfejbdkdaaDoorFcA
import Derived.Test.YtagklhfejbdkdaaDoorMark
import Derived.Test.YtagklhfejbdkdaaDoorSlW
namespace Go.Proofs.YtagklhfejbdkdaaDoor
open Go.RowKit
set_option linter.unusedVariables false
set_option linter.unusedSimpArgs false
theorem eqIn_nil (w : World) (d : Nat) (t e : TypeId) (a : Addr) (l c : Nat) (h : Tryd.prog.underlying t = some (.slice e)) : (Op.equalIn (d + 1) t (.slice (some a) l c) (.slice none 0 0)).run Tryd.prog w = .ok false w := by
  simp [Op.equalIn, run_underlying h]
theorem equal_nil (w : World) (t e : TypeId) (a : Addr) (l c : Nat) (h : Tryd.prog.underlying t = some (.slice e)) : (Op.equal t (.slice (some a) l c) (.slice none 0 0)).run Tryd.prog w = .ok false w := eqIn_nil w 9999 t e a l c h
theorem eql_nil (w : World) (t e : TypeId) (a : Addr) (l c : Nat) (h : Tryd.prog.underlying t = some (.slice e)) : (binOp .eql t (.slice (some a) l c) (.slice none 0 0)).run Tryd.prog w = .ok (.bool false) w := by
  simp [binOp, equal_nil w t e a l c h]
theorem ownsN_none (w : World) (base : Nat) (h : base ≤ w.heap.size) : OwnsN (w.alloc (.cells #[] 46)) base (.slice (some ⟨w.heap.size, 0, none⟩) 0 0) [] :=
  World.ownsRow_made w #[] 0 h (by simp [maxLen]) (by simp)
theorem flatN_cells {W : World} {b : Nat} {f : List Nd} (h : NodesAt W b f) : ∀ j u, (flatN f)[j]? = some u → W.cell? ((⟨b, 0, none⟩ : Addr).add j) = some u := by
  intro j u hu
  have hj : j < f.length * 6 := by rw [← flatN_len]; exact (List.getElem?_eq_some_iff.1 hu).1
  have hi : j / 6 < f.length := by omega
  have e : j = j / 6 * 6 + j % 6 := by omega
  rw [e, flatN_get f (j / 6) (j % 6) hi (by omega)] at hu
  obtain ⟨c0, c1, c2, c3, c4, c5⟩ := h.2 (j / 6) hi
  rw [Addr.add_lit, Nat.zero_add]
  have hc : j % 6 = 0 ∨ j % 6 = 1 ∨ j % 6 = 2 ∨ j % 6 = 3 ∨ j % 6 = 4 ∨ j % 6 = 5 := by omega
  rw [e]
  generalize j / 6 = q at *
  generalize j % 6 = r at *
  rcases hc with rfl | rfl | rfl | rfl | rfl | rfl
  · simp [ndCells] at hu; rw [← hu]; exact c0
  · simp [ndCells] at hu; rw [← hu]; exact c1
  · simp [ndCells] at hu; rw [← hu]; exact c2
  · simp [ndCells] at hu; rw [← hu]; exact c3
  · simp [ndCells] at hu; rw [← hu]; exact c4
  · simp [ndCells] at hu; rw [← hu]; exact c5
theorem flatN_one (f : List Nd) : ∀ u ∈ flatN f, u.oneCell' = true := by
  intro u hu
  obtain ⟨x, _, hx⟩ := List.mem_flatMap.1 hu
  simp only [ndCells, List.mem_cons, List.not_mem_nil, or_false] at hx
  rcases hx with rfl | rfl | rfl | rfl | rfl | rfl <;> rfl
/-- A row of nodes that a call owns, as a row that may be longer. -/
theorem OwnsN.row {w : World} {base : Nat} {v : Value} {f : List Nd} (h : OwnsN w base v f) (h0 : 0 < f.length) : ∃ g c m z, v = .slice (some ⟨g, 0, none⟩) f.length c ∧ SlV (some ⟨g, 0, none⟩) f.length c ∧ base ≤ g ∧ f.length * 6 ≤ m ∧ w.rowIs g 46 m z ∧ (∀ i, i < f.length → z (i * 6 + 5) = .string (ndAt f i).nm) ∧ ∀ w' : World, w'.rowIs g 46 m z → NodesAt w' g f := by
  have hO := h
  rcases h.2 with ⟨_, h1⟩ | ⟨g, cap, cur, rfl, hb, hg, h1, h2, h3, h4⟩
  · omega
  · have hrow : w.rowIs g 46 cur.size (fun j => cur.getD j undef) := ⟨cur, hg, rfl, fun i hi => by simp [hi]⟩
    have hat := hO.at
    have key : ∀ i j v, i < f.length → j < 6 → w.cell? ⟨g, i * 6 + j, none⟩ = some v → cur.getD (i * 6 + j) undef = v := by
      intro i j v hi hj hc
      have h5 := hrow.cell (i := i * 6 + j) (by omega)
      rw [hc] at h5
      exact (Option.some.inj h5).symm
    refine ⟨g, cap, cur.size, _, rfl, Or.inr ⟨g, 0, rfl, h1, h2⟩, hb, by omega, hrow, fun i hi => key i 5 _ hi (by omega) (hat.2 i hi).c5, fun w' hr => ⟨hr.lt, fun i hi => ?_⟩⟩
    obtain ⟨c0, c1, c2, c3, c4, c5⟩ := hat.2 i hi
    have cell : ∀ j v, j < 6 → w.cell? ⟨g, i * 6 + j, none⟩ = some v → w'.cell? ⟨g, i * 6 + j, none⟩ = some v := fun j v hj hc => by
      rw [hr.cell (i := i * 6 + j) (by omega), key i j v hi hj hc]
    exact ⟨cell 0 _ (by omega) c0, cell 1 _ (by omega) c1, cell 2 _ (by omega) c2, cell 3 _ (by omega) c3, cell 4 _ (by omega) c4, cell 5 _ (by omega) c5⟩
theorem rightB_all' (f : List Nd) (h : rightB f = true) : 1 ≤ f.length ∧ f.length ≤ 24 ∧ goodTo f f.length = true := by
  simp only [rightB, Bool.and_eq_true, decide_eq_true_eq] at h
  exact ⟨h.1.1, h.1.2, h.2.1⟩
def newCode (f : List Nd) : Int := if 400 < f.length then 2 else if rightB f then 0 else 1
/-- The formula of what MonNew tells. -/
def newF (f : List Nd) : List Nd := if newCode f = 0 then f else []
theorem newF_no {f : List Nd} {c : Int} (h : newCode f = c) (hc : c ≠ 0) : newF f = [] := by unfold newF; rw [h, if_neg hc]
theorem newF_yes {f : List Nd} (h : newCode f = 0) : newF f = f := by unfold newF; rw [if_pos h]
theorem newCode_size {f : List Nd} (h : 400 < f.length) : newCode f = 2 := by unfold newCode; rw [if_pos h]
theorem newCode_form {f : List Nd} (h : ¬ 400 < f.length) (hr : rightB f = false) : newCode f = 1 := by unfold newCode; rw [if_neg h, hr]; rfl
theorem newCode_ok {f : List Nd} (h : ¬ 400 < f.length) (hr : rightB f = true) : newCode f = 0 := by unfold newCode; rw [if_neg h, hr]; rfl
/-- A row of nodes, of which nothing is asked where it is empty. -/
def NsA (w : World) (a : Option Addr) (F : List Nd) : Prop := F.length = 0 ∨ ∃ b, a = some ⟨b, 0, none⟩ ∧ NodesAt w b F
/-- A row of nodes to be written to; it may be longer. -/
def RowA (w : World) (a : Option Addr) (n : Nat) : Prop := n = 0 ∨ ∃ b m z, a = some ⟨b, 0, none⟩ ∧ n * 6 ≤ m ∧ w.rowIs b 46 m z
theorem goodTo_nm' (f : List Nd) (n : Nat) (h : goodTo f n = true) (i : Nat) (hi : i < n) : (ndAt f i).nm.size ≤ 8 := by
  have h1 := (goodTo_at f i n hi h).1
  simp only [nodeB, Bool.and_eq_true] at h1
  have h2 := h1.2.1
  split at h2
  · simp [wordB] at h2
    omega
  · have h3 : (ndAt f i).nm.size = 0 := by
      rw [← emptyB_eq _ h2]
      rfl
    omega
theorem newCode_to (f : List Nd) : newCode f = codeTo (fun _ => f) 1 := by
  unfold newCode codeTo
  by_cases h : 400 < f.length
  · rw [if_pos h, if_pos (longTo_yes (fun _ => f) 0 1 (by omega) h)]
  · have h2 : longTo (fun _ => f) 1 = false := by simp [longTo, List.range_succ]; omega
    rw [if_neg h, h2, rightTo_succ]
    simp [rightTo]
theorem fs_one (w : World) (o : Obj) (f : List Nd) (b cap : Nat) (hN : NodesAt w b f) (t : TypeId) : FsAt ((w.alloc o).alloc (.cells #[.slice (some ⟨b, 0, none⟩) f.length cap] t)) (w.heap.size + 1) 1 (fun _ => f) (fun _ => b) (fun _ => cap) :=
  ⟨by simp, fun j hj => by obtain rfl : j = 0 := by omega
                           simp [go_sem], fun j hj => (hN.below (((Below.refl w.heap.size w).alloc (Nat.le_refl _) o).alloc (by simp) _) hN.1)⟩
set_option maxRecDepth 20000 in
set_option maxHeartbeats 2000000 in
theorem markNodeS_long (n k0 b c : Nat) (z : Nat → Value) (hn : n ≤ 1048576) (hk0 : 0 < k0) (hk1 : k0 ≤ 1000) (m : Nat) (hm : n * 6 ≤ m) (w : World) (h : w.rowIs b 46 m z) :
    Calls Tryd.prog 13 #[.slice (some ⟨b, 0, none⟩) n c, .int .i64 k0] w fun e w' => e = .returned (.int .i64 (k0 + n * 6 : Nat)) ∧ w'.rowIs b 46 m (rowF (markN k0 n) z n) ∧ Save w w' (fun j => j = b) := by
  have HR0 := hid (h.congr (fun j hj => (show z j = rowF (markN k0 n) z 0 j by simp [rowF])))
  have hbl := h.lt
  clear h
  go_enter Tryd.func13, Tryd.ntmps13
  go_wp2_with fail
  go_loopw [1, 5] (fun t s wr => ∃ k : Nat, k ≤ n ∧ t = .int .i64 (k0 + k * 6 : Nat) ∧ s = .int .i64 k ∧ wr.rowIs b 46 m (rowF (markN k0 n) z k) ∧ Save w wr (fun j => j = b)) (fun _ s _ => n - (intOf s).toNat)
  case atStart => exact ⟨0, Nat.zero_le _, rfl, rfl, HR0.out, Save.refl _ _⟩
  case round =>
    clear HR0
    obtain ⟨k, hk, rfl, rfl, hrow, hsv⟩ := hrel
    have HS := hid hsv
    have HRow := hid hrow
    have hsz := hrow.lt
    clear hrow hsv
    by_cases hlt : k < n
    · have d0 := HRow.out.cell (i := k * 6) (by omega)
      have d1 := HRow.out.cell (i := k * 6 + 1) (by omega)
      have d2 := HRow.out.cell (i := k * 6 + 2) (by omega)
      have d3 := HRow.out.cell (i := k * 6 + 3) (by omega)
      have d4 := HRow.out.cell (i := k * 6 + 4) (by omega)
      have f0 := HRow.out.frozen
      go_wp2_with fail
      refine (markText_int _ (k0 + k * 6 + 5) (by push_cast; omega) (by omega) (by omega) _).mono ?_
      rintro e w1 ⟨rfl, hb1⟩
      have HR1 := hid ((((((HRow.out.set (k * 6) _).set (k * 6 + 1) _).set (k * 6 + 2) _).set (k * 6 + 3) _).set (k * 6 + 4) _).of_block (hb1.block b (by simpa using hsz)))
      have HS1 := hid ((((((HS.out.setCell (p := ⟨b, k * 6, none⟩) (fun _ => rfl) _).setCell (p := ⟨b, k * 6 + 1, none⟩) (fun _ => rfl) _).setCell (p := ⟨b, k * 6 + 2, none⟩) (fun _ => rfl) _).setCell (p := ⟨b, k * 6 + 3, none⟩) (fun _ => rfl) _).setCell (p := ⟨b, k * 6 + 4, none⟩) (fun _ => rfl) _).trans (Save.of_below hb1 _ (fun j h1 h2 => absurd h1 (by omega))))
      have d5 := HR1.out.cell (i := k * 6 + 5) (by omega)
      have f5 := HR1.out.frozen (k * 6 + 5)
      clear hb1 d0 d1 d2 d3 d4 f0
      go_wp2_with fail
      go_roundw
      case rel =>
        refine ⟨k + 1, by omega, by simp; omega, by go_num, (HR1.out.set (k * 6 + 5) _).congr (fun j hj => ?_), HS1.out.setCell (p := ⟨b, k * 6 + 5, none⟩) (fun _ => rfl) _⟩
        rw [rowF_step, markN_at _ _ _ hlt]
        simp [mkNd, Int.add_assoc, Nd.k, Nd.a, Nd.b, Nd.lo, Nd.hi, Nd.nm]
      case measure => simp [intOf]; omega
    · have hk' : k = n := by omega
      subst hk'
      go_wp2_with fail
      go_ret
      exact ⟨rfl, HRow.out, HS.out⟩
theorem row_nodes_long {w : World} {b m : Nat} {f : List Nd} {z : Nat → Value} (h : w.rowIs b 46 m (rowF f z f.length)) (hm : f.length * 6 ≤ m) : NodesAt w b f := by
  refine ⟨h.lt, fun i hi => ?_⟩
  have key : ∀ r, r < 6 → w.cell? ⟨b, i * 6 + r, none⟩ = some ((ndCells (ndAt f i)).getD r undef) := by
    intro r hr
    rw [h.cell (by omega)]
    unfold rowF
    rw [if_pos (by omega), show (i * 6 + r) / 6 = i by omega, show (i * 6 + r) % 6 = r by omega]
  exact ⟨key 0 (by decide), key 1 (by decide), key 2 (by decide), key 3 (by decide), key 4 (by decide), key 5 (by decide)⟩
/-- The block of a slice's address. -/
def OfB (a : Option Addr) (j : Nat) : Prop := ∃ q, a = some q ∧ q.block = j
theorem markNs (n : Nat) (a : Option Addr) (c : Nat) (hn : n ≤ 1048576) (w : World) (h : RowA w a n) :
    Calls Tryd.prog 13 #[.slice a n c, .int .i64 1] w fun e w' => e = .returned (.int .i64 (1 + n * 6 : Nat)) ∧ NsA w' a (markN 1 n) ∧ Save w w' (OfB a) := by
  rcases h with rfl | ⟨b, m, z, rfl, hm, h⟩
  · refine (markNodeS_nil a 1 c w).mono ?_
    rintro e w' ⟨rfl, rfl⟩
    exact ⟨rfl, Or.inl rfl, Save.refl _ _⟩
  · refine (markNodeS_long n 1 b c z hn (by omega) (by omega) m hm w h).mono ?_
    rintro e w' ⟨rfl, hr, hs⟩
    refine ⟨rfl, Or.inr ⟨b, rfl, ?_⟩, hs.mono (fun j _ e => ⟨_, rfl, e.symm⟩)⟩
    exact @row_nodes_long w' b m (markN 1 n) z (by rw [markN_len]; exact hr) (by rw [markN_len]; exact hm)
theorem heldNs (n : Nat) (a : Option Addr) (c : Nat) (hn : n ≤ 1048576) (w : World) (h : NsA w a (markN 1 n)) :
    Calls Tryd.prog 41 #[.slice a n c, .int .i64 1] w fun e w' => e = .returned (.int .i64 (1 + n * 6 : Nat)) ∧ Below w.heap.size w w' := by
  rcases h with h | ⟨b, rfl, h⟩
  · rw [markN_len] at h
    subst h
    refine (heldNodeS_nil a 1 c w).mono ?_
    rintro e w' ⟨rfl, rfl⟩
    exact ⟨rfl, Below.refl _ _⟩
  · exact heldNodeS_row n 1 b c hn (by omega) (by omega) w h
theorem NsA.save {w w' : World} {a : Option Addr} {P : List Nd} {S : Nat → Prop} (h : NsA w a P) (hs : Save w w' S) (hS : ∀ q, a = some q → ¬ S q.block) : NsA w' a P :=
  h.imp id (fun ⟨b, e, hn⟩ => ⟨b, e, hs.nodes hn (hS _ e)⟩)
theorem NsA.on {w w' : World} {a : Option Addr} {P : List Nd} (h : NsA w a P) (hb : Below w.heap.size w w') : NsA w' a P :=
  h.imp id (fun ⟨b, e, hn⟩ => ⟨b, e, hn.below hb hn.1⟩)
theorem RowA.save {w w' : World} {a : Option Addr} {n : Nat} {S : Nat → Prop} (h : RowA w a n) (hs : Save w w' S) (hS : ∀ q, a = some q → ¬ S q.block) : RowA w' a n :=
  h.imp id (fun ⟨b, m, z, e, hm, hr⟩ => ⟨b, m, z, e, hm, hr.of_block (hs.block b hr.lt (hS _ e))⟩)
theorem RowA.on {w w' : World} {a : Option Addr} {n : Nat} (h : RowA w a n) (hb : Below w.heap.size w w') : RowA w' a n :=
  h.imp id (fun ⟨b, m, z, e, hm, hr⟩ => ⟨b, m, z, e, hm, hr.of_block (hb.block b hr.lt)⟩)
set_option maxRecDepth 20000 in
theorem eqNs_nil (a1 a2 : Option Addr) (c1 c2 : Nat) (w : World) :
    Calls Tryd.prog 12 #[.slice a1 0 c1, .slice a2 0 c2] w fun e w' => e = .returned (.bool true) ∧ Below w.heap.size w w' := by
  go_enter Tryd.func12, Tryd.ntmps12
  go_wp2_with fail
  go_loopw [5] (fun t wr => t = .int .i64 0 ∧ wr = w) (fun _ _ => 0)
  case atStart => exact ⟨rfl, rfl⟩
  case round =>
    obtain ⟨rfl, rfl⟩ := hrel
    go_wp2_with fail
    go_ret
    exact ⟨rfl, Below.refl _ _⟩
theorem eqNs (P : List Nd) (n : Nat) (hn : P.length = n) (a1 a2 : Option Addr) (c1 c2 : Nat) (hl : n ≤ 1048576) (w : World) (h1 : NsA w a1 P) (h2 : NsA w a2 P) :
    Calls Tryd.prog 12 #[.slice a1 n c1, .slice a2 n c2] w fun e w' => e = .returned (.bool true) ∧ Below w.heap.size w w' := by
  subst hn
  rcases h1 with h0 | ⟨b1, rfl, h1⟩
  · rw [h0]
    exact eqNs_nil a1 a2 c1 c2 w
  · rcases h2 with h0 | ⟨b2, rfl, h2⟩
    · rw [h0]
      exact eqNs_nil _ a2 c1 c2 w
    · exact eqNodeS_same P b1 b2 c1 c2 hl w h1 h2
end Go.Proofs.YtagklhfejbdkdaaDoor
