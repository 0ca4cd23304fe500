/-
  Rows of numbers that a call owns; the model's l05Drop by its contract.
-/
import Derived.Test.YtlikkjppknbnfaaKpE
namespace Go.Proofs.Ytlikkjppknbnfaa
open Go.RowKit
set_option linter.unusedVariables false
set_option linter.unusedSimpArgs false
def keepsB (hi tm z : Int) : Bool := decide (hi < 0) || decide (tm - z ≤ hi)
def dropTo (hi tm : Int) (Z : List Int) (k : Nat) : List Int := ((List.range k).map (zAt Z)).filter (keepsB hi tm)
def dropI (hi tm : Int) (Z : List Int) : List Int := dropTo hi tm Z Z.length
theorem dropTo_yes (hi tm : Int) (Z : List Int) (k : Nat) (h : keepsB hi tm (zAt Z k) = true) : dropTo hi tm Z (k + 1) = dropTo hi tm Z k ++ [zAt Z k] := by
  simp [dropTo, List.range_succ, h]
theorem dropTo_no (hi tm : Int) (Z : List Int) (k : Nat) (h : keepsB hi tm (zAt Z k) = false) : dropTo hi tm Z (k + 1) = dropTo hi tm Z k := by
  simp [dropTo, List.range_succ, h]
theorem dropTo_len (hi tm : Int) (Z : List Int) (k : Nat) : (dropTo hi tm Z k).length ≤ k := by
  have := List.length_filter_le (keepsB hi tm) ((List.range k).map (zAt Z))
  simpa [dropTo] using this
/-- A row of numbers that the call owns. -/
def OwnI (w : World) (base : Nat) (v : Value) (Z : List Int) : Prop := w.ownsRow base 2 1 v Z.length (Z.map (Value.int .i64))
theorem OwnI.save {w w' : World} {base : Nat} {v : Value} {Z : List Int} {S : Nat → Prop} (h : OwnI w base v Z) (hs : Save w w' S) (hS : ∀ k, v.ownBlock = some k → ¬ S k) : OwnI w' base v Z := by
  refine ⟨h.1, ?_⟩
  rcases h.2 with hn | ⟨b, cap, cur, rfl, hb, hg, rest⟩
  · exact .inl hn
  · refine .inr ⟨b, cap, cur, rfl, hb, ?_, rest⟩
    rw [hs.block b (Array.getElem?_eq_some_iff.1 hg).1 (hS b rfl)]
    exact hg
theorem OwnI.low {w : World} {base base' : Nat} {v : Value} {Z : List Int} (h : OwnI w base v Z) (hb : base' ≤ base) : OwnI w base' v Z := by
  refine ⟨h.1, ?_⟩
  rcases h.2 with hn | ⟨b, cap, cur, rfl, h1, rest⟩
  · exact .inl hn
  · exact .inr ⟨b, cap, cur, rfl, by omega, rest⟩
theorem OwnI.nil (w : World) (base : Nat) : OwnI w base (.slice none 0 0) [] := World.ownsRow_nil _ _ _ _
theorem OwnI.lt {w : World} {base : Nat} {v : Value} {Z : List Int} (h : OwnI w base v Z) : ∀ k, v.ownBlock = some k → base ≤ k ∧ k < w.heap.size := World.ownsRow.lt h
theorem OwnI.on {w w' : World} {base : Nat} {v : Value} {Z : List Int} (h : OwnI w base v Z) (hb : Below w.heap.size w w') : OwnI w' base v Z :=
  h.save (S := fun _ => False) (Save.of_below hb _ (fun j h1 h2 => absurd h1 (by omega))) (fun _ _ h => h)
theorem OwnI.form {w : World} {base : Nat} {v : Value} {Z : List Int} (h : OwnI w base v Z) : ∃ a c, v = .slice a Z.length c ∧ ArgI w a Z ∧ RowIs w a Z.length ∧ ∀ q, a = some q → base ≤ q.block ∧ q.block < w.heap.size := by
  rcases h.2 with ⟨hv, h0⟩ | ⟨g, cap, cur, hv, hb, hg, h1, h2, h3, h4⟩
  · exact ⟨none, 0, by rw [hv, h0], Or.inl h0, Or.inl h0, fun b e => (by cases e)⟩
  · have hlt := (Array.getElem?_eq_some_iff.1 hg).1
    refine ⟨some ⟨g, 0, none⟩, cap, hv, Or.inr ⟨g, 0, rfl, hlt, fun i hi => ?_⟩, Or.inr ⟨g, fun j => cur.getD j undef, cap, rfl, h1, ⟨cur, hg, by omega, fun i hi => ?_⟩⟩, fun b e => (by injection e with e1; subst e1; exact ⟨hb, hlt⟩)⟩
    · have h5 := World.ownsRow.cells h (g := g) (by rw [hv]; rfl) i (.int .i64 (zAt Z i)) (by simp [zAt, hi])
      rw [Addr.add_lit] at h5
      exact h5
    · have hi' : i < cur.size := by omega
      simp [hi']
theorem OwnI.arg {w : World} {base : Nat} {a : Option Addr} {n c : Nat} {Z : List Int} (h : OwnI w base (.slice a n c) Z) : ArgI w a Z := by
  obtain ⟨a', c', e, h1, _⟩ := h.form
  injection e with e1 e2 e3
  subst e1
  exact h1
theorem Save.over {a b c : World} {S T : Nat → Prop} (h : Save a b S) (k : Save b c T) (hT : ∀ j, j < a.heap.size → T j → S j) : Save a c S :=
  ⟨k.os.trans h.os, k.tape.trans h.tape, k.output.trans h.output, Nat.le_trans h.size k.size, fun j hj hs => (k.block j (Nat.lt_of_lt_of_le hj h.size) (fun t => hs (hT j hj t))).trans (h.block j hj hs)⟩
/-- Three boxes of a call over Keeps, one behind the other. -/
structure KBox3 (W : World) (q : Nat) (lo hi : Int) (a : Option Addr) (n c : Nat) : Prop where
  sz : W.heap.size = q + 3
  x : KBox W q lo hi a n c
  r : KBox W (q + 1) 0 0 none 0 0
  o : KBox W (q + 1 + 1) lo hi none 0 0
  f0 : W.frozen? ⟨q + 1, 0, none⟩ = false
  f1 : W.frozen? ⟨q + 1, 1, none⟩ = false
  f2 : W.frozen? ⟨q + 1, 2, none⟩ = false
  g2 : W.frozen? ⟨q + 1 + 1, 2, none⟩ = false
def kO (lo hi : Int) (a : Option Addr) (n c : Nat) : Obj := .cells #[.int .i64 lo, .int .i64 hi, .slice a n c] 25
theorem KBox3.new (w : World) (lo hi : Int) (a : Option Addr) (n c : Nat) : KBox3 (((w.alloc (kO lo hi a n c)).alloc (kO 0 0 none 0 0)).alloc (kO lo hi none 0 0)) w.heap.size lo hi a n c := by
  unfold kO
  have e1 : w.heap.size + 1 = (w.alloc (.cells #[.int .i64 lo, .int .i64 hi, .slice a n c] 25)).heap.size := by simp
  have e2 : w.heap.size + 1 + 1 = ((w.alloc (.cells #[.int .i64 lo, .int .i64 hi, .slice a n c] 25)).alloc (.cells #[.int .i64 0, .int .i64 0, .slice none 0 0] 25)).heap.size := by simp
  refine ⟨by simp, ⟨by simp; omega, by simp [go_sem], by simp [go_sem], by simp [go_sem]⟩, ?_, ?_, ?_, ?_, ?_, ?_⟩
  · rw [e1]; exact (KBox.new _ 0 0 none 0 0 25).on (below_one' _ _)
  · rw [e2]; exact KBox.new _ lo hi none 0 0 25
  · rw [e1]; simp [go_sem]
  · rw [e1]; simp [go_sem]
  · rw [e1]; simp [go_sem]
  · rw [e2]; simp [go_sem]
theorem below3 (w : World) (o1 o2 o3 : Obj) : Below w.heap.size w (((w.alloc o1).alloc o2).alloc o3) := (((Below.refl w.heap.size w).alloc (Nat.le_refl _) o1).alloc (by simp) o2).alloc (by simp; omega) o3
theorem frozen_setCell {w : World} {p a : Addr} {v : Value} (h : w.frozen? p = false) : (w.setCell a v).frozen? p = false := by simpa using h
theorem set3 (w : World) (q : Nat) (lo hi : Int) (v : Value) : Save w (((w.setCell ⟨q, 0, none⟩ (.int .i64 lo)).setCell ⟨q, 1, none⟩ (.int .i64 hi)).setCell ⟨q, 2, none⟩ v) (fun j => j = q) :=
  Save.setCell (S := fun j => j = q) (Save.setCell (S := fun j => j = q) (Save.setCell (S := fun j => j = q) (Save.refl w _) (p := ⟨q, 0, none⟩) (fun _ => rfl) _) (p := ⟨q, 1, none⟩) (fun _ => rfl) _) (p := ⟨q, 2, none⟩) (fun _ => rfl) _
/-- What stands in a round of l05Drop. -/
structure DropAt (W w : World) (q : Nat) (lo hi : Int) (va : Option Addr) (vc : Nat) (D : List Int) : Prop where
  own : OwnI w (q + 3) (.slice va D.length vc) D
  box : KBox w (q + 1 + 1) lo hi va D.length vc
  fr : w.frozen? ⟨q + 1 + 1, 2, none⟩ = false
  sv : Save W w (fun j => j = q + 1 + 1)
theorem DropAt.drewN {W w : World} {q : Nat} {lo hi : Int} {va : Option Addr} {vc : Nat} {D : List Int} (h : DropAt W w q lo hi va vc D) (n : Nat) : DropAt W (w.drewN n) q lo hi va vc D :=
  ⟨h.own, ⟨h.box.lt, h.box.k0, h.box.k1, h.box.k2⟩, h.fr, h.sv.drewN n⟩
theorem DropAt.mid {W V V' w3 : World} {q : Nat} {lo hi : Int} {va : Option Addr} {vc : Nat} {D : List Int} (h : DropAt W V q lo hi va vc D) (h1 : Save V V' (fun _ => False)) (hg : V'.grownBy w3 (Value.slice va D.length vc).ownBlock) :
    w3.cell? ⟨q + 1 + 1, 2, none⟩ = some (.slice va D.length vc) ∧ w3.frozen? ⟨q + 1 + 1, 2, none⟩ = false := by
  have hs : Save V w3 (fun j => (Value.slice va D.length vc).ownBlock = some j) := (h1.mono (T := fun j => (Value.slice va D.length vc).ownBlock = some j) (fun _ _ f => f.elim)).grown hg (fun k e _ => e)
  have hn : ¬ (Value.slice va D.length vc).ownBlock = some (q + 1 + 1) := fun e => by have := (h.own.lt _ e).1; omega
  exact ⟨(hs.cell (p := ⟨q + 1 + 1, 2, none⟩) h.box.lt hn).trans h.box.k2, (hs.frozen (p := ⟨q + 1 + 1, 2, none⟩) h.box.lt hn).trans h.fr⟩
theorem DropAt.put {W V V' w3 : World} {q : Nat} {lo hi : Int} {va : Option Addr} {vc : Nat} {D : List Int} {T : Int} {gb cp : Nat} (h : DropAt W V q lo hi va vc D) (hW : W.heap.size = q + 3) (h1 : Save V V' (fun _ => False)) (hg : V'.grownBy w3 (Value.slice va D.length vc).ownBlock) (ho : OwnI w3 (q + 3) (.slice (some ⟨gb, 0, none⟩) (D.length + 1) cp) (D ++ [T])) :
    DropAt W (w3.setCell ⟨q + 1 + 1, 2, none⟩ (.slice (some ⟨gb, 0, none⟩) (D.length + 1) cp)) q lo hi (some ⟨gb, 0, none⟩) cp (D ++ [T]) := by
  have hs : Save V w3 (fun j => (Value.slice va D.length vc).ownBlock = some j) := (h1.mono (T := fun j => (Value.slice va D.length vc).ownBlock = some j) (fun _ _ f => f.elim)).grown hg (fun k e _ => e)
  have hn : ¬ (Value.slice va D.length vc).ownBlock = some (q + 1 + 1) := fun e => by have := (h.own.lt _ e).1; omega
  have hb3 : q + 1 + 1 < w3.heap.size := Nat.lt_of_lt_of_le h.box.lt hs.size
  have hl : (D ++ [T]).length = D.length + 1 := by simp
  have c2 := (hs.cell (p := ⟨q + 1 + 1, 2, none⟩) h.box.lt hn).trans h.box.k2
  have hset : Save w3 (w3.setCell ⟨q + 1 + 1, 2, none⟩ (.slice (some ⟨gb, 0, none⟩) (D.length + 1) cp)) (fun j => j = q + 1 + 1) := Save.setCell (S := fun j => j = q + 1 + 1) (Save.refl w3 _) (p := ⟨q + 1 + 1, 2, none⟩) (fun _ => rfl) _
  refine ⟨?_, ⟨Nat.lt_of_lt_of_le hb3 hset.size, ?_, ?_, ?_⟩, ?_, ?_⟩
  · rw [hl]; exact ho.save hset (fun k e => by have := (ho.lt k e).1; intro h; omega)
  · rw [World.cell?_setCell_other _ _ _ _ (by simp)]; exact (hs.cell (p := ⟨q + 1 + 1, 0, none⟩) h.box.lt hn).trans h.box.k0
  · rw [World.cell?_setCell_other _ _ _ _ (by simp)]; exact (hs.cell (p := ⟨q + 1 + 1, 1, none⟩) h.box.lt hn).trans h.box.k1
  · rw [hl]; simp [go_sem, c2]
  · exact frozen_setCell ((hs.frozen (p := ⟨q + 1 + 1, 2, none⟩) h.box.lt hn).trans h.fr)
  · exact Save.setCell (S := fun j => j = q + 1 + 1) (h.sv.over hs (fun j hj e => by have := (h.own.lt _ e).1; omega)) (p := ⟨q + 1 + 1, 2, none⟩) (fun _ => rfl) _
set_option maxRecDepth 20000 in
set_option maxHeartbeats 4000000 in
theorem specDropR_any (lo hi : Int) (Z : List Int) (n : Nat) (hn : Z.length = n) (a : Option Addr) (c : Nat) (hl : n ≤ 2000000) (tm : Int) (ht : 0 ≤ tm ∧ tm ≤ 1000000) (hz : ∀ i, i < n → 0 ≤ zAt Z i ∧ zAt Z i ≤ 1000000) (w : World) (hA : ArgI w a Z) :
    Calls Try.prog 39 #[kpV lo hi a n c, .int .i64 tm] w fun e w' => ∃ va vc, e = .returned (kpV lo hi va (dropI hi tm Z).length vc) ∧ OwnI w' w.heap.size (.slice va (dropI hi tm Z).length vc) (dropI hi tm Z) ∧ Below w.heap.size w w' := by
  subst hn
  obtain ⟨t1, t2⟩ := ht
  have HU : Hid (∀ a n c, kpV lo hi a n c = .agg #[.int .i64 lo, .int .i64 hi, .slice a n c]) := fun _ _ _ => rfl
  obtain ⟨i0, hi0, hz0, hz1, hz2⟩ := info_parts Try.infoI
  have HB0 := hid (below3 w (kO lo hi a Z.length c) (kO 0 0 none 0 0) (kO lo hi none 0 0))
  have HK := hid (KBox3.new w lo hi a Z.length c)
  have HA := hid hA
  have HZ := hid hz
  unfold kO at HB0 HK
  rw [HU.out]
  clear hA hz
  go_enter Try.func39, Try.ntmps39
  go_wp2_with fail
  generalize ((w.alloc (.cells #[.int .i64 lo, .int .i64 hi, .slice a Z.length c] 25)).alloc (.cells #[.int .i64 0, .int .i64 0, .slice none 0 0] 25)).alloc (.cells #[.int .i64 lo, .int .i64 hi, .slice none 0 0] 25) = W at *
  have hWz := HK.out.sz
  go_loopw [6] (fun t wr => ∃ (k : Nat) (va : Option Addr) (vc : Nat), k ≤ Z.length ∧ t = .int .i64 k ∧ DropAt W wr w.heap.size lo hi va vc (dropTo hi tm Z k)) (fun t _ => Z.length - (intOf t).toNat)
  case atStart => exact ⟨0, none, 0, Nat.zero_le _, rfl, ⟨OwnI.nil _ _, HK.out.o, HK.out.g2, Save.refl _ _⟩⟩
  case round =>
    obtain ⟨k, va, vc, hk, rfl, hD⟩ := hrel
    have HD := hid hD
    have hdl := dropTo_len hi tm Z k
    have hsz := hD.sv.size
    obtain ⟨hq0, k0, k1, k2⟩ := HK.out.x.save hD.sv (by omega)
    obtain ⟨hq2, o0, o1, o2⟩ := hD.box
    have hfr := hD.fr
    clear hD
    by_cases hlt : k < Z.length
    · have HYes := hid (dropTo_yes hi tm Z k)
      have HNo := hid (dropTo_no hi tm Z k)
      rcases HA.out with h0 | ⟨b, off, rfl, hb, hc⟩
      · omega
      have d0 := (HD.out.sv.cell (p := ⟨b, off + k, none⟩) (by show b < W.heap.size; omega) (by show ¬ b = w.heap.size + 1 + 1; omega)).trans ((HB0.out.cell (p := ⟨b, off + k, none⟩) hb).trans (hc k hlt))
      have hbr : b < wr.heap.size := by omega
      obtain ⟨z1, z2⟩ := HZ.out k hlt
      clear hc
      generalize hT : zAt Z k = T at *
      have HT := hid hT
      clear hT
      have HKB : Hid (keepsB hi tm T = (decide (hi < 0) || decide (tm - T ≤ hi))) := rfl
      by_cases hno : 0 ≤ hi ∧ hi < tm - T
      · obtain ⟨n1, n2⟩ := hno
        have HN := hid (HNo.out (by rw [HKB.out]; simp; omega))
        have n1' : decide (hi < 0) = false := by simp; omega
        have n2' : decide (tm - T ≤ hi) = false := by simp; omega
        generalize dropTo hi tm Z k = D at *
        go_wp2_with fail
        go_quiet (fail)
        go_wp2_with fail
        go_roundw
        case rel => exact ⟨k + 1, va, vc, by omega, by go_num, by rw [HN.out]; exact HD.out.drewN _⟩
        case measure => simp [intOf]; omega
      · have HY := hid (HYes.out (by rw [HKB.out]; simp; omega))
        generalize dropTo hi tm Z k = D at *
        have hgd : decide (hi < 0) = true ∨ (decide (hi < 0) = false ∧ decide (tm - T ≤ hi) = true) := by
          by_cases h : hi < 0
          · exact Or.inl (by simpa using h)
          · exact Or.inr ⟨by simpa using h, by simp; omega⟩
        clear hno
        rcases hgd with h | ⟨h, h'⟩
        all_goals
          go_wp2_with fail
          go_quiet (fail)
          have HD1 := hid (HD.out.drewN nq)
          have HSV := hid ((Save.refl wr (fun _ => False)).drewN nq)
          generalize wr.drewN nq = V at *
          have hzV := HSV.out.size
          have e0 := (HSV.out.cell (p := ⟨b, off + k, none⟩) hbr (fun h => h)).trans d0
          have e2 := (HSV.out.cell (p := ⟨w.heap.size, 2, none⟩) hq0 (fun h => h)).trans k2
          have p2 := HD1.out.box.k2
          have hpz := HD1.out.box.lt
          have hpf := HD1.out.fr
          clear k0 k1 k2 o0 o1 o2 hfr d0
          go_wp2_with fail
          go_region_law (refine step_append_own rfl (.tmp 35) (.tmp 41) 23 rfl (w.heap.size + 3) 2 i0 _ 1 8 Try.uIs hi0 hz0 hz1 hz2 rfl (by decide) (.slice va D.length vc) D.length (D.map (Value.int .i64)) (by simp [Act.eval, Act.put]) (HD1.out.own.alloc _).drew ⟨V.heap.size, 0, none⟩ 1 1 [.int .i64 T] (by simp [Act.eval, Act.put]) rfl (cell_one V _ _) (by simp [Value.oneCell']) (by unfold maxLen; omega) (by omega) (by simp; omega) ?_; intro v' w3 hown3 hgrow3 hloc3; obtain ⟨gb, cp, rfl, _, _⟩ := World.ownsRow.form hown3 (by omega); have HO3 : Hid (OwnI w3 (w.heap.size + 3) (.slice (some ⟨gb, 0, none⟩) (D.length + 1) cp) (D ++ [T])) := (by show w3.ownsRow _ _ _ _ _ _; simpa using hown3); have HP := hid (HD1.out.put hWz (((Save.refl V (fun _ => False)).alloc _).drew) hgrow3 HO3.out); have hfc3 := HD1.out.mid (((Save.refl V (fun _ => False)).alloc _).drew) hgrow3; have hc3 := hfc3.1; have hf3 := hfc3.2; clear hfc3; clear hown3 hgrow3 hloc3)
          all_goals
            go_wp2_with fail
            go_roundw
            case rel => exact ⟨k + 1, some ⟨gb, 0, none⟩, cp, by omega, by go_num, by rw [HY.out]; exact HP.out⟩
            case measure => simp [intOf]; omega
    · have hk' : k = Z.length := by omega
      subst hk'
      have HE : Hid (dropI hi tm Z = dropTo hi tm Z Z.length) := rfl
      obtain ⟨r1, r2, r3, r4⟩ := HK.out.r.save HD.out.sv (by omega)
      have s0 := (HD.out.sv.frozen (p := ⟨w.heap.size + 1, 0, none⟩) (by show w.heap.size + 1 < W.heap.size; omega) (by show ¬ w.heap.size + 1 = w.heap.size + 1 + 1; omega)).trans HK.out.f0
      have s1 := (HD.out.sv.frozen (p := ⟨w.heap.size + 1, 1, none⟩) (by show w.heap.size + 1 < W.heap.size; omega) (by show ¬ w.heap.size + 1 = w.heap.size + 1 + 1; omega)).trans HK.out.f1
      have s2 := (HD.out.sv.frozen (p := ⟨w.heap.size + 1, 2, none⟩) (by show w.heap.size + 1 < W.heap.size; omega) (by show ¬ w.heap.size + 1 = w.heap.size + 1 + 1; omega)).trans HK.out.f2
      have HSet := hid (set3 wr (w.heap.size + 1) lo hi (.slice va (dropTo hi tm Z Z.length).length vc))
      generalize dropTo hi tm Z Z.length = D at *
      go_wp2_with fail
      refine bodyPost_ret (v := .agg #[.int .i64 lo, .int .i64 hi, .slice va D.length vc]) (by simp [results, Try.results39, go_sem, r2, r3, r4, s0, s1, s2]) rfl ?_
      rw [HE.out]
      refine ⟨va, vc, rfl, ?_, ?_⟩
      · exact (HD.out.own.save HSet.out (fun k e h => by have := (HD.out.own.lt k e).1; omega)).low (by omega)
      · exact (HB0.out.trans (HD.out.sv.below (B := w.heap.size) (by omega) (fun j h => by omega))).trans (HSet.out.below (B := w.heap.size) (by omega) (fun j h => by omega))
end Go.Proofs.Ytlikkjppknbnfaa
