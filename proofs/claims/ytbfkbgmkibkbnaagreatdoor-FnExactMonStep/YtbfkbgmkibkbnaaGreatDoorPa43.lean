/-
  The program's MonStep over what is right, by its contract.
-/
import Derived.Test.YtbfkbgmkibkbnaaGreatDoorPa34
import Derived.Test.YtbfkbgmkibkbnaaGreatDoorPa31
import Derived.Test.YtbfkbgmkibkbnaaGreatDoorPa42
namespace Go.Proofs.YtbfkbgmkibkbnaaGreatDoor
open Go.RowKit
set_option linter.unusedVariables false
set_option linter.unusedSimpArgs false
theorem Tryz.infoBo : (Tryz.prog.info? 4).map (fun i => (i.zero, i.size, i.bytes)) = some (some (.bool false), 1, 1) := by kernel_rfl
theorem Tryz.uBos : Tryz.prog.underlying 27 = some (.slice 4) := by kernel_rfl
theorem run_makeBo (n : Nat) (hn : n ≤ 1048576) (w : World) : Sem.run Tryz.prog (Instr.makeSlice 27 (.int .i64 n) (.int .i64 n)) w = .ok (.slice (some ⟨w.heap.size, 0, none⟩) n n) (w.alloc (.cells (madeCells #[.bool false] n) 4)) := by
  obtain ⟨i0, hi, hz0, hz1, hz2⟩ := info_parts Tryz.infoBo
  have h := run_make (P := Tryz.prog) w 27 4 i0 _ Tryz.uBos hi hz0 .i64 .i64 n n (by omega) (Int.le_refl _) (by rw [hz2]; omega) (by omega)
  rw [hz1] at h
  have e : (Value.bool false).cells = #[.bool false] := rfl
  rw [e] at h
  simpa using h
theorem bools_row (W : World) (n : Nat) (g : Nat → Bool) : (W.alloc (.cells (madeCells #[.bool false] n) 4)).rowIs W.heap.size 4 n (boolsTo g 0) := by
  have := World.rowIs_alloc W (madeCells #[.bool false] n) 4 (boolsTo g 0) (fun i hi => by
    rw [size_madeCells] at hi
    simp only [boolsTo, Nat.not_lt_zero, if_false]
    simp [madeCells, hi, Nat.mod_one])
  rwa [size_madeCells] at this
/-- The boxes of MonStep. -/
structure PsBox (W : World) (q : Nat) (fb fn fc : Nat) (cnt now : Int) (ca : Option Addr) (cn cc : Nat) (tm : Int) (na : Option Addr) (nn nc : Nat) : Prop where
  m : MBox W q (some ⟨fb, 0, none⟩) fn fc cnt now ca cn cc
  l1 : q + 1 < W.heap.size
  e0 : W.cell? ⟨q + 1, 0, none⟩ = some (.int .i64 tm)
  e1 : W.cell? ⟨q + 1, 1, none⟩ = some (.slice na nn nc)
  o : OBox W (q + 1 + 1) none 0 0 0 0 none 0 0 false none 0 0 0
  g : OFree W (q + 1 + 1)
theorem PsBox.new (w : World) (fb fn fc : Nat) (cnt now : Int) (ca : Option Addr) (cn cc : Nat) (tm : Int) (na : Option Addr) (nn nc : Nat) : PsBox (((w.alloc (.cells #[.slice (some ⟨fb, 0, none⟩) fn fc, .int .i64 cnt, .int .i64 now, .slice ca cn cc] 34)).alloc (.cells #[.int .i64 tm, .slice na nn nc] 41)).alloc (.cells #[.slice none 0 0, .int .i64 0, .int .i64 0, .slice none 0 0, .bool false, .slice none 0 0, .int .i64 0] 36)) w.heap.size fb fn fc cnt now ca cn cc tm na nn nc := by
  have h2 := OBox.zero ((w.alloc (.cells #[.slice (some ⟨fb, 0, none⟩) fn fc, .int .i64 cnt, .int .i64 now, .slice ca cn cc] 34)).alloc (.cells #[.int .i64 tm, .slice na nn nc] 41))
  unfold oZ at h2
  simp only [World.size_alloc] at h2
  exact ⟨⟨by simp; omega, by simp [go_sem], by simp [go_sem], by simp [go_sem], by simp [go_sem]⟩, by simp, by simp [go_sem], by simp [go_sem], h2.1, h2.2⟩
theorem PsBox.save {W W' : World} {q fb fn fc : Nat} {cnt now : Int} {ca : Option Addr} {cn cc : Nat} {tm : Int} {na : Option Addr} {nn nc : Nat} {S : Nat → Prop} (h : PsBox W q fb fn fc cnt now ca cn cc tm na nn nc) (hs : Save W W' S) (h0 : ¬ S q) (h1 : ¬ S (q + 1)) (h2 : ¬ S (q + 1 + 1)) : PsBox W' q fb fn fc cnt now ca cn cc tm na nn nc :=
  ⟨h.m.save hs h0, Nat.lt_of_lt_of_le h.l1 hs.size, (hs.cell (p := ⟨q + 1, _, none⟩) h.l1 h1).trans h.e0, (hs.cell (p := ⟨q + 1, _, none⟩) h.l1 h1).trans h.e1, h.o.save hs h2,
   ⟨(hs.frozen (p := ⟨q + 1 + 1, _, none⟩) h.o.lt h2).trans h.g.g0, (hs.frozen (p := ⟨q + 1 + 1, _, none⟩) h.o.lt h2).trans h.g.g1, (hs.frozen (p := ⟨q + 1 + 1, _, none⟩) h.o.lt h2).trans h.g.g2, (hs.frozen (p := ⟨q + 1 + 1, _, none⟩) h.o.lt h2).trans h.g.g3, (hs.frozen (p := ⟨q + 1 + 1, _, none⟩) h.o.lt h2).trans h.g.g4, (hs.frozen (p := ⟨q + 1 + 1, _, none⟩) h.o.lt h2).trans h.g.g5, (hs.frozen (p := ⟨q + 1 + 1, _, none⟩) h.o.lt h2).trans h.g.g6⟩⟩
theorem PsBox.on {W W' : World} {q fb fn fc : Nat} {cnt now : Int} {ca : Option Addr} {cn cc : Nat} {tm : Int} {na : Option Addr} {nn nc : Nat} (h : PsBox W q fb fn fc cnt now ca cn cc tm na nn nc) (hb : Below W.heap.size W W') : PsBox W' q fb fn fc cnt now ca cn cc tm na nn nc :=
  h.save (S := fun _ => False) (Save.of_below hb _ (fun j h1 h2 => absurd h1 (by omega))) (fun h => h) (fun h => h) (fun h => h)
theorem goodTo_nm2 (f : List Nd) (n : Nat) (h : goodTo f n = true) (i : Nat) (hi : i < n) : (ndAt f i).nm.size ≤ 8 := by
  have h1 := (goodTo_at f i n hi h).1
  simp only [nodeB, Bool.and_eq_true] at h1
  have h2 := h1.2.1
  split at h2
  · simp [wordB] at h2
    omega
  · have h3 : (ndAt f i).nm.size = 0 := by
      rw [← emptyB_eq _ h2]
      rfl
    omega
theorem last_any (a : Option Addr) (n c : Nat) (hn : n ≤ 1048576) (m : Nat) (hm : n = m + 1) (w : World) :
    Calls Tryz.prog 56 #[.slice a n c] w fun e w' => e = .returned (.int .i64 m) ∧ w = w' := by
  have e1 : (n : Int) - 1 = (m : Int) := by omega
  clear hm
  go_enter Tryz.func56, Tryz.ntmps56
  go_wp2_with fail
  go_ret
  exact ⟨rfl, rfl⟩
/-- The watch of a step, and the row that it tells into. -/
structure PsV (V : World) (qb ab : Nat) (fb n fc : Nat) (cnt now tm : Int) (na : Option Addr) (nn nc : Nat) (G : Nat → Bool) : Prop where
  lq : qb < V.heap.size
  w0 : V.cell? ⟨qb, 0, none⟩ = some (.slice (some ⟨fb, 0, none⟩) n fc)
  w1 : V.cell? ⟨qb, 1, none⟩ = some (.int .i64 cnt)
  w2 : V.cell? ⟨qb, 2, none⟩ = some (.int .i64 now)
  w3 : V.cell? ⟨qb, 3, none⟩ = some (.int .i64 tm)
  w4 : V.cell? ⟨qb, 4, none⟩ = some (.slice na nn nc)
  w5 : V.cell? ⟨qb, 5, none⟩ = some (.slice (some ⟨ab, 0, none⟩) n n)
  row : V.rowIs ab 4 n (boolsTo G 0)
theorem psA (w2 : World) (fb n fc : Nat) (cnt now tm : Int) (na : Option Addr) (nn nc : Nat) (G : Nat → Bool) : PsV ((w2.alloc (.cells (madeCells #[.bool false] n) 4)).alloc (.cells #[.slice (some ⟨fb, 0, none⟩) n fc, .int .i64 cnt, .int .i64 now, .int .i64 tm, .slice na nn nc, .slice (some ⟨w2.heap.size, 0, none⟩) n n] 90)).drew (w2.heap.size + 1) w2.heap.size fb n fc cnt now tm na nn nc G :=
  ⟨by simp, by simp [go_sem], by simp [go_sem], by simp [go_sem], by simp [go_sem], by simp [go_sem], by simp [go_sem], (World.rowIs.alloc (bools_row w2 n G) _)⟩
theorem psB (w2 : World) (fb n fc : Nat) (cnt now tm : Int) (na : Option Addr) (nn nc : Nat) (G : Nat → Bool) : PsV ((w2.alloc (.cells #[.slice (some ⟨fb, 0, none⟩) n fc, .int .i64 cnt, .int .i64 now, .int .i64 tm, .slice na nn nc, .slice (some ⟨w2.heap.size + 1, 0, none⟩) n n] 90)).alloc (.cells (madeCells #[.bool false] n) 4)).drew w2.heap.size (w2.heap.size + 1) fb n fc cnt now tm na nn nc G := by
  have h := bools_row (w2.alloc (.cells #[.slice (some ⟨fb, 0, none⟩) n fc, .int .i64 cnt, .int .i64 now, .int .i64 tm, .slice na nn nc, .slice (some ⟨w2.heap.size + 1, 0, none⟩) n n] 90)) n G
  simp only [World.size_alloc] at h
  exact ⟨by simp; omega, by simp [go_sem], by simp [go_sem], by simp [go_sem], by simp [go_sem], by simp [go_sem], by simp [go_sem], h⟩
theorem PsV.save {V W : World} {qb ab fb n fc : Nat} {cnt now tm : Int} {na : Option Addr} {nn nc : Nat} {G : Nat → Bool} (h : PsV V qb ab fb n fc cnt now tm na nn nc G) {S : Nat → Prop} (hs : Save V W S) (hq : ¬ S qb) : W.cell? ⟨qb, 0, none⟩ = some (.slice (some ⟨fb, 0, none⟩) n fc) ∧ W.cell? ⟨qb, 5, none⟩ = some (.slice (some ⟨ab, 0, none⟩) n n) ∧ qb < W.heap.size :=
  ⟨(hs.cell (p := ⟨qb, _, none⟩) h.lq hq).trans h.w0, (hs.cell (p := ⟨qb, _, none⟩) h.lq hq).trans h.w5, Nat.lt_of_lt_of_le h.lq hs.size⟩
/-- A new Monitor's box, behind a call. -/
theorem moz {V w2 : World} (h : Below (V.alloc (.cells #[.slice none 0 0, .int .i64 0, .int .i64 0, .slice none 0 0] 34)).drew.heap.size (V.alloc (.cells #[.slice none 0 0, .int .i64 0, .int .i64 0, .slice none 0 0] 34)).drew w2) : Below V.heap.size V w2 ∧ MBox w2 V.heap.size none 0 0 0 0 none 0 0 ∧ MFree w2 V.heap.size := by
  have h1 := below_undrew h
  have hz : (V.alloc (.cells #[.slice none 0 0, .int .i64 0, .int .i64 0, .slice none 0 0] 34)).heap.size = V.heap.size + 1 := by simp
  have hs := h1.size
  exact ⟨(below_one' V _).trans (h1.mono (by omega)), (MBox.new V none 0 0 0 0 none 0 0 34).on h1, (MFree.new V (.slice none 0 0) (.int .i64 0) (.int .i64 0) (.slice none 0 0) 34).on h1 (by omega)⟩
set_option maxRecDepth 20000 in
set_option maxHeartbeats 8000000 in
theorem implStep_ok (f : List Nd) (fb fc : Nat) (cnt now : Int) (C : List Cl) (ca : Option Addr) (cc : Nat) (tm : Int) (S : List ByteArray) (na : Option Addr) (nn nc : Nat) (hnn : S.length = nn) (hnl : nn ≤ maxLen) (hS : TxOk S) (hm : monB f cnt now C = true) (he : evB tm S = true) (hle : now ≤ tm) (hcn : cnt ≠ 1000000) (D : List Cl) (hD : nextC cnt now tm S f C = D) (G : Nat → Bool) (hG : gV cnt now tm S f C = G) (w : World) (hM : MonIn w fb f ca C) (hT : TsAt w na S) (hkw : Kw w) (hg : 1 < w.heap.size) :
    Calls Tryz.prog 13 #[.agg #[.slice (some ⟨fb, 0, none⟩) f.length fc, .int .i64 cnt, .int .i64 now, .slice ca C.length cc], .agg #[.int .i64 tm, .slice na nn nc]] w fun e w' => ∃ g gc cb ab V, e = .returned (.agg #[.slice (some ⟨g, 0, none⟩) f.length gc, .int .i64 (cnt + 1), .int .i64 tm, .slice (some ⟨cb, 0, none⟩) f.length f.length, .bool (G (f.length - 1)), .slice (some ⟨ab, 0, none⟩) f.length f.length, .int .i64 0]) ∧ w.heap.size ≤ ab ∧ ab < cb ∧ cb < g ∧ NodesAt w' g f ∧ RowA w' (some ⟨g, 0, none⟩) f.length ∧ CkO w' cb (f.length * 4) D V zC f.length ∧ (∀ i k, i < f.length → (V i).ownBlock = some k → k < g) ∧ w'.rowIs ab 4 f.length (boolsTo G f.length) ∧ Below w.heap.size w w' := by
  have HKr : Hid (∀ i, i < f.length → krB (clAt C i).lo (clAt C i).hi (clAt C i).ts = true) := fun i hi => by
    have hm1 := hm
    simp only [monB, Bool.and_eq_true, cellsTo, List.all_eq_true, List.mem_range] at hm1
    exact (cell_keeps (hm1.2.2.2.2.2 i hi)).1
  have hm0 := hm
  simp only [monB, Bool.and_eq_true, decide_eq_true_eq] at hm0
  obtain ⟨hr, hcl, htc, htn, _, hcells⟩ := hm0
  have hfl : 1 ≤ f.length ∧ f.length ≤ 24 := by have := hr; simp only [rightB, Bool.and_eq_true, decide_eq_true_eq] at this; exact this.1
  have htm : timeB tm = true := by
    simp only [evB, Bool.and_eq_true, decide_eq_true_eq] at he
    simp [timeB, he.1]
  have t1 := timeB_parts htc
  have HMr := hid (fun w h hk hg => implMon_any f fb fc cnt now C ca cc true hm w h hk hg)
  unfold moV at HMr
  have HEv := hid (fun w h hk hg => implEvent_any tm S nn hnn na nc hS hnl w h hk hg)
  rw [he] at HEv
  have HM := hid hM
  have HT := hid hT
  have HK := hid hkw
  have hmk := run_makeBo f.length (by omega)
  have HNm : Hid (∀ i, i < f.length → (ndAt f i).nm.size ≤ 10000) := fun i hi => by
    have h2 : goodTo f f.length = true := by
      have := hr
      simp only [rightB, Bool.and_eq_true] at this
      exact this.2.1
    have := goodTo_nm2 f _ h2 i hi
    omega
  have HHs := hid (And.intro hnn (And.intro hD hG))
  have HB0 := hid (kbelow3 w (.cells #[.slice (some ⟨fb, 0, none⟩) f.length fc, .int .i64 cnt, .int .i64 now, .slice ca C.length cc] 34) (.cells #[.int .i64 tm, .slice na nn nc] 41) (.cells #[.slice none 0 0, .int .i64 0, .int .i64 0, .slice none 0 0, .bool false, .slice none 0 0, .int .i64 0] 36))
  have HX0 := hid (PsBox.new w fb f.length fc cnt now ca C.length cc tm na nn nc)
  have hw1 : IntKind.i64.wrap (cnt + 1) = cnt + 1 := by
    rw [IntKind.wrap_i64]
    omega
  obtain ⟨m, hmn⟩ : ∃ m, f.length = m + 1 := ⟨f.length - 1, by omega⟩
  have HLa := hid (fun a c w => last_any a f.length c (by omega) m hmn w)
  have HMn := hid hmn
  clear hmn
  have hcn' : (cnt == 1000000) = false := by simpa using hcn
  have hle' : ¬ tm < now := by omega
  have HLe := hid (And.intro hm (And.intro hr hcl))
  have HTm := hid (And.intro htc (And.intro htn htm))
  clear hm hr hcl hcells hM hT hkw he hcn hnn hD hG htc htn htm
  go_enter Tryz.func13, Tryz.ntmps13
  go_wp2_with (first | (go_at_call 53; refine (HMr.out _ (HM.out.on HB0.out) (HK.out.below HB0.out hg) (by have := HB0.out.size; omega)).mono ?_; rintro e w1 ⟨rfl, hb1⟩; have HB1 := hid (HB0.out.trans (hb1.mono HB0.out.size)); have HX1 := hid (HX0.out.on hb1); obtain ⟨⟨_, m0, m1, m2, m3⟩, l1, e0, e1, _, _⟩ := HX1.out; have hz1 := hb1.size; clear hb1) | (go_at_call 54; refine (HEv.out _ (HT.out.below HB1.out) (HK.out.below HB1.out hg) (by have := HB1.out.size; omega)).mono ?_; rintro e w2 ⟨rfl, hb2⟩; have HB2 := hid (HB1.out.trans (hb2.mono HB1.out.size)); have HX2 := hid (HX1.out.on hb2); clear m0 m1 m2 m3 l1 e0 e1; obtain ⟨⟨l0, m0, m1, m2, m3⟩, l1, e0, e1, _, _⟩ := HX2.out; have hz2 := hb2.size; clear hb2))
  have HS := hid (fun W' (hb : Below w2.heap.size w2 W') => (by obtain ⟨⟨_, m0, m1, m2, m3⟩, _, e0, e1, _, _⟩ := HX2.out.on hb; exact ⟨m0, m1, m2, e0, e1⟩ : W'.cell? ⟨w.heap.size, 0, none⟩ = some (.slice (some ⟨fb, 0, none⟩) f.length fc) ∧ W'.cell? ⟨w.heap.size, 1, none⟩ = some (.int .i64 cnt) ∧ W'.cell? ⟨w.heap.size, 2, none⟩ = some (.int .i64 now) ∧ W'.cell? ⟨w.heap.size + 1, 0, none⟩ = some (.int .i64 tm) ∧ W'.cell? ⟨w.heap.size + 1, 1, none⟩ = some (.slice na nn nc)))
  have HBV := hid (Below.refl w2.heap.size w2)
  go_region_held3 (fun W' => W'.cell? ⟨w.heap.size, 0, none⟩ = some (.slice (some ⟨fb, 0, none⟩) f.length fc) ∧ W'.cell? ⟨w.heap.size, 1, none⟩ = some (.int .i64 cnt) ∧ W'.cell? ⟨w.heap.size, 2, none⟩ = some (.int .i64 now) ∧ W'.cell? ⟨w.heap.size + 1, 0, none⟩ = some (.int .i64 tm) ∧ W'.cell? ⟨w.heap.size + 1, 1, none⟩ = some (.slice na nn nc)) ((refine HS.out _ ?_; repeat (first | exact HBV.out | apply below_drew | (refine Below.alloc ?_ (by first | omega | (simp; done) | (simp; omega)) _) | (refine Below.setCell ?_ (by show w2.heap.size ≤ _; first | omega | (simp; done) | (simp; omega)) _)))) (fail)
  · have HPV := hid (psA w2 fb f.length fc cnt now tm na nn nc G)
    have hBV : Below w2.heap.size w2 ((w2.alloc (.cells (madeCells #[.bool false] f.length) 4)).alloc (.cells #[.slice (some ⟨fb, 0, none⟩) f.length fc, .int .i64 cnt, .int .i64 now, .int .i64 tm, .slice na nn nc, .slice (some ⟨w2.heap.size, 0, none⟩) f.length f.length] 90)).drew := below_drew (bbelow2' w2 _ _)
    have HXV := hid (HX2.out.on hBV)
    have HBw := hid (HB2.out.trans (hBV.mono HB2.out.size))
    have hzz : w.heap.size + 3 ≤ w2.heap.size := by have := HX2.out.o.lt; omega
    have hqa : ¬ w2.heap.size + 1 = w2.heap.size := by omega
    have h3q : w.heap.size + 3 ≤ w2.heap.size + 1 := by omega
    have h3a : w.heap.size + 3 ≤ w2.heap.size := by omega
    clear hBV HS HBV HX2 HB2 HX1 HB1 HB0 HX0 HMr HEv hmk m0 m1 m2 m3 e0 e1 l0 l1 hz1 hz2 hzz
    generalize ((w2.alloc (.cells (madeCells #[.bool false] f.length) 4)).alloc (.cells #[.slice (some ⟨fb, 0, none⟩) f.length fc, .int .i64 cnt, .int .i64 now, .int .i64 tm, .slice na nn nc, .slice (some ⟨w2.heap.size, 0, none⟩) f.length f.length] 90)).drew = V at *
    generalize hqe : w2.heap.size + 1 = qb at *
    generalize hae : w2.heap.size = ab at *
    clear hqe hae
    obtain ⟨⟨l0, m0, m1, m2, m3⟩, l1, e0, e1, _, _⟩ := HXV.out
    obtain ⟨lq, v0, v1, v2, v3, v4, v5, vrow⟩ := HPV.out
    have HGo := hid (goThrough_any w f fb fc cnt now tm S na nn nc HHs.out.1 hnl C ca cc HLe.out.2.2 HLe.out.2.1 HKr.out HTm.out.2.1 HTm.out.2.2 ab f.length D HHs.out.2.1 G HHs.out.2.2 V HM.out.nodes HM.out.cells HT.out HBw.out (by omega) vrow)
    have habV := vrow.lt
    clear vrow
    go_wp2_with (go_at_call 55; refine HGo.out.mono ?_; rintro e w4 ⟨cb, V4, rfl, hcb, hO4, hr4, hs4⟩; have HO4 := hid hO4; have HR4 := hid hr4; have HS4 := hid hs4; have HX4 := hid (HXV.out.save hs4 (by omega) (by omega) (by omega)); clear m0 m1 m2 m3 e0 e1 l0 l1 v0 v1 v2 v3 v4 v5; obtain ⟨⟨l0, m0, m1, m2, m3⟩, l1, e0, e1, _, _⟩ := HX4.out; obtain ⟨v0, v5, lq4⟩ := HPV.out.save hs4 hqa; have hz4 := hs4.size; clear hO4 hr4 hs4)
    have HW4 := hid (And.intro v0 v5)
    have HSs := hid (fun W' (hb : Below w4.heap.size w4 W') => (by obtain ⟨⟨_, m0, m1, m2, m3⟩, _, e0, e1, _, _⟩ := HX4.out.on hb; exact ⟨(hb.cell (p := ⟨qb, 0, none⟩) lq4).trans HW4.out.1, m1, e0⟩ : W'.cell? ⟨qb, 0, none⟩ = some (.slice (some ⟨fb, 0, none⟩) f.length fc) ∧ W'.cell? ⟨w.heap.size, 1, none⟩ = some (.int .i64 cnt) ∧ W'.cell? ⟨w.heap.size + 1, 0, none⟩ = some (.int .i64 tm)))
    have HBV4 := hid (Below.refl w4.heap.size w4)
    have HB4 := hid (HBw.out.trans (HS4.out.below (B := w.heap.size) HBw.out.size (fun j e => by omega)))
    have HOwn := hid (fun W' (hb : Below w4.heap.size w4 W') => own_nodes f fb fc (by omega) (by omega) HNm.out W' ((HM.out.nodes.below HB4.out HM.out.nodes.1).below hb (Nat.lt_of_lt_of_le HM.out.nodes.1 HB4.out.size)))
    go_region_held3 (fun W' => W'.cell? ⟨qb, 0, none⟩ = some (.slice (some ⟨fb, 0, none⟩) f.length fc) ∧ W'.cell? ⟨w.heap.size, 1, none⟩ = some (.int .i64 cnt) ∧ W'.cell? ⟨w.heap.size + 1, 0, none⟩ = some (.int .i64 tm)) ((refine HSs.out _ ?_; repeat (first | exact HB5.out | exact HBV4.out | apply below_drew | (refine Below.alloc ?_ (by first | omega | (simp; done) | (simp; omega)) _) | (refine Below.setCell ?_ (by show w4.heap.size ≤ _; first | omega | (simp; done) | (simp; omega)) _)))) ((go_at_call 51; refine (HOwn.out _ (by (repeat (first | exact HBV4.out | apply below_drew | (refine Below.alloc ?_ (by first | omega | (simp; done)) _))))).mono ?_; rintro e w5 ⟨g, gc, gm, gz, rfl, _, hgg, hgm, hgr, hgn, hb5'⟩; first | (obtain ⟨hb5, hmb, hmf⟩ := moz hb5'; have HMb := hid hmb; have HMf := hid hmf; obtain ⟨ml, y0, y1, y2, y3⟩ := hmb; obtain ⟨f0, f1, f2, f3⟩ := hmf; clear hb5'; have HB5 := hid hb5; have HG5 := hid (And.intro hgm (And.intro hgr hgn)); have hz5 := hb5.size; have hg4 : w4.heap.size ≤ g := (by first | exact hgg | (have h := hgg; simp at h; omega)); have HGG := hid hgg; clear hb5 hgm hgr hgn hgg) | (have hb5 := below_undrew hb5'; clear hb5'; have HB5 := hid hb5; have HG5 := hid (And.intro hgm (And.intro hgr hgn)); have hz5 := hb5.size; have hg4 : w4.heap.size ≤ g := (by first | exact hgg | (have h := hgg; simp at h; omega)); have HGG := hid hgg; clear hb5 hgm hgr hgn hgg)))
    · have HM9 := hid (MBox.new w5 (some ⟨g, 0, none⟩) f.length gc (cnt + 1) tm (some ⟨cb, 0, none⟩) f.length f.length 34)
      have HS59 : Hid (Save w5 (w5.alloc (.cells #[.slice (some ⟨g, 0, none⟩) f.length gc, .int .i64 (cnt + 1), .int .i64 tm, .slice (some ⟨cb, 0, none⟩) f.length f.length] 34)) (fun j => j = w5.heap.size)) := Save.alloc (Save.refl w5 _) _
      have hgm9 : ¬ g = w5.heap.size := by have := HG5.out.2.2.1; omega
      have hmb4 : w4.heap.size ≤ w5.heap.size := hz5
      generalize w5.alloc (.cells #[.slice (some ⟨g, 0, none⟩) f.length gc, .int .i64 (cnt + 1), .int .i64 tm, .slice (some ⟨cb, 0, none⟩) f.length f.length] 34) = W9 at *
      generalize hmbe : w5.heap.size = mb at *
      have HB49 := hid (HB5.out.trans (HS59.out.below (B := w4.heap.size) (by omega) (fun j e => by omega)))
      clear hmbe
      have HXQ := hid (HX4.out.on HB49.out)
      have hq9 := HXQ.out.o.lt
      have hmQ : ¬ mb = w.heap.size + 1 + 1 := by have := HX4.out.o.lt; omega
      have HS10 := hid (fun W' (hs : Save W9 W' (fun j => j = w.heap.size + 1 + 1)) => (by
        obtain ⟨ml, y0, y1, y2, y3⟩ := HM9.out.save hs hmQ
        have hab4 := HR4.out.lt
        have a5 := (hs.cell (p := ⟨ab, m, none⟩) (Nat.lt_of_lt_of_le hab4 HB49.out.size) (by show ¬ ab = _; omega)).trans ((HB49.out.cell (p := ⟨ab, m, none⟩) hab4).trans (HR4.out.cell (by have := HMn.out; omega)))
        have a5' : boolsTo G f.length m = .bool (G m) := by unfold boolsTo; rw [if_pos (by have := HMn.out; omega)]
        rw [a5'] at a5
        have b0 := fun i => (hs.cell (p := ⟨qb, i, none⟩) (Nat.lt_of_lt_of_le lq4 HB49.out.size) (by show ¬ qb = _; omega)).trans (HB49.out.cell (p := ⟨qb, i, none⟩) lq4)
        exact ⟨y0, y1, y2, y3, (b0 0).trans HW4.out.1, (b0 5).trans HW4.out.2, a5⟩ : W'.cell? ⟨mb, 0, none⟩ = some (.slice (some ⟨g, 0, none⟩) f.length gc) ∧ W'.cell? ⟨mb, 1, none⟩ = some (.int .i64 (cnt + 1)) ∧ W'.cell? ⟨mb, 2, none⟩ = some (.int .i64 tm) ∧ W'.cell? ⟨mb, 3, none⟩ = some (.slice (some ⟨cb, 0, none⟩) f.length f.length) ∧ W'.cell? ⟨qb, 0, none⟩ = some (.slice (some ⟨fb, 0, none⟩) f.length fc) ∧ W'.cell? ⟨qb, 5, none⟩ = some (.slice (some ⟨ab, 0, none⟩) f.length f.length) ∧ W'.cell? ⟨ab, m, none⟩ = some (.bool (G m))))
      have HSv9 := hid (Save.refl W9 (fun j => j = w.heap.size + 1 + 1))
      have hmf : m < f.length := by have := HMn.out; omega
      obtain ⟨_, o0, o1, o2, o3, o4, o5, o6⟩ := HXQ.out.o
      obtain ⟨g0, g1, g2, g3, g4, g5, g6⟩ := HXQ.out.g
      go_wp2_with fail
      go_region_held3 (fun W' => W'.cell? ⟨mb, 0, none⟩ = some (.slice (some ⟨g, 0, none⟩) f.length gc) ∧ W'.cell? ⟨mb, 1, none⟩ = some (.int .i64 (cnt + 1)) ∧ W'.cell? ⟨mb, 2, none⟩ = some (.int .i64 tm) ∧ W'.cell? ⟨mb, 3, none⟩ = some (.slice (some ⟨cb, 0, none⟩) f.length f.length) ∧ W'.cell? ⟨qb, 0, none⟩ = some (.slice (some ⟨fb, 0, none⟩) f.length fc) ∧ W'.cell? ⟨qb, 5, none⟩ = some (.slice (some ⟨ab, 0, none⟩) f.length f.length) ∧ W'.cell? ⟨ab, m, none⟩ = some (.bool (G m))) (first | (with_reducible exact HS10.out _ (Save.drew HSv9.out)) | (with_reducible exact HS10.out _ (Save.drew (set7 _ _ _ _ _ _ _ _ _)))) ((go_at_call 56; refine (HLa.out _ _ _).mono ?_; rintro e w6 ⟨rfl, rfl⟩))
      go_wp2_with fail
      refine bodyPost_ret (v := .agg #[.slice (some ⟨g, 0, none⟩) f.length gc, .int .i64 (cnt + 1), .int .i64 tm, .slice (some ⟨cb, 0, none⟩) f.length f.length, .bool (G m), .slice (some ⟨ab, 0, none⟩) f.length f.length, .int .i64 0]) (by simp [results, Tryz.results13, go_sem, o0, o1, o2, o3, o4, o5, o6, g0, g1, g2, g3, g4, g5, g6]) rfl ?_
      have hsf := (set7 W9 (w.heap.size + 1 + 1) (.slice (some ⟨g, 0, none⟩) f.length gc) (.int .i64 (cnt + 1)) (.int .i64 tm) (.slice (some ⟨cb, 0, none⟩) f.length f.length) (.bool (G m)) (.slice (some ⟨ab, 0, none⟩) f.length f.length) (.int .i64 0)).drew
      have hcb4 := HO4.out.row.lt
      have hn5 := HG5.out.2.2
      have hab4 := HR4.out.lt
      have hQ : w.heap.size + 1 + 1 < w4.heap.size := HX4.out.o.lt
      have hgl := (HS59.out.nodes hn5 hgm9).1
      refine ⟨g, gc, cb, ab, V4, by rw [show f.length - 1 = m by have := HMn.out; omega], by omega, by omega, by omega, hsf.nodes (HS59.out.nodes hn5 hgm9) (by omega), Or.inr ⟨g, gm, gz, rfl, HG5.out.1, (HG5.out.2.1.of_block (HS59.out.block g hn5.1 hgm9)).of_block (hsf.block g hgl (by omega))⟩, (HO4.out.save (Save.of_below HB49.out (fun _ => False) (fun j h1 h2 => absurd h1 (by omega))) (fun h => h) (fun _ _ h => h)).save hsf (by omega) (fun j hj => by omega), (fun i k hi e => by have := ((HO4.out.own i hi).lt k e).2; omega), (HR4.out.of_block (HB49.out.block ab hab4)).of_block (hsf.block ab (Nat.lt_of_lt_of_le hab4 HB49.out.size) (by omega)), (HB4.out.trans (HB49.out.mono HB4.out.size)).trans (hsf.below (B := w.heap.size) (by have := HB4.out.size; have := HB49.out.size; omega) (fun j e => by omega))⟩
    · have HM9 : Hid (MBox ((((w5.setCell ⟨w4.heap.size, 0, none⟩ (.slice (some ⟨g, 0, none⟩) f.length gc)).setCell ⟨w4.heap.size, 1, none⟩ (.int .i64 (cnt + 1))).setCell ⟨w4.heap.size, 2, none⟩ (.int .i64 tm)).setCell ⟨w4.heap.size, 3, none⟩ (.slice (some ⟨cb, 0, none⟩) f.length f.length)) w4.heap.size (some ⟨g, 0, none⟩) f.length gc (cnt + 1) tm (some ⟨cb, 0, none⟩) f.length f.length) := ⟨by simpa using ml, by simp [go_sem, y0], by simp [go_sem, y1], by simp [go_sem, y2], by simp [go_sem, y3]⟩
      have HS59 := hid (gset4 w5 w4.heap.size (.slice (some ⟨g, 0, none⟩) f.length gc) (.int .i64 (cnt + 1)) (.int .i64 tm) (.slice (some ⟨cb, 0, none⟩) f.length f.length))
      have hgm9 : ¬ g = w4.heap.size := by have h := HGG.out; simp at h; omega
      have hmb4 : w4.heap.size ≤ w4.heap.size := Nat.le_refl _
      clear ml y0 y1 y2 y3 f0 f1 f2 f3 HMb HMf
      generalize (((w5.setCell ⟨w4.heap.size, 0, none⟩ (.slice (some ⟨g, 0, none⟩) f.length gc)).setCell ⟨w4.heap.size, 1, none⟩ (.int .i64 (cnt + 1))).setCell ⟨w4.heap.size, 2, none⟩ (.int .i64 tm)).setCell ⟨w4.heap.size, 3, none⟩ (.slice (some ⟨cb, 0, none⟩) f.length f.length) = W9 at *
      have HB49 := hid (HB5.out.trans (HS59.out.below (B := w4.heap.size) (by omega) (fun j e => by omega)))
      have HXQ := hid (HX4.out.on HB49.out)
      have hq9 := HXQ.out.o.lt
      have hmQ : ¬ w4.heap.size = w.heap.size + 1 + 1 := by have := HX4.out.o.lt; omega
      have HS10 := hid (fun W' (hs : Save W9 W' (fun j => j = w.heap.size + 1 + 1)) => (by
        obtain ⟨ml, y0, y1, y2, y3⟩ := HM9.out.save hs hmQ
        have hab4 := HR4.out.lt
        have a5 := (hs.cell (p := ⟨ab, m, none⟩) (Nat.lt_of_lt_of_le hab4 HB49.out.size) (by show ¬ ab = _; omega)).trans ((HB49.out.cell (p := ⟨ab, m, none⟩) hab4).trans (HR4.out.cell (by have := HMn.out; omega)))
        have a5' : boolsTo G f.length m = .bool (G m) := by unfold boolsTo; rw [if_pos (by have := HMn.out; omega)]
        rw [a5'] at a5
        have b0 := fun i => (hs.cell (p := ⟨qb, i, none⟩) (Nat.lt_of_lt_of_le lq4 HB49.out.size) (by show ¬ qb = _; omega)).trans (HB49.out.cell (p := ⟨qb, i, none⟩) lq4)
        exact ⟨y0, y1, y2, y3, (b0 0).trans HW4.out.1, (b0 5).trans HW4.out.2, a5⟩ : W'.cell? ⟨w4.heap.size, 0, none⟩ = some (.slice (some ⟨g, 0, none⟩) f.length gc) ∧ W'.cell? ⟨w4.heap.size, 1, none⟩ = some (.int .i64 (cnt + 1)) ∧ W'.cell? ⟨w4.heap.size, 2, none⟩ = some (.int .i64 tm) ∧ W'.cell? ⟨w4.heap.size, 3, none⟩ = some (.slice (some ⟨cb, 0, none⟩) f.length f.length) ∧ W'.cell? ⟨qb, 0, none⟩ = some (.slice (some ⟨fb, 0, none⟩) f.length fc) ∧ W'.cell? ⟨qb, 5, none⟩ = some (.slice (some ⟨ab, 0, none⟩) f.length f.length) ∧ W'.cell? ⟨ab, m, none⟩ = some (.bool (G m))))
      have HSv9 := hid (Save.refl W9 (fun j => j = w.heap.size + 1 + 1))
      have hmf : m < f.length := by have := HMn.out; omega
      obtain ⟨_, o0, o1, o2, o3, o4, o5, o6⟩ := HXQ.out.o
      obtain ⟨g0, g1, g2, g3, g4, g5, g6⟩ := HXQ.out.g
      go_wp2_with fail
      go_region_held3 (fun W' => W'.cell? ⟨w4.heap.size, 0, none⟩ = some (.slice (some ⟨g, 0, none⟩) f.length gc) ∧ W'.cell? ⟨w4.heap.size, 1, none⟩ = some (.int .i64 (cnt + 1)) ∧ W'.cell? ⟨w4.heap.size, 2, none⟩ = some (.int .i64 tm) ∧ W'.cell? ⟨w4.heap.size, 3, none⟩ = some (.slice (some ⟨cb, 0, none⟩) f.length f.length) ∧ W'.cell? ⟨qb, 0, none⟩ = some (.slice (some ⟨fb, 0, none⟩) f.length fc) ∧ W'.cell? ⟨qb, 5, none⟩ = some (.slice (some ⟨ab, 0, none⟩) f.length f.length) ∧ W'.cell? ⟨ab, m, none⟩ = some (.bool (G m))) (first | (with_reducible exact HS10.out _ (Save.drew HSv9.out)) | (with_reducible exact HS10.out _ (Save.drew (set7 _ _ _ _ _ _ _ _ _)))) ((go_at_call 56; refine (HLa.out _ _ _).mono ?_; rintro e w6 ⟨rfl, rfl⟩))
      go_wp2_with fail
      refine bodyPost_ret (v := .agg #[.slice (some ⟨g, 0, none⟩) f.length gc, .int .i64 (cnt + 1), .int .i64 tm, .slice (some ⟨cb, 0, none⟩) f.length f.length, .bool (G m), .slice (some ⟨ab, 0, none⟩) f.length f.length, .int .i64 0]) (by simp [results, Tryz.results13, go_sem, o0, o1, o2, o3, o4, o5, o6, g0, g1, g2, g3, g4, g5, g6]) rfl ?_
      have hsf := (set7 W9 (w.heap.size + 1 + 1) (.slice (some ⟨g, 0, none⟩) f.length gc) (.int .i64 (cnt + 1)) (.int .i64 tm) (.slice (some ⟨cb, 0, none⟩) f.length f.length) (.bool (G m)) (.slice (some ⟨ab, 0, none⟩) f.length f.length) (.int .i64 0)).drew
      have hcb4 := HO4.out.row.lt
      have hn5 := HG5.out.2.2
      have hab4 := HR4.out.lt
      have hQ : w.heap.size + 1 + 1 < w4.heap.size := HX4.out.o.lt
      have hgl := (HS59.out.nodes hn5 hgm9).1
      refine ⟨g, gc, cb, ab, V4, by rw [show f.length - 1 = m by have := HMn.out; omega], by omega, by omega, by omega, hsf.nodes (HS59.out.nodes hn5 hgm9) (by omega), Or.inr ⟨g, gm, gz, rfl, HG5.out.1, (HG5.out.2.1.of_block (HS59.out.block g hn5.1 hgm9)).of_block (hsf.block g hgl (by omega))⟩, (HO4.out.save (Save.of_below HB49.out (fun _ => False) (fun j h1 h2 => absurd h1 (by omega))) (fun h => h) (fun _ _ h => h)).save hsf (by omega) (fun j hj => by omega), (fun i k hi e => by have := ((HO4.out.own i hi).lt k e).2; omega), (HR4.out.of_block (HB49.out.block ab hab4)).of_block (hsf.block ab (Nat.lt_of_lt_of_le hab4 HB49.out.size) (by omega)), (HB4.out.trans (HB49.out.mono HB4.out.size)).trans (hsf.below (B := w.heap.size) (by have := HB4.out.size; have := HB49.out.size; omega) (fun j e => by omega))⟩
  · have HPV := hid (psB w2 fb f.length fc cnt now tm na nn nc G)
    have hBV : Below w2.heap.size w2 ((w2.alloc (.cells #[.slice (some ⟨fb, 0, none⟩) f.length fc, .int .i64 cnt, .int .i64 now, .int .i64 tm, .slice na nn nc, .slice (some ⟨w2.heap.size + 1, 0, none⟩) f.length f.length] 90)).alloc (.cells (madeCells #[.bool false] f.length) 4)).drew := below_drew (bbelow2' w2 _ _)
    have HXV := hid (HX2.out.on hBV)
    have HBw := hid (HB2.out.trans (hBV.mono HB2.out.size))
    have hzz : w.heap.size + 3 ≤ w2.heap.size := by have := HX2.out.o.lt; omega
    have hqa : ¬ w2.heap.size = w2.heap.size + 1 := by omega
    have h3q : w.heap.size + 3 ≤ w2.heap.size := by omega
    have h3a : w.heap.size + 3 ≤ w2.heap.size + 1 := by omega
    clear hBV HS HBV HX2 HB2 HX1 HB1 HB0 HX0 HMr HEv hmk m0 m1 m2 m3 e0 e1 l0 l1 hz1 hz2 hzz
    generalize ((w2.alloc (.cells #[.slice (some ⟨fb, 0, none⟩) f.length fc, .int .i64 cnt, .int .i64 now, .int .i64 tm, .slice na nn nc, .slice (some ⟨w2.heap.size + 1, 0, none⟩) f.length f.length] 90)).alloc (.cells (madeCells #[.bool false] f.length) 4)).drew = V at *
    generalize hae : w2.heap.size + 1 = ab at *
    generalize hqe : w2.heap.size = qb at *
    clear hqe hae
    obtain ⟨⟨l0, m0, m1, m2, m3⟩, l1, e0, e1, _, _⟩ := HXV.out
    obtain ⟨lq, v0, v1, v2, v3, v4, v5, vrow⟩ := HPV.out
    have HGo := hid (goThrough_any w f fb fc cnt now tm S na nn nc HHs.out.1 hnl C ca cc HLe.out.2.2 HLe.out.2.1 HKr.out HTm.out.2.1 HTm.out.2.2 ab f.length D HHs.out.2.1 G HHs.out.2.2 V HM.out.nodes HM.out.cells HT.out HBw.out (by omega) vrow)
    have habV := vrow.lt
    clear vrow
    go_wp2_with (go_at_call 55; refine HGo.out.mono ?_; rintro e w4 ⟨cb, V4, rfl, hcb, hO4, hr4, hs4⟩; have HO4 := hid hO4; have HR4 := hid hr4; have HS4 := hid hs4; have HX4 := hid (HXV.out.save hs4 (by omega) (by omega) (by omega)); clear m0 m1 m2 m3 e0 e1 l0 l1 v0 v1 v2 v3 v4 v5; obtain ⟨⟨l0, m0, m1, m2, m3⟩, l1, e0, e1, _, _⟩ := HX4.out; obtain ⟨v0, v5, lq4⟩ := HPV.out.save hs4 hqa; have hz4 := hs4.size; clear hO4 hr4 hs4)
    have HW4 := hid (And.intro v0 v5)
    have HSs := hid (fun W' (hb : Below w4.heap.size w4 W') => (by obtain ⟨⟨_, m0, m1, m2, m3⟩, _, e0, e1, _, _⟩ := HX4.out.on hb; exact ⟨(hb.cell (p := ⟨qb, 0, none⟩) lq4).trans HW4.out.1, m1, e0⟩ : W'.cell? ⟨qb, 0, none⟩ = some (.slice (some ⟨fb, 0, none⟩) f.length fc) ∧ W'.cell? ⟨w.heap.size, 1, none⟩ = some (.int .i64 cnt) ∧ W'.cell? ⟨w.heap.size + 1, 0, none⟩ = some (.int .i64 tm)))
    have HBV4 := hid (Below.refl w4.heap.size w4)
    have HB4 := hid (HBw.out.trans (HS4.out.below (B := w.heap.size) HBw.out.size (fun j e => by omega)))
    have HOwn := hid (fun W' (hb : Below w4.heap.size w4 W') => own_nodes f fb fc (by omega) (by omega) HNm.out W' ((HM.out.nodes.below HB4.out HM.out.nodes.1).below hb (Nat.lt_of_lt_of_le HM.out.nodes.1 HB4.out.size)))
    go_region_held3 (fun W' => W'.cell? ⟨qb, 0, none⟩ = some (.slice (some ⟨fb, 0, none⟩) f.length fc) ∧ W'.cell? ⟨w.heap.size, 1, none⟩ = some (.int .i64 cnt) ∧ W'.cell? ⟨w.heap.size + 1, 0, none⟩ = some (.int .i64 tm)) ((refine HSs.out _ ?_; repeat (first | exact HB5.out | exact HBV4.out | apply below_drew | (refine Below.alloc ?_ (by first | omega | (simp; done) | (simp; omega)) _) | (refine Below.setCell ?_ (by show w4.heap.size ≤ _; first | omega | (simp; done) | (simp; omega)) _)))) ((go_at_call 51; refine (HOwn.out _ (by (repeat (first | exact HBV4.out | apply below_drew | (refine Below.alloc ?_ (by first | omega | (simp; done)) _))))).mono ?_; rintro e w5 ⟨g, gc, gm, gz, rfl, _, hgg, hgm, hgr, hgn, hb5'⟩; first | (obtain ⟨hb5, hmb, hmf⟩ := moz hb5'; have HMb := hid hmb; have HMf := hid hmf; obtain ⟨ml, y0, y1, y2, y3⟩ := hmb; obtain ⟨f0, f1, f2, f3⟩ := hmf; clear hb5'; have HB5 := hid hb5; have HG5 := hid (And.intro hgm (And.intro hgr hgn)); have hz5 := hb5.size; have hg4 : w4.heap.size ≤ g := (by first | exact hgg | (have h := hgg; simp at h; omega)); have HGG := hid hgg; clear hb5 hgm hgr hgn hgg) | (have hb5 := below_undrew hb5'; clear hb5'; have HB5 := hid hb5; have HG5 := hid (And.intro hgm (And.intro hgr hgn)); have hz5 := hb5.size; have hg4 : w4.heap.size ≤ g := (by first | exact hgg | (have h := hgg; simp at h; omega)); have HGG := hid hgg; clear hb5 hgm hgr hgn hgg)))
    · have HM9 := hid (MBox.new w5 (some ⟨g, 0, none⟩) f.length gc (cnt + 1) tm (some ⟨cb, 0, none⟩) f.length f.length 34)
      have HS59 : Hid (Save w5 (w5.alloc (.cells #[.slice (some ⟨g, 0, none⟩) f.length gc, .int .i64 (cnt + 1), .int .i64 tm, .slice (some ⟨cb, 0, none⟩) f.length f.length] 34)) (fun j => j = w5.heap.size)) := Save.alloc (Save.refl w5 _) _
      have hgm9 : ¬ g = w5.heap.size := by have := HG5.out.2.2.1; omega
      have hmb4 : w4.heap.size ≤ w5.heap.size := hz5
      generalize w5.alloc (.cells #[.slice (some ⟨g, 0, none⟩) f.length gc, .int .i64 (cnt + 1), .int .i64 tm, .slice (some ⟨cb, 0, none⟩) f.length f.length] 34) = W9 at *
      generalize hmbe : w5.heap.size = mb at *
      have HB49 := hid (HB5.out.trans (HS59.out.below (B := w4.heap.size) (by omega) (fun j e => by omega)))
      clear hmbe
      have HXQ := hid (HX4.out.on HB49.out)
      have hq9 := HXQ.out.o.lt
      have hmQ : ¬ mb = w.heap.size + 1 + 1 := by have := HX4.out.o.lt; omega
      have HS10 := hid (fun W' (hs : Save W9 W' (fun j => j = w.heap.size + 1 + 1)) => (by
        obtain ⟨ml, y0, y1, y2, y3⟩ := HM9.out.save hs hmQ
        have hab4 := HR4.out.lt
        have a5 := (hs.cell (p := ⟨ab, m, none⟩) (Nat.lt_of_lt_of_le hab4 HB49.out.size) (by show ¬ ab = _; omega)).trans ((HB49.out.cell (p := ⟨ab, m, none⟩) hab4).trans (HR4.out.cell (by have := HMn.out; omega)))
        have a5' : boolsTo G f.length m = .bool (G m) := by unfold boolsTo; rw [if_pos (by have := HMn.out; omega)]
        rw [a5'] at a5
        have b0 := fun i => (hs.cell (p := ⟨qb, i, none⟩) (Nat.lt_of_lt_of_le lq4 HB49.out.size) (by show ¬ qb = _; omega)).trans (HB49.out.cell (p := ⟨qb, i, none⟩) lq4)
        exact ⟨y0, y1, y2, y3, (b0 0).trans HW4.out.1, (b0 5).trans HW4.out.2, a5⟩ : W'.cell? ⟨mb, 0, none⟩ = some (.slice (some ⟨g, 0, none⟩) f.length gc) ∧ W'.cell? ⟨mb, 1, none⟩ = some (.int .i64 (cnt + 1)) ∧ W'.cell? ⟨mb, 2, none⟩ = some (.int .i64 tm) ∧ W'.cell? ⟨mb, 3, none⟩ = some (.slice (some ⟨cb, 0, none⟩) f.length f.length) ∧ W'.cell? ⟨qb, 0, none⟩ = some (.slice (some ⟨fb, 0, none⟩) f.length fc) ∧ W'.cell? ⟨qb, 5, none⟩ = some (.slice (some ⟨ab, 0, none⟩) f.length f.length) ∧ W'.cell? ⟨ab, m, none⟩ = some (.bool (G m))))
      have HSv9 := hid (Save.refl W9 (fun j => j = w.heap.size + 1 + 1))
      have hmf : m < f.length := by have := HMn.out; omega
      obtain ⟨_, o0, o1, o2, o3, o4, o5, o6⟩ := HXQ.out.o
      obtain ⟨g0, g1, g2, g3, g4, g5, g6⟩ := HXQ.out.g
      go_wp2_with fail
      go_region_held3 (fun W' => W'.cell? ⟨mb, 0, none⟩ = some (.slice (some ⟨g, 0, none⟩) f.length gc) ∧ W'.cell? ⟨mb, 1, none⟩ = some (.int .i64 (cnt + 1)) ∧ W'.cell? ⟨mb, 2, none⟩ = some (.int .i64 tm) ∧ W'.cell? ⟨mb, 3, none⟩ = some (.slice (some ⟨cb, 0, none⟩) f.length f.length) ∧ W'.cell? ⟨qb, 0, none⟩ = some (.slice (some ⟨fb, 0, none⟩) f.length fc) ∧ W'.cell? ⟨qb, 5, none⟩ = some (.slice (some ⟨ab, 0, none⟩) f.length f.length) ∧ W'.cell? ⟨ab, m, none⟩ = some (.bool (G m))) (first | (with_reducible exact HS10.out _ (Save.drew HSv9.out)) | (with_reducible exact HS10.out _ (Save.drew (set7 _ _ _ _ _ _ _ _ _)))) ((go_at_call 56; refine (HLa.out _ _ _).mono ?_; rintro e w6 ⟨rfl, rfl⟩))
      go_wp2_with fail
      refine bodyPost_ret (v := .agg #[.slice (some ⟨g, 0, none⟩) f.length gc, .int .i64 (cnt + 1), .int .i64 tm, .slice (some ⟨cb, 0, none⟩) f.length f.length, .bool (G m), .slice (some ⟨ab, 0, none⟩) f.length f.length, .int .i64 0]) (by simp [results, Tryz.results13, go_sem, o0, o1, o2, o3, o4, o5, o6, g0, g1, g2, g3, g4, g5, g6]) rfl ?_
      have hsf := (set7 W9 (w.heap.size + 1 + 1) (.slice (some ⟨g, 0, none⟩) f.length gc) (.int .i64 (cnt + 1)) (.int .i64 tm) (.slice (some ⟨cb, 0, none⟩) f.length f.length) (.bool (G m)) (.slice (some ⟨ab, 0, none⟩) f.length f.length) (.int .i64 0)).drew
      have hcb4 := HO4.out.row.lt
      have hn5 := HG5.out.2.2
      have hab4 := HR4.out.lt
      have hQ : w.heap.size + 1 + 1 < w4.heap.size := HX4.out.o.lt
      have hgl := (HS59.out.nodes hn5 hgm9).1
      refine ⟨g, gc, cb, ab, V4, by rw [show f.length - 1 = m by have := HMn.out; omega], by omega, by omega, by omega, hsf.nodes (HS59.out.nodes hn5 hgm9) (by omega), Or.inr ⟨g, gm, gz, rfl, HG5.out.1, (HG5.out.2.1.of_block (HS59.out.block g hn5.1 hgm9)).of_block (hsf.block g hgl (by omega))⟩, (HO4.out.save (Save.of_below HB49.out (fun _ => False) (fun j h1 h2 => absurd h1 (by omega))) (fun h => h) (fun _ _ h => h)).save hsf (by omega) (fun j hj => by omega), (fun i k hi e => by have := ((HO4.out.own i hi).lt k e).2; omega), (HR4.out.of_block (HB49.out.block ab hab4)).of_block (hsf.block ab (Nat.lt_of_lt_of_le hab4 HB49.out.size) (by omega)), (HB4.out.trans (HB49.out.mono HB4.out.size)).trans (hsf.below (B := w.heap.size) (by have := HB4.out.size; have := HB49.out.size; omega) (fun j e => by omega))⟩
    · have HM9 : Hid (MBox ((((w5.setCell ⟨w4.heap.size, 0, none⟩ (.slice (some ⟨g, 0, none⟩) f.length gc)).setCell ⟨w4.heap.size, 1, none⟩ (.int .i64 (cnt + 1))).setCell ⟨w4.heap.size, 2, none⟩ (.int .i64 tm)).setCell ⟨w4.heap.size, 3, none⟩ (.slice (some ⟨cb, 0, none⟩) f.length f.length)) w4.heap.size (some ⟨g, 0, none⟩) f.length gc (cnt + 1) tm (some ⟨cb, 0, none⟩) f.length f.length) := ⟨by simpa using ml, by simp [go_sem, y0], by simp [go_sem, y1], by simp [go_sem, y2], by simp [go_sem, y3]⟩
      have HS59 := hid (gset4 w5 w4.heap.size (.slice (some ⟨g, 0, none⟩) f.length gc) (.int .i64 (cnt + 1)) (.int .i64 tm) (.slice (some ⟨cb, 0, none⟩) f.length f.length))
      have hgm9 : ¬ g = w4.heap.size := by have h := HGG.out; simp at h; omega
      have hmb4 : w4.heap.size ≤ w4.heap.size := Nat.le_refl _
      clear ml y0 y1 y2 y3 f0 f1 f2 f3 HMb HMf
      generalize (((w5.setCell ⟨w4.heap.size, 0, none⟩ (.slice (some ⟨g, 0, none⟩) f.length gc)).setCell ⟨w4.heap.size, 1, none⟩ (.int .i64 (cnt + 1))).setCell ⟨w4.heap.size, 2, none⟩ (.int .i64 tm)).setCell ⟨w4.heap.size, 3, none⟩ (.slice (some ⟨cb, 0, none⟩) f.length f.length) = W9 at *
      have HB49 := hid (HB5.out.trans (HS59.out.below (B := w4.heap.size) (by omega) (fun j e => by omega)))
      have HXQ := hid (HX4.out.on HB49.out)
      have hq9 := HXQ.out.o.lt
      have hmQ : ¬ w4.heap.size = w.heap.size + 1 + 1 := by have := HX4.out.o.lt; omega
      have HS10 := hid (fun W' (hs : Save W9 W' (fun j => j = w.heap.size + 1 + 1)) => (by
        obtain ⟨ml, y0, y1, y2, y3⟩ := HM9.out.save hs hmQ
        have hab4 := HR4.out.lt
        have a5 := (hs.cell (p := ⟨ab, m, none⟩) (Nat.lt_of_lt_of_le hab4 HB49.out.size) (by show ¬ ab = _; omega)).trans ((HB49.out.cell (p := ⟨ab, m, none⟩) hab4).trans (HR4.out.cell (by have := HMn.out; omega)))
        have a5' : boolsTo G f.length m = .bool (G m) := by unfold boolsTo; rw [if_pos (by have := HMn.out; omega)]
        rw [a5'] at a5
        have b0 := fun i => (hs.cell (p := ⟨qb, i, none⟩) (Nat.lt_of_lt_of_le lq4 HB49.out.size) (by show ¬ qb = _; omega)).trans (HB49.out.cell (p := ⟨qb, i, none⟩) lq4)
        exact ⟨y0, y1, y2, y3, (b0 0).trans HW4.out.1, (b0 5).trans HW4.out.2, a5⟩ : W'.cell? ⟨w4.heap.size, 0, none⟩ = some (.slice (some ⟨g, 0, none⟩) f.length gc) ∧ W'.cell? ⟨w4.heap.size, 1, none⟩ = some (.int .i64 (cnt + 1)) ∧ W'.cell? ⟨w4.heap.size, 2, none⟩ = some (.int .i64 tm) ∧ W'.cell? ⟨w4.heap.size, 3, none⟩ = some (.slice (some ⟨cb, 0, none⟩) f.length f.length) ∧ W'.cell? ⟨qb, 0, none⟩ = some (.slice (some ⟨fb, 0, none⟩) f.length fc) ∧ W'.cell? ⟨qb, 5, none⟩ = some (.slice (some ⟨ab, 0, none⟩) f.length f.length) ∧ W'.cell? ⟨ab, m, none⟩ = some (.bool (G m))))
      have HSv9 := hid (Save.refl W9 (fun j => j = w.heap.size + 1 + 1))
      have hmf : m < f.length := by have := HMn.out; omega
      obtain ⟨_, o0, o1, o2, o3, o4, o5, o6⟩ := HXQ.out.o
      obtain ⟨g0, g1, g2, g3, g4, g5, g6⟩ := HXQ.out.g
      go_wp2_with fail
      go_region_held3 (fun W' => W'.cell? ⟨w4.heap.size, 0, none⟩ = some (.slice (some ⟨g, 0, none⟩) f.length gc) ∧ W'.cell? ⟨w4.heap.size, 1, none⟩ = some (.int .i64 (cnt + 1)) ∧ W'.cell? ⟨w4.heap.size, 2, none⟩ = some (.int .i64 tm) ∧ W'.cell? ⟨w4.heap.size, 3, none⟩ = some (.slice (some ⟨cb, 0, none⟩) f.length f.length) ∧ W'.cell? ⟨qb, 0, none⟩ = some (.slice (some ⟨fb, 0, none⟩) f.length fc) ∧ W'.cell? ⟨qb, 5, none⟩ = some (.slice (some ⟨ab, 0, none⟩) f.length f.length) ∧ W'.cell? ⟨ab, m, none⟩ = some (.bool (G m))) (first | (with_reducible exact HS10.out _ (Save.drew HSv9.out)) | (with_reducible exact HS10.out _ (Save.drew (set7 _ _ _ _ _ _ _ _ _)))) ((go_at_call 56; refine (HLa.out _ _ _).mono ?_; rintro e w6 ⟨rfl, rfl⟩))
      go_wp2_with fail
      refine bodyPost_ret (v := .agg #[.slice (some ⟨g, 0, none⟩) f.length gc, .int .i64 (cnt + 1), .int .i64 tm, .slice (some ⟨cb, 0, none⟩) f.length f.length, .bool (G m), .slice (some ⟨ab, 0, none⟩) f.length f.length, .int .i64 0]) (by simp [results, Tryz.results13, go_sem, o0, o1, o2, o3, o4, o5, o6, g0, g1, g2, g3, g4, g5, g6]) rfl ?_
      have hsf := (set7 W9 (w.heap.size + 1 + 1) (.slice (some ⟨g, 0, none⟩) f.length gc) (.int .i64 (cnt + 1)) (.int .i64 tm) (.slice (some ⟨cb, 0, none⟩) f.length f.length) (.bool (G m)) (.slice (some ⟨ab, 0, none⟩) f.length f.length) (.int .i64 0)).drew
      have hcb4 := HO4.out.row.lt
      have hn5 := HG5.out.2.2
      have hab4 := HR4.out.lt
      have hQ : w.heap.size + 1 + 1 < w4.heap.size := HX4.out.o.lt
      have hgl := (HS59.out.nodes hn5 hgm9).1
      refine ⟨g, gc, cb, ab, V4, by rw [show f.length - 1 = m by have := HMn.out; omega], by omega, by omega, by omega, hsf.nodes (HS59.out.nodes hn5 hgm9) (by omega), Or.inr ⟨g, gm, gz, rfl, HG5.out.1, (HG5.out.2.1.of_block (HS59.out.block g hn5.1 hgm9)).of_block (hsf.block g hgl (by omega))⟩, (HO4.out.save (Save.of_below HB49.out (fun _ => False) (fun j h1 h2 => absurd h1 (by omega))) (fun h => h) (fun _ _ h => h)).save hsf (by omega) (fun j hj => by omega), (fun i k hi e => by have := ((HO4.out.own i hi).lt k e).2; omega), (HR4.out.of_block (HB49.out.block ab hab4)).of_block (hsf.block ab (Nat.lt_of_lt_of_le hab4 HB49.out.size) (by omega)), (HB4.out.trans (HB49.out.mono HB4.out.size)).trans (hsf.below (B := w.heap.size) (by have := HB4.out.size; have := HB49.out.size; omega) (fun j e => by omega))⟩
end Go.Proofs.YtbfkbgmkibkbnaaGreatDoor
