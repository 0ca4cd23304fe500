/-
  The walk of the law FnExactPartOf.
-/
import Derived.Test.YtjojlpnnappplaaDoorPartA
namespace Go.Proofs.YtjojlpnnappplaaDoor
open Go.RowKit
set_option linter.unusedVariables false
set_option linter.unusedSimpArgs false
/-- A slice of nodes, of which nothing is asked where it is empty. -/
def NsAt (w : World) (a : Option Addr) (P : List Nd) : Prop := P.length = 0 ∨ ∃ b, a = some ⟨b, 0, none⟩ ∧ NodesAt w b P
theorem NsAt.save {w w' : World} {a : Option Addr} {P : List Nd} {S : Nat → Prop} (h : NsAt w a P) (hs : Save w w' S) (hS : ∀ b, a = some ⟨b, 0, none⟩ → ¬ S b) : NsAt w' a P :=
  h.imp id (fun ⟨b, e, hn⟩ => ⟨b, e, hs.nodes hn (hS b e)⟩)
theorem NsAt.below {w w' : World} {a : Option Addr} {P : List Nd} (h : NsAt w a P) (hb : Below w.heap.size w w') : NsAt w' a P :=
  h.imp id (fun ⟨b, e, hn⟩ => ⟨b, e, hn.below hb hn.1⟩)
set_option maxRecDepth 20000 in
theorem eqNodeS_nil (a1 a2 : Option Addr) (c1 c2 : Nat) (w : World) :
    Calls Tryd.prog 16 #[.slice a1 0 c1, .slice a2 0 c2] w fun e w' => e = .returned (.bool true) ∧ Below w.heap.size w w' := by
  go_enter Tryd.func16, Tryd.ntmps16
  go_wp2_with fail
  go_loopw [5] (fun t wr => t = .int .i64 0 ∧ wr = w) (fun _ _ => 0)
  case atStart => exact ⟨rfl, rfl⟩
  case round =>
    obtain ⟨rfl, rfl⟩ := hrel
    go_wp2_with fail
    go_ret
    exact ⟨rfl, Below.refl _ _⟩
theorem eqNodeS_gen (P : List Nd) (n : Nat) (hn : P.length = n) (a1 a2 : Option Addr) (c1 c2 : Nat) (hl : n ≤ 1048576) (w : World) (h1 : NsAt w a1 P) (h2 : NsAt w a2 P) :
    Calls Tryd.prog 16 #[.slice a1 n c1, .slice a2 n c2] w fun e w' => e = .returned (.bool true) ∧ Below w.heap.size w w' := by
  subst hn
  rcases h1 with h0 | ⟨b1, rfl, h1⟩
  · rw [h0]
    exact eqNodeS_nil a1 a2 c1 c2 w
  · rcases h2 with h0 | ⟨b2, rfl, h2⟩
    · rw [h0]
      exact eqNodeS_nil _ a2 c1 c2 w
    · exact eqNodeS_same P b1 b2 c1 c2 hl w h1 h2
/-- A row of nodes of n, to be written to. -/
def RowAt (w : World) (a : Option Addr) (n : Nat) : Prop := n = 0 ∨ ∃ b z, a = some ⟨b, 0, none⟩ ∧ w.rowIs b 45 (n * 6) z
theorem RowAt.below {w w' : World} {a : Option Addr} {n : Nat} (h : RowAt w a n) (hb : Below w.heap.size w w') : RowAt w' a n :=
  h.imp id (fun ⟨b, z, e, hr⟩ => ⟨b, z, e, hr.of_block (hb.block b hr.lt)⟩)
theorem RowAt.save {w w' : World} {a : Option Addr} {n : Nat} {S : Nat → Prop} (h : RowAt w a n) (hs : Save w w' S) (hS : ∀ b, a = some ⟨b, 0, none⟩ → ¬ S b) : RowAt w' a n :=
  h.imp id (fun ⟨b, z, e, hr⟩ => ⟨b, z, e, hr.of_block (hs.block b hr.lt (hS b e))⟩)
/-- The block of a slice's address. -/
def OfA (a : Option Addr) (j : Nat) : Prop := ∃ q, a = some q ∧ q.block = j
theorem markNodeS_gen (n : Nat) (a : Option Addr) (c : Nat) (hn : n ≤ 1048576) (w : World) (h : RowAt w a n) :
    Calls Tryd.prog 24 #[.slice a n c, .int .i64 1] w fun e w' => e = .returned (.int .i64 (1 + n * 6 : Nat)) ∧ NsAt w' a (markN 1 n) ∧ Save w w' (OfA a) := by
  rcases h with rfl | ⟨b, z, rfl, h⟩
  · refine (markNodeS_nil a 1 c w).mono ?_
    rintro e w' ⟨rfl, rfl⟩
    exact ⟨rfl, Or.inl rfl, Save.refl _ _⟩
  · refine (markNodeS_row n 1 b c z hn (by omega) (by omega) w h).mono ?_
    rintro e w' ⟨rfl, hr, hs⟩
    refine ⟨rfl, Or.inr ⟨b, rfl, ?_⟩, hs.mono (fun j _ e => ⟨_, rfl, e.symm⟩)⟩
    have := @row_nodes w' b (markN 1 n) z (by rw [markN_len]; exact hr)
    exact this
theorem heldNodeS_gen (n : Nat) (a : Option Addr) (c : Nat) (hn : n ≤ 1048576) (w : World) (h : NsAt w a (markN 1 n)) :
    Calls Tryd.prog 31 #[.slice a n c, .int .i64 1] w fun e w' => e = .returned (.int .i64 (1 + n * 6 : Nat)) ∧ Below w.heap.size w w' := by
  rcases h with h | ⟨b, rfl, h⟩
  · rw [markN_len] at h
    subst h
    refine (heldNodeS_nil a 1 c w).mono ?_
    rintro e w' ⟨rfl, rfl⟩
    exact ⟨rfl, Below.refl _ _⟩
  · exact heldNodeS_row n 1 b c hn (by omega) (by omega) w h
/-- The same of the two answers. -/
theorem OwnsN.ns {w : World} {base : Nat} {a : Option Addr} {n c : Nat} {g : List Nd} (h : OwnsN w base (.slice a n c) g) : n = g.length ∧ NsAt w a g ∧ ∀ b, a = some ⟨b, 0, none⟩ → base ≤ b ∧ b < w.heap.size := by
  have hlt := World.ownsRow.lt h
  obtain ⟨a', c', e, hf⟩ := h.form
  injection e with e1 e2 e3
  subst e1 e2 e3
  refine ⟨rfl, ?_, fun b hb => hlt b (by rw [hb]; rfl)⟩
  rcases hf with rfl | ⟨b, rfl, _⟩
  · rcases h.2 with ⟨_, h0⟩ | ⟨_, _, _, e, _⟩
    · exact Or.inl h0
    · injection e with e1; cases e1
  · exact Or.inr ⟨b, rfl, h.at⟩
theorem PartV.open {w' : World} {base : Nat} {v : Value} {f : List Nd} {i : Int} (h : PartV w' base v f i) : ∃ a c, v = .slice a (partB f i).length c ∧ NsAt w' a (partB f i) ∧ RowAt w' a (partB f i).length ∧ (∀ b, a = some ⟨b, 0, none⟩ → base ≤ b ∧ b < w'.heap.size) ∧ ∀ q, a = some q → q = ⟨q.block, 0, none⟩ := by
  rcases h with ⟨rfl, h0⟩ | ⟨pb, z, rfl, h1, h2⟩
  · exact ⟨none, 0, by rw [h0]; rfl, Or.inl (by rw [h0]; rfl), Or.inl (by rw [h0]; rfl), fun b e => (by cases e), fun q e => (by cases e)⟩
  · exact ⟨_, _, rfl, Or.inr ⟨pb, rfl, row_nodes h2⟩, Or.inr ⟨pb, _, rfl, h2⟩, fun b e => (by injection e with e1; injection e1 with e2; subst e2; exact ⟨h1, h2.lt⟩), fun q e => (by injection e with e1; subst e1; rfl)⟩
theorem partB_len (f : List Nd) (i : Int) : (partB f i).length ≤ 1048576 := by
  unfold partB
  split
  · next h =>
    obtain ⟨hr, h1, h2⟩ := h
    obtain ⟨_, hl2, hgd⟩ := rightB_good' f hr
    have HP0 : PlacesOk f [] := ⟨List.nodup_nil, fun j h => by cases h⟩
    have := (HP0.walk (n := f.length) (i := i.toNat) (fun j hj => goodTo_down f _ hgd j (by omega)) (by omega) (by omega)).len
    rw [partTo_len]
    omega
  · simp
theorem OfA.lt {a : Option Addr} {j : Nat} {P : Nat → Prop} (h : OfA a j) (hp : ∀ b, a = some ⟨b, 0, none⟩ → P b) (ha : ∀ q, a = some q → q = ⟨q.block, 0, none⟩) : P j := by
  obtain ⟨q, rfl, rfl⟩ := h
  exact hp _ (by rw [← ha q rfl])
theorem RowAt.flat {w : World} {a : Option Addr} {n : Nat} (h : RowAt w a n) (hn : n = 0 → a = none ∨ ∃ b, a = some ⟨b, 0, none⟩) : ∀ q, a = some q → q = ⟨q.block, 0, none⟩ := by
  intro q hq
  subst hq
  rcases h with h0 | ⟨b, z, e, _⟩
  · rcases hn h0 with e | ⟨b, e⟩
    · cases e
    · injection e with e; subst e; rfl
  · injection e with e; subst e; rfl
set_option maxRecDepth 20000 in
set_option maxHeartbeats 4000000 in
theorem walkPart (a : Option Addr) (cap : Nat) (f : List Nd) (i : Int) (w : World) (hI : InN w a cap f) (hkw : Kw w) (hg : 0 < w.heap.size) :
    Calls Tryd.prog 9 #[.slice a f.length cap, .int .i64 i] w fun e w' => e = .returned (.bool true) ∧ Below w.heap.size w w' := by
  have HI := hid hI
  have HK := hid hkw
  have hpl := partB_len f i
  clear hI hkw
  go_enter Tryd.func9, Tryd.ntmps9
  go_wp2_with fail
  refine (szNodeS_any f a cap (fun i hi => (HI.out.ok i hi).nm) HI.out.len _ HI.out.arg).mono ?_
  rintro e w1 ⟨r, rfl, hr, hb1⟩
  have HB1 := hid hb1
  have hz1 := hb1.size
  by_cases hr0 : r < 0
  · clear hb1 hr
    go_wp2_with fail
    go_ret
    exact ⟨rfl, HB1.out⟩
  obtain ⟨hl, _⟩ := hr (by omega)
  clear hb1 hr
  go_wp2_with fail
  refine (toNodeS_any f a cap hl _ (HI.out.arg.below HB1.out (Nat.le_refl _))).mono ?_
  rintro e w2 ⟨b2, rfl, hb2, hn2, hf2, hbl2⟩
  have HB2 := hid (HB1.out.trans (hbl2.mono hz1))
  have hz2 := hbl2.size
  have HN2 := hid hn2
  clear hn2 hf2 hbl2
  go_wp2_with fail
  refine (specPart_any f b2 f.length i _ HN2.out HI.out.ok HI.out.len).mono ?_
  rintro e w3 ⟨v0, rfl, hO, hbl3⟩
  have HB3 := hid (HB2.out.trans (hbl3.mono (by omega)))
  have hz3 := hbl3.size
  obtain ⟨a0, c0, rfl, _⟩ := hO.form
  obtain ⟨_, hs3, hr3⟩ := hO.ns
  have HS3 := hid hs3
  have HA0 := hid hr3
  clear hO hbl3 hs3 hr3
  go_wp2_with fail
  refine (toNodeS_row f a cap hl _ (HI.out.arg.below HB3.out (Nat.le_refl _))).mono ?_
  rintro e w4 ⟨b4, rfl, hb4, hn4, ⟨z4, hr4⟩, hf4, hbl4⟩
  have HB4 := hid (HB3.out.trans (hbl4.mono (by omega)))
  have hz4 := hbl4.size
  have HN4 := hid hn4
  have HR4 := hid hr4
  have HS4 := hid (HS3.out.below hbl4)
  have HK4 := hid (HK.out.below HB4.out hg)
  clear hn4 hf4 hbl4 hr4
  go_wp2_with fail
  refine (implPart_any f b4 f.length i _ HN4.out HI.out.ok HI.out.len HK4.out (by omega)).mono ?_
  rintro e w5 ⟨v5, rfl, hP, hbl5⟩
  have HB5 := hid (HB4.out.trans (hbl5.mono (by omega)))
  have hz5 := hbl5.size
  have HN5 := hid (HN4.out.below hbl5 HN4.out.1)
  have HR5 := hid (HR4.out.of_block (hbl5.block b4 HR4.out.lt))
  have HS5 := hid (HS4.out.below hbl5)
  obtain ⟨ag, cg, rfl, hG, hGr, hGb, hGq⟩ := hP.open
  have HGq := hid hGq
  have HG5 := hid hG
  have HGr5 := hid hGr
  have HGb := hid hGb
  clear hbl5 hP hG hGr hGb hGq
  go_wp2_with fail
  refine (eqNodeS_gen (partB f i) _ rfl ag a0 cg c0 hpl _ HG5.out HS5.out).mono ?_
  rintro e w6 ⟨rfl, hbl6⟩
  have HB6 := hid (HB5.out.trans (hbl6.mono (by omega)))
  have hz6 := hbl6.size
  have HN6 := hid (HN5.out.below hbl6 HN5.out.1)
  have HR6 := hid (HR5.out.of_block (hbl6.block b4 HR5.out.lt))
  have HS6 := hid (HS5.out.below hbl6)
  have HG6 := hid (HG5.out.below hbl6)
  have HGr6 := hid (HGr5.out.below hbl6)
  clear hbl6
  go_wp2_with fail
  refine (toNodeS_any f a cap hl _ (HI.out.arg.below HB6.out (Nat.le_refl _))).mono ?_
  rintro e w7 ⟨b7, rfl, hb7, hn7, hf7, hbl7⟩
  have HB7 := hid (HB6.out.trans (hbl7.mono (by omega)))
  have hz7 := hbl7.size
  have HN7 := hid hn7
  have HN7' := hid (HN6.out.below hbl7 HN6.out.1)
  have HR7 := hid (HR6.out.of_block (hbl7.block b4 HR6.out.lt))
  have HS7 := hid (HS6.out.below hbl7)
  have HG7 := hid (HG6.out.below hbl7)
  have HGr7 := hid (HGr6.out.below hbl7)
  clear hn7 hf7 hbl7
  go_wp2_with fail
  refine (eqNodeS_same f b4 b7 f.length f.length hl _ HN7'.out HN7.out).mono ?_
  rintro e w8 ⟨rfl, hbl8⟩
  have HB8 := hid (HB7.out.trans (hbl8.mono (by omega)))
  have hz8 := hbl8.size
  have HR8 := hid (HR7.out.of_block (hbl8.block b4 HR7.out.lt))
  have HS8 := hid (HS7.out.below hbl8)
  have HG8 := hid (HG7.out.below hbl8)
  have HGr8 := hid (HGr7.out.below hbl8)
  clear hbl8
  go_wp2_with fail
  refine (markNodeS_gen f.length (some ⟨b4, 0, none⟩) f.length hl _ (Or.inr ⟨b4, _, rfl, HR8.out⟩)).mono ?_
  rintro e w9 ⟨rfl, _, hsv9⟩
  have hn0 : ∀ b, a0 = some ⟨b, 0, none⟩ → b ≠ b4 := fun b e => by have := HA0.out b e; omega
  have hng : ∀ b, ag = some ⟨b, 0, none⟩ → b ≠ b4 := fun b e => by have := HGb.out b e; have := HR4.out.lt; omega
  have HB9 := hid (HB8.out.trans (hsv9.below (B := w.heap.size) (by omega) (fun j hj => by obtain ⟨q, e, rfl⟩ := hj; injection e with e; subst e; simp only; omega)))
  have hz9 := hsv9.size
  have HS9 := hid (HS8.out.save hsv9 (fun b e h => by obtain ⟨q, e', h'⟩ := h; injection e' with e'; subst e'; exact hn0 b e h'.symm))
  have HG9 := hid (HG8.out.save hsv9 (fun b e h => by obtain ⟨q, e', h'⟩ := h; injection e' with e'; subst e'; exact hng b e h'.symm))
  have HGr9 := hid (HGr8.out.save hsv9 (fun b e h => by obtain ⟨q, e', h'⟩ := h; injection e' with e'; subst e'; exact hng b e h'.symm))
  clear hsv9 hn0 hng
  have hk0 : ¬ ((1 + f.length * 6 : Nat) : Int) < 0 := by omega
  go_wp2_with fail
  refine (eqNodeS_gen (partB f i) _ rfl ag a0 cg c0 hpl _ HG9.out HS9.out).mono ?_
  rintro e w10 ⟨rfl, hbl10⟩
  have HB10 := hid (HB9.out.trans (hbl10.mono (by omega)))
  have hz10 := hbl10.size
  have HS10 := hid (HS9.out.below hbl10)
  have HGr10 := hid (HGr9.out.below hbl10)
  clear hbl10
  go_wp2_with fail
  refine (markNodeS_gen (partB f i).length ag cg hpl _ HGr10.out).mono ?_
  rintro e w11 ⟨rfl, hm11, hsv11⟩
  have HM11 := hid hm11
  have HB11 := hid (HB10.out.trans (hsv11.below (B := w.heap.size) (by omega) (fun j hj => hj.lt (P := fun j => w.heap.size ≤ j) (fun b e => by have := HGb.out b e; omega) HGq.out)))
  have hz11 := hsv11.size
  have HS11 := hid (HS10.out.save hsv11 (fun b e h => h.lt (P := fun j => ¬ j = b) (fun b' e' => by have := HGb.out b' e'; have := HA0.out b e; omega) HGq.out rfl))
  clear hm11 hsv11
  go_wp2_with fail
  refine (heldNodeS_gen (partB f i).length ag cg hpl _ HM11.out).mono ?_
  rintro e w12 ⟨rfl, hbl12⟩
  have HB12 := hid (HB11.out.trans (hbl12.mono (by omega)))
  have hz12 := hbl12.size
  have HS12 := hid (HS11.out.below hbl12)
  have HM12 := hid (HM11.out.below hbl12)
  clear hbl12
  have hq0 : ¬ ((1 + (partB f i).length * 6 : Nat) : Int) < 0 := by omega
  go_wp2_with fail
  refine (toNodeS_any f a cap hl _ (HI.out.arg.below HB12.out (Nat.le_refl _))).mono ?_
  rintro e w13 ⟨b13, rfl, hb13, hn13, hf13, hbl13⟩
  have HB13 := hid (HB12.out.trans (hbl13.mono (by omega)))
  have hz13 := hbl13.size
  have HN13 := hid hn13
  have HS13 := hid (HS12.out.below hbl13)
  have HM13 := hid (HM12.out.below hbl13)
  have HK13 := hid (HK.out.below HB13.out hg)
  clear hn13 hf13 hbl13
  go_wp2_with fail
  refine (implPart_any f b13 f.length i _ HN13.out HI.out.ok HI.out.len HK13.out (by omega)).mono ?_
  rintro e w14 ⟨v14, rfl, hP, hbl14⟩
  have HB14 := hid (HB13.out.trans (hbl14.mono (by omega)))
  have hz14 := hbl14.size
  have HS14 := hid (HS13.out.below hbl14)
  have HM14 := hid (HM13.out.below hbl14)
  obtain ⟨ah, ch, rfl, hH, _, _, _⟩ := hP.open
  have HH14 := hid hH
  clear hbl14 hP hH
  go_wp2_with fail
  refine (eqNodeS_gen (partB f i) _ rfl ah a0 ch c0 hpl _ HH14.out HS14.out).mono ?_
  rintro e w15 ⟨rfl, hbl15⟩
  have HB15 := hid (HB14.out.trans (hbl15.mono (by omega)))
  have hz15 := hbl15.size
  have HM15 := hid (HM14.out.below hbl15)
  clear hbl15
  go_wp2_with fail
  refine (heldNodeS_gen (partB f i).length ag cg hpl _ HM15.out).mono ?_
  rintro e w16 ⟨rfl, hbl16⟩
  have HB16 := hid (HB15.out.trans (hbl16.mono (by omega)))
  clear hbl16
  go_wp2_with fail
  go_ret
  exact ⟨rfl, HB16.out⟩
end Go.Proofs.YtjojlpnnappplaaDoor
