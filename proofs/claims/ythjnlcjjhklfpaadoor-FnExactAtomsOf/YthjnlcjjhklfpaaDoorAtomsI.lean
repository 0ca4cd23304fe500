/-
  The program's AtomsOf by its contract.
-/
import Derived.Test.YthjnlcjjhklfpaaDoorAtomsM
import Derived.Test.YthjnlcjjhklfpaaDoorRightI
import Derived.Test.YthjnlcjjhklfpaaDoorShelfS
import Derived.Sort.OwnSorted
namespace Go.Proofs.YthjnlcjjhklfpaaDoor
open Go.RowKit
set_option linter.unusedVariables false
set_option linter.unusedSimpArgs false
def sortS (S : List ByteArray) : List ByteArray := ((S.map (·.data.toList)).mergeSort (fun x y => decide (x ≤ y))).map (fun l => ⟨l.toArray⟩)
theorem sortS_nil : sortS [] = [] := by simp [sortS]
theorem sortS_len (S : List ByteArray) : (sortS S).length = S.length := by simp [sortS]
theorem enc_all (S : List ByteArray) : S.map Value.string = (S.map (·.data.toList)).map encStr := by
  rw [List.map_map]
  apply List.map_congr_left
  intro x _
  simp [encStr]
theorem sort_own (S : List ByteArray) (base : Nat) (v : Value) (w : World) (hl : S.length ≤ 1000) (h : OwS w base v S) :
    Calls Tryd.prog 67 #[v] w fun e w' => e = .returned (.tuple #[]) ∧ OwS w' base v (sortS S) ∧ Save w w' (fun j => v.ownBlock = some j) := by
  rcases h.2 with ⟨hv, h0⟩ | ⟨g, cap, cur, hv, hb, hg, h1, h2, h3, h4⟩
  · subst hv
    have hS : S = [] := List.length_eq_zero_iff.1 h0
    subst hS
    refine (Tryd.slices_Sort_string_none none 0 w).mono ?_
    rintro e w' ⟨rfl, rfl⟩
    exact ⟨rfl, by rw [sortS_nil]; exact World.ownsRow_nil _ _ _ _, Save.refl _ _⟩
  · subst hv
    have hlen : (S.map (·.data.toList)).length = S.length := by simp
    have hH := holds_of_block (ss := S.map (·.data.toList)) hg (by rw [hlen, ← enc_all]; simpa using h4)
    have hc := Tryd.slices_Sort_string g 0 cap (S.map (·.data.toList)) w hH (Array.getElem?_eq_some_iff.1 hg).1 (by rw [hlen]; omega)
    rw [hlen] at hc
    refine hc.mono ?_
    rintro e w' ⟨rfl, n, os, rfl⟩
    have hl2 : ((S.map (·.data.toList)).mergeSort (fun x y => decide (x ≤ y))).length = (S.map (·.data.toList)).length := by simp
    refine ⟨rfl, ?_, (Save.refl w _).grown (grownBy_sorted _) (fun k hk _ => hk)⟩
    have ho := ownsRow_sorted (n := n) (os := os) hl2 hb hg (by rw [hlen]; exact h1) h2 h3
    rw [hlen] at ho
    have e1 : ((S.map (·.data.toList)).mergeSort (fun x y => decide (x ≤ y))).map encStr = (sortS S).map Value.string := by
      unfold sortS
      rw [List.map_map]
      rfl
    unfold OwS
    rw [sortS_len, ← e1]
    exact ho
theorem sortS_atoms (f : List Nd) (m : Nat) (hg : goodTo f m = true) : sortS (nmTo f m) = atomsTo f m := by
  unfold sortS
  rw [sort_atoms f m hg, List.map_map]
  exact List.map_id'' (fun x => by simp) _
theorem nmTo_len (f : List Nd) : ∀ k, (nmTo f k).length ≤ k
  | 0 => Nat.le_refl _
  | k + 1 => by
    have := nmTo_len f k
    unfold nmTo
    split
    · simp; omega
    · omega
theorem atom_small (f : List Nd) (m i : Nat) (hg : goodTo f m = true) (hi : i < m) (h2 : (ndAt f i).k = 2) : (ndAt f i).nm.size ≤ 10000 := by
  have h := (goodTo_at f i m hi hg).1
  simp only [nodeB, Bool.and_eq_true] at h
  have h3 := h.2.1
  rw [if_pos h2] at h3
  simp only [wordB, Bool.and_eq_true, decide_eq_true_eq] at h3
  have := h3.1.2
  omega
set_option maxRecDepth 20000 in
set_option maxHeartbeats 4000000 in
theorem implAtoms_any (f : List Nd) (b cap : Nat) (w : World) (hN : NodesAt w b f) (hok : ∀ i, i < f.length → ndOk (ndAt f i)) (hlen : f.length ≤ maxLen) (hkw : Kw w) (hg : 0 < w.heap.size) :
    Calls Tryd.prog 20 #[.slice (some ⟨b, 0, none⟩) f.length cap] w fun e w' => ∃ v, e = .returned v ∧ OwS w' w.heap.size v (atomsB f) ∧ Below w.heap.size w w' := by
  have HN := hid hN
  have hb := hN.1
  have HCr := hid (implRight_any f b cap w hN hok hlen hkw hg)
  clear hN hok hkw
  rcases (Bool.eq_false_or_eq_true (rightB f)).symm with hr | hr
  · have HE : Hid (atomsB f = []) := by show atomsB f = _; simp [atomsB, hr]
    rw [hr] at HCr
    go_enter Tryd.func20, Tryd.ntmps20
    go_wp2_with (go_at_call 61; refine HCr.out.mono ?_; rintro e w1 ⟨rfl, hb1⟩; have HB1 := hid hb1; clear hb1)
    go_ret
    exact ⟨_, rfl, by rw [HE.out]; exact World.ownsRow_nil _ _ _ _, HB1.out⟩
  obtain ⟨hl1, hl2, hgd⟩ := rightB_three f hr
  have HGd := hid hgd
  have HE : Hid (atomsB f = sortS (nmTo f f.length)) := by show atomsB f = _; rw [sortS_atoms f _ hgd]; simp [atomsB, hr]
  rw [hr] at HCr
  clear hr hgd
  obtain ⟨i0, hi, hz0, hz1, hz2⟩ := info_parts Tryd.infoS1
  go_enter Tryd.func20, Tryd.ntmps20
  go_wp2_with (go_at_call 61; refine HCr.out.mono ?_; rintro e w1 ⟨rfl, hb1⟩; have HB1 := hid hb1; have hzw := hb1.size; clear hb1)
  go_loopw [3, 11] (fun v t wr => ∃ k : Nat, k ≤ f.length ∧ t = .int .i64 k ∧ OwS wr w.heap.size v (nmTo f k) ∧ Below w.heap.size w wr) (fun _ t _ => f.length - (intOf t).toNat)
  case atStart => exact ⟨0, Nat.zero_le _, rfl, World.ownsRow_nil _ _ _ _, HB1.out⟩
  case round =>
    clear HB1 hzw
    obtain ⟨k, hk, rfl, hO, hbel⟩ := hrel
    have HO := hid hO
    have HB := hid hbel
    have hsz := hbel.size
    obtain ⟨va, vc, hva, _⟩ := hO.form
    have hnl := nmTo_len f k
    have HNL := hid hnl
    generalize hnn : (nmTo f k).length = nn at *
    subst hva
    clear hbel hO
    by_cases hlt : k < f.length
    · obtain ⟨c0, c1, c2, c3, c4, c5⟩ := (HN.out.2 k hlt).below HB.out hb
      have HBb := hid ((Below.refl wr.heap.size wr).alloc (Nat.le_refl _) (.cells #[.int .i64 (ndAt f k).k, .int .i64 (ndAt f k).a, .int .i64 (ndAt f k).b, .int .i64 (ndAt f k).lo, .int .i64 (ndAt f k).hi, .string (ndAt f k).nm] 74))
      by_cases h2 : (ndAt f k).k = 2
      · have HT : Hid (nmTo f (k + 1) = nmTo f k ++ [(ndAt f k).nm]) := by
          show (if (ndAt f k).k = 2 then nmTo f k ++ [(ndAt f k).nm] else nmTo f k) = _
          rw [if_pos h2]
        have HSm := hid (atom_small f f.length k HGd.out hlt h2)
        rw [h2] at c0 HBb
        have HNN := hid hnn
        clear hnn h2
        generalize ndAt f k = x at *
        go_wp2_with (first | (go_at_call 66; refine (clone_any x.nm HSm.out _).mono ?_; rintro e w2 ⟨rfl, hb2⟩; have HO2 := hid ((HO.out.below HBb.out).below hb2); have HB2 := hid ((HB.out.trans (HBb.out.mono hsz)).trans (hb2.mono (Nat.le_trans hsz HBb.out.size))); have hz2' := HB2.out.size; clear hb2) | (at_builtin; refine wpList_append_own_at _ rfl _ _ 29 rfl w.heap.size 9 i0 _ 1 16 Tryd.uSts hi hz0 hz1 hz2 rfl (by decide) _ _ _ rfl (HO2.out.alloc _) ⟨w2.heap.size, 0, none⟩ 1 1 [.string x.nm] rfl rfl (cell_one _ _ _) (by simp [Value.oneCell']) (by rw [HNN.out]; unfold maxLen; omega) (by rw [HNN.out]; omega) (by simp; omega) ?_; intro v5 w5 hown5 hgrow5 _ hat5; have HB5 := hid ((HB2.out.alloc hz2' _).grown hgrow5 (by simp; omega) (fun q hq => (World.ownsRow.lt HO2.out q hq).1)); have HO5 : Hid (OwS w5 w.heap.size v5 (nmTo f (k + 1))) := (by show w5.ownsRow _ _ _ _ _ _; rw [HT.out, List.length_append, List.map_append]; exact hown5); clear hown5 hgrow5 hat5))
        go_roundw
        case rel => exact ⟨k + 1, by omega, by go_num, HO5.out, HB5.out⟩
        case measure => simp [intOf]; omega
      · have HT : Hid (nmTo f (k + 1) = nmTo f k) := by
          show (if (ndAt f k).k = 2 then nmTo f k ++ [(ndAt f k).nm] else nmTo f k) = _
          rw [if_neg h2]
        have h3 : ((ndAt f k).k == 2) = false := by simpa using h2
        go_wp2_with fail
        go_roundw
        case rel => exact ⟨k + 1, by omega, by go_num, by rw [HT.out]; exact HO.out.below HBb.out, HB.out.trans (HBb.out.mono hsz)⟩
        case measure => simp [intOf]; omega
    · have hk' : k = f.length := by omega
      subst hk'
      have HSo := hid (sort_own (nmTo f f.length) w.heap.size _ wr (by rw [hnn]; omega) HO.out)
      clear hnn
      go_wp2_with (go_at_call 67; refine HSo.out.mono ?_; rintro e w6 ⟨rfl, hO6, hs6⟩; have HO6 := hid hO6; have HB6 := hid (HB.out.trans (hs6.below (B := w.heap.size) hsz (fun j e => (World.ownsRow.lt HO.out j e).1))); clear hO6 hs6)
      go_ret
      exact ⟨_, rfl, by rw [HE.out]; exact HO6.out, HB6.out⟩
end Go.Proofs.YthjnlcjjhklfpaaDoor
