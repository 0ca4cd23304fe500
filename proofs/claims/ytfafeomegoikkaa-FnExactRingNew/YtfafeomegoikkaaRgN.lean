/-
  RingNew, the model's and the program's, by one contract.
-/
import Derived.Test.YtfafeomegoikkaaRgS
namespace Go.Proofs.Ytfafeomegoikkaa
open Go.RowKit
set_option linter.unusedVariables false
set_option linter.unusedSimpArgs false
def nwV (j : Nat) : Int := if j % 2 = 0 then ((j / 2 : Nat) : Int) else 0
def newZ (n : Nat) : List Int := (List.range (n * 2)).map nwV
theorem newZ_len (n : Nat) : (newZ n).length = n * 2 := by simp [newZ]
theorem newZ_at (n j : Nat) (h : j < n * 2) : zAt (newZ n) j = nwV j := by simp [zAt, newZ, List.getD, h]
theorem newZ_succ (k : Nat) : newZ (k + 1) = newZ k ++ [(k : Int), 0] := by
  unfold newZ
  rw [show (k + 1) * 2 = k * 2 + 1 + 1 by omega, List.range_succ, List.range_succ, List.map_append, List.map_append, List.append_assoc]
  congr 1
  have e1 : nwV (k * 2) = (k : Int) := by unfold nwV; rw [if_pos (by omega)]; congr 1; omega
  have e2 : nwV (k * 2 + 1) = 0 := by unfold nwV; rw [if_neg (by omega)]
  simp [e1, e2]
def newR (size : Int) : RO := if capB size = true then ⟨size, 0, 0, size.toNat, newZ size.toNat, 0, 0, 0⟩ else roIll 1
theorem newR_ok (size : Int) : (newR size).ok := by
  unfold newR
  split
  · next h =>
    have := capB_cases h
    exact ⟨newZ_len _, by show size.toNat ≤ 16; omega⟩
  · exact roIll_ok 1
theorem capB_nat {c : Int} (h : capB c = true) : ∃ n : Nat, c = n ∧ 1 ≤ n ∧ n ≤ 16 := by
  have := capB_cases h
  exact ⟨c.toNat, by omega, by omega, by omega⟩
theorem below_set7n {B : Nat} {w W : World} (h : Below B w W) (q : Nat) (hq : B ≤ q) (v0 v1 v2 v3 v4 v5 v6 : Value) :
    Below B w (((((((W.setCell ⟨q, 0, none⟩ v0).setCell ⟨q, 1, none⟩ v1).setCell ⟨q, 2, none⟩ v2).setCell ⟨q, 3, none⟩ v3).setCell ⟨q, 4, none⟩ v4).setCell ⟨q, 5, none⟩ v5).setCell ⟨q, 6, none⟩ v6) :=
  ((((((h.setCell hq _).setCell hq _).setCell hq _).setCell hq _).setCell hq _).setCell hq _).setCell hq _
theorem cpm_set7n {W : World} {g n : Nat} {Z : List Int} (h : CpM W g n Z) (q : Nat) (hq : g ≠ q) (v0 v1 v2 v3 v4 v5 v6 : Value) :
    CpM (((((((W.setCell ⟨q, 0, none⟩ v0).setCell ⟨q, 1, none⟩ v1).setCell ⟨q, 2, none⟩ v2).setCell ⟨q, 3, none⟩ v3).setCell ⟨q, 4, none⟩ v4).setCell ⟨q, 5, none⟩ v5).setCell ⟨q, 6, none⟩ v6) g n Z :=
  ((((((h.other hq _).other hq _).other hq _).other hq _).other hq _).other hq _).other hq _
theorem made_row (W : World) (n : Nat) : (W.alloc (.cells (madeCells #[.int .i64 0, .int .i64 0] (n * 2)) 59)).rowIs W.heap.size 59 (n * 2) (fun _ => .int .i64 0) := by
  have h := World.rowIs_alloc W (madeCells #[.int .i64 0, .int .i64 0] (n * 2)) 59 (fun _ => .int .i64 0) (fun j hj => by
    rw [size_madeCells] at hj
    have h2 : j % 2 = 0 ∨ j % 2 = 1 := by omega
    rcases h2 with h | h <;> simp [madeCells, hj, h])
  rwa [size_madeCells] at h
def nwK (k j : Nat) : Value := .int .i64 (if j < k * 2 then nwV j else 0)
set_option maxRecDepth 20000 in
set_option maxHeartbeats 2000000 in
theorem implNew_any (size : Int) (w : World) :
    Calls Try.prog 22 #[.int .i64 size] w fun e w' => ∃ a' c', e = .returned (roV (newR size).cap (newR size).hd (newR size).tl a' (newR size).n c' (newR size).pos (newR size).item (newR size).code) ∧ RgOut w w' a' (newR size).n (newR size).Z := by
  have HB0 := hid (below_one' w (.cells #[.int .i64 0, .int .i64 0, .int .i64 0, .slice none 0 0, .int .i64 0, .int .i64 0, .int .i64 0] 32))
  have HO := hid (OBox.new w 0 0 0 none 0 0 0 0 0 32)
  have HF := hid (OFree.new w #[.int .i64 0, .int .i64 0, .int .i64 0, .slice none 0 0, .int .i64 0, .int .i64 0, .int .i64 0] 32)
  have HY := hid (fun t w => implCap_any t w)
  unfold roV
  rcases Bool.eq_false_or_eq_true (capB size) with h1 | h1
  rotate_left
  · have HZ : Hid (newR size = roIll 1) := by show newR size = _; simp [newR, h1]
    rw [HZ.out]
    go_enter Try.func22, Try.ntmps22
    go_wp2_with (go_at_call 57; refine (HY.out _ _).mono ?_; rintro e w' ⟨rfl, rfl⟩)
    refine bodyPost_ret (v := .agg #[.int .i64 0, .int .i64 0, .int .i64 0, .slice none 0 0, .int .i64 0, .int .i64 0, .int .i64 1]) (by simp [results, Try.results22, go_sem]) rfl ⟨none, 0, rfl, RgOut.none ?_⟩
    repeat first
      | exact Below.refl _ _
      | refine Below.setCell ?_ (by show _ ≤ _; first | (simp; done) | (simp; omega)) _
      | refine Below.alloc ?_ (by first | exact Nat.le_refl _ | (simp; done) | (simp; omega)) _
  obtain ⟨n, rfl, hn1, hn16⟩ := capB_nat h1
  have HZ : Hid (newR (n : Int) = ⟨n, 0, 0, n, newZ n, 0, 0, 0⟩) := by show newR _ = _; simp [newR, h1]
  rw [HZ.out]
  have hmk := run_makeC n (by omega)
  have hWz : (w.alloc (.cells #[.int .i64 0, .int .i64 0, .int .i64 0, .slice none 0 0, .int .i64 0, .int .i64 0, .int .i64 0] 32)).heap.size = w.heap.size + 1 := by simp
  go_enter Try.func22, Try.ntmps22
  go_wp2_with (go_at_call 57; refine (HY.out _ _).mono ?_; rintro e w' ⟨rfl, rfl⟩)
  have HR0 := hid (made_row (w.alloc (.cells #[.int .i64 0, .int .i64 0, .int .i64 0, .slice none 0 0, .int .i64 0, .int .i64 0, .int .i64 0] 32)) n)
  rw [hWz] at HR0
  have hlw := HO.out.lt
  clear h1 hmk
  generalize hW : w.alloc (.cells #[.int .i64 0, .int .i64 0, .int .i64 0, .slice none 0 0, .int .i64 0, .int .i64 0, .int .i64 0] 32) = W at *
  go_loopw [13] (fun t wr => ∃ k : Nat, k ≤ n ∧ t = .int .i64 k ∧ wr.rowIs (w.heap.size + 1) 59 (n * 2) (nwK k) ∧ Below W.heap.size W wr) (fun t _ => n - (intOf t).toNat)
  case atStart => exact ⟨0, Nat.zero_le _, rfl, HR0.out.congr (fun j hj => by simp [nwK]), below_one' _ _⟩
  case round =>
    obtain ⟨k, hk, rfl, hrow, hbel⟩ := hrel
    have HB := hid hbel
    have HRow := hid hrow
    have hsz := hrow.lt
    clear hrow hbel HR0
    by_cases hlt : k < n
    · have d0 := HRow.out.cell (i := k * 2) (by omega)
      have f0 := HRow.out.frozen (k * 2)
      go_wp2_with fail
      go_roundw
      case rel =>
        refine ⟨k + 1, by omega, by go_num, (HRow.out.set (k * 2) (.int .i64 k)).congr (fun j hj => ?_), HB.out.setCell (by show W.heap.size ≤ w.heap.size + 1; omega) _⟩
        unfold nwK
        by_cases e : j = k * 2
        · subst e
          rw [if_pos rfl, if_pos (by omega)]
          congr 1
          unfold nwV
          rw [if_pos (by omega)]
          congr 1
          omega
        · rw [if_neg e]
          by_cases h2 : j < k * 2
          · rw [if_pos h2, if_pos (by omega)]
          · by_cases h3 : j = k * 2 + 1
            · subst h3
              rw [if_neg (by omega), if_pos (by omega)]
              unfold nwV
              rw [if_neg (by omega)]
            · rw [if_neg h2, if_neg (by omega)]
      case measure => simp [intOf]; omega
    · have hk' : k = n := by omega
      subst hk'
      obtain ⟨hol, o0, o1, o2, o3, o4, o5, o6⟩ := HO.out.on HB.out
      have ff := HF.out.below HB.out hlw
      have f0 := ff 0
      have f1 := ff 1
      have f2 := ff 2
      have f3 := ff 3
      have f4 := ff 4
      have f5 := ff 5
      have f6 := ff 6
      have HC := hid (CupI.cp (show CupI wr (w.heap.size + 1) (newZ k) by
        unfold CupI
        rw [newZ_len]
        exact HRow.out.congr (fun j hj => by unfold nwK; rw [if_pos hj, newZ_at k j hj])) (newZ_len k))
      clear ff
      go_wp2_with fail
      refine bodyPost_ret (v := .agg #[.int .i64 k, .int .i64 0, .int .i64 0, .slice (some ⟨w.heap.size + 1, 0, none⟩) k k, .int .i64 0, .int .i64 0, .int .i64 0]) (by simp [results, Try.results22, go_sem, o0, o1, o2, o3, o4, o5, o6]) rfl ⟨some ⟨w.heap.size + 1, 0, none⟩, k, rfl, CpM.out ?_ (by omega) ?_⟩
      · exact cpm_set7n HC.out w.heap.size (by omega) _ _ _ _ _ _ _
      · exact below_set7n (HB0.out.trans (HB.out.mono (by omega))) w.heap.size (Nat.le_refl _) _ _ _ _ _ _ _
/-- What stands in a round of the model's RingNew. -/
structure NwAt (W w : World) (q n k : Nat) (va : Option Addr) (vc : Nat) : Prop where
  own : w.ownsRow (q + 1 + 1) 59 2 (.slice va k vc) k ((newZ k).map (Value.int .i64))
  box : RBox w (q + 1) n 0 0 va k vc
  fr : w.frozen? ⟨q + 1, 3, none⟩ = false
  sv : Save W w (fun j => j = q + 1)
theorem cell_two (w : World) (q : Nat) (hq : w.heap.size = q) (x y : Value) (t : TypeId) : ∀ j u, [x, y][j]? = some u → (w.alloc (.cells #[x, y] t)).cell? ((⟨q, 0, none⟩ : Addr).add j) = some u := by
  subst hq
  intro j u hu
  match j, hu with
  | 0, hu => simp at hu; subst hu; simp [Addr.add]
  | 1, hu => simp at hu; subst hu; simp [Addr.add]
theorem NwAt.mid {W w w5 : World} {q n k : Nat} {va : Option Addr} {vc : Nat} {o : Obj} {g c5 : Nat} (h : NwAt W w q n k va vc) (hWz : W.heap.size = q + 1 + 1)
    (hg : (w.alloc o).grownBy w5 (Value.slice va k vc).ownBlock) (ho : w5.ownsRow (q + 1 + 1) 59 2 (.slice (some ⟨g, 0, none⟩) (k + 1) c5) (k + 1) ((newZ k).map (Value.int .i64) ++ [.int .i64 k, .int .i64 0])) :
    RBox w5 (q + 1) n 0 0 va k vc ∧ w5.frozen? ⟨q + 1, 3, none⟩ = false ∧ NwAt W (w5.setCell ⟨q + 1, 3, none⟩ (.slice (some ⟨g, 0, none⟩) (k + 1) c5)) q n (k + 1) (some ⟨g, 0, none⟩) c5 := by
  have hs : Save w w5 (fun j => (Value.slice va k vc).ownBlock = some j) := ((Save.refl w (fun j => (Value.slice va k vc).ownBlock = some j)).alloc o).grown hg (fun j e _ => e)
  have hlt := World.ownsRow.lt h.own
  have hn : ¬ (Value.slice va k vc).ownBlock = some (q + 1) := fun e => by have := (hlt _ e).1; omega
  have hb := h.box.save hs hn
  have hf := (hs.frozen (p := ⟨q + 1, 3, none⟩) h.box.lt hn).trans h.fr
  have hset : Save w5 (w5.setCell ⟨q + 1, 3, none⟩ (.slice (some ⟨g, 0, none⟩) (k + 1) c5)) (fun j => j = q + 1) := Save.setCell (S := fun j => j = q + 1) (Save.refl w5 _) (p := ⟨q + 1, 3, none⟩) (fun _ => rfl) _
  refine ⟨hb, hf, ?_, ⟨by simpa using hb.lt, ?_, ?_, ?_, ?_⟩, ?_, ?_⟩
  · rw [newZ_succ, List.map_append]
    have hO : w5.ownsRow (q + 1 + 1) 59 2 (.slice (some ⟨g, 0, none⟩) (k + 1) c5) (k + 1) ((newZ k).map (Value.int .i64) ++ [(k : Int), 0].map (Value.int .i64)) := ho
    refine ⟨hO.1, ?_⟩
    rcases hO.2 with hx | ⟨b, cap, cur, e, hb5, hg5, rest⟩
    · exact .inl hx
    · refine .inr ⟨b, cap, cur, e, hb5, ?_, rest⟩
      rw [hset.block b (Array.getElem?_eq_some_iff.1 hg5).1 (by show ¬ b = q + 1; omega)]
      exact hg5
  · rw [World.cell?_setCell_other _ _ _ _ (by simp)]; exact hb.k0
  · rw [World.cell?_setCell_other _ _ _ _ (by simp)]; exact hb.k1
  · rw [World.cell?_setCell_other _ _ _ _ (by simp)]; exact hb.k2
  · simp [go_sem, hb.k3]
  · simpa using hf
  · exact Save.setCell (S := fun j => j = q + 1) (h.sv.over hs (fun j hj e => by have := (hlt _ e).1; omega)) (p := ⟨q + 1, 3, none⟩) (fun _ => rfl) _
set_option maxRecDepth 20000 in
set_option maxHeartbeats 2000000 in
theorem specNewR_any (size : Int) (w : World) :
    Calls Try.prog 23 #[.int .i64 size] w fun e w' => ∃ a' c', e = .returned (roV (newR size).cap (newR size).hd (newR size).tl a' (newR size).n c' (newR size).pos (newR size).item (newR size).code) ∧ RgOut w w' a' (newR size).n (newR size).Z := by
  have HB0 := hid (below_one' w (.cells #[.int .i64 0, .int .i64 0, .int .i64 0, .slice none 0 0, .int .i64 0, .int .i64 0, .int .i64 0] 32))
  have HO := hid (OBox.new w 0 0 0 none 0 0 0 0 0 32)
  have HF := hid (OFree.new w #[.int .i64 0, .int .i64 0, .int .i64 0, .slice none 0 0, .int .i64 0, .int .i64 0, .int .i64 0] 32)
  have HY := hid (fun t w => specCap_any t w)
  have HIll := hid (fun code w => ill_any code w)
  obtain ⟨i0, hi0, iz0, iz1, iz2⟩ := info_parts Try.infoCup
  unfold roV
  rcases Bool.eq_false_or_eq_true (capB size) with h1 | h1
  rotate_left
  · have HZ : Hid (newR size = roIll 1) := by show newR size = _; simp [newR, h1]
    rw [HZ.out]
    have hlw := HO.out.lt
    go_enter Try.func23, Try.ntmps23
    go_wp2_with (first | (go_at_call 58; refine (HY.out _ _).mono ?_; rintro e w' ⟨rfl, rfl⟩) | (go_at_call 49; refine (HIll.out _ _).mono ?_; rintro e w9 ⟨rfl, hb9⟩; have HB9 := hid (HB0.out.trans (hb9.mono HB0.out.size)); obtain ⟨_, o0, o1, o2, o3, o4, o5, o6⟩ := HO.out.on hb9; have ff := HF.out.below hb9 hlw; have f0 := ff 0; have f1 := ff 1; have f2 := ff 2; have f3 := ff 3; have f4 := ff 4; have f5 := ff 5; have f6 := ff 6; clear ff hb9))
    refine bodyPost_ret (v := .agg #[.int .i64 0, .int .i64 0, .int .i64 0, .slice none 0 0, .int .i64 0, .int .i64 0, .int .i64 1]) (by simp [results, Try.results23, go_sem, o0, o1, o2, o3, o4, o5, o6]) rfl ⟨none, 0, rfl, RgOut.none ?_⟩
    exact below_set7n HB9.out w.heap.size (Nat.le_refl _) _ _ _ _ _ _ _
  obtain ⟨n, rfl, hn1, hn16⟩ := capB_nat h1
  have HZ : Hid (newR (n : Int) = ⟨n, 0, 0, n, newZ n, 0, 0, 0⟩) := by show newR _ = _; simp [newR, h1]
  rw [HZ.out]
  have e1 : (w.alloc (.cells #[.int .i64 0, .int .i64 0, .int .i64 0, .slice none 0 0, .int .i64 0, .int .i64 0, .int .i64 0] 32)).heap.size = w.heap.size + 1 := by simp
  have hWz : ((w.alloc (.cells #[.int .i64 0, .int .i64 0, .int .i64 0, .slice none 0 0, .int .i64 0, .int .i64 0, .int .i64 0] 32)).alloc (.cells #[.int .i64 n, .int .i64 0, .int .i64 0, .slice none 0 0] 25)).heap.size = w.heap.size + 1 + 1 := by simp
  have HN0 : Hid (NwAt ((w.alloc (.cells #[.int .i64 0, .int .i64 0, .int .i64 0, .slice none 0 0, .int .i64 0, .int .i64 0, .int .i64 0] 32)).alloc (.cells #[.int .i64 n, .int .i64 0, .int .i64 0, .slice none 0 0] 25)) ((w.alloc (.cells #[.int .i64 0, .int .i64 0, .int .i64 0, .slice none 0 0, .int .i64 0, .int .i64 0, .int .i64 0] 32)).alloc (.cells #[.int .i64 n, .int .i64 0, .int .i64 0, .slice none 0 0] 25)) w.heap.size n 0 none 0) := by
    refine ⟨World.ownsRow_nil _ _ _ _, ?_, ?_, Save.refl _ _⟩
    · rw [← e1]; exact RBox.new _ _ _ _ _ _ _ _
    · rw [← e1]; simp [go_sem]
  have HO2 := hid (HO.out.on (below_one' _ (.cells #[.int .i64 n, .int .i64 0, .int .i64 0, .slice none 0 0] 25)))
  have HF2 := hid (HF.out.below (below_one' _ (.cells #[.int .i64 n, .int .i64 0, .int .i64 0, .slice none 0 0] 25)) HO.out.lt)
  have HB2 := hid (HB0.out.trans ((below_one' _ (.cells #[.int .i64 n, .int .i64 0, .int .i64 0, .slice none 0 0] 25)).mono HB0.out.size))
  go_enter Try.func23, Try.ntmps23
  go_wp2_with (go_at_call 58; refine (HY.out _ _).mono ?_; rintro e w' ⟨rfl, rfl⟩)
  clear h1 e1 HO HF
  generalize (w.alloc (.cells #[.int .i64 0, .int .i64 0, .int .i64 0, .slice none 0 0, .int .i64 0, .int .i64 0, .int .i64 0] 32)).alloc (.cells #[.int .i64 n, .int .i64 0, .int .i64 0, .slice none 0 0] 25) = W at *
  have hlw := HO2.out.lt
  go_loopw [4] (fun t wr => ∃ (k : Nat) (va : Option Addr) (vc : Nat), k ≤ n ∧ t = .int .i64 k ∧ NwAt W wr w.heap.size n k va vc) (fun t _ => n - (intOf t).toNat)
  case atStart => exact ⟨0, none, 0, Nat.zero_le _, rfl, HN0.out⟩
  case round =>
    obtain ⟨k, va, vc, hk, rfl, hat⟩ := hrel
    have HA := hid hat
    obtain ⟨hrl, b0, b1, b2, b3⟩ := hat.box
    have bf := hat.fr
    have hwz : W.heap.size ≤ wr.heap.size := hat.sv.size
    clear hat HN0
    by_cases hlt : k < n
    · go_wp2_with (at_builtin; go_loud (refine wpList_append_own_at _ rfl _ _ 23 rfl (w.heap.size + 1 + 1) 59 i0 _ 2 16 Try.uCs hi0 iz0 iz1 iz2 rfl (by decide) _ _ _ rfl (HA.out.own.alloc _) ⟨wr.heap.size, 0, none⟩ 1 1 [.int .i64 k, .int .i64 0] rfl rfl (cell_two _ _ (by simp) _ _ _) (by simp [Value.oneCell']) (by unfold maxLen; omega) (by omega) (by simp; omega) ?_; intro v5 w5 hown5 hgrow5 _ hat5; obtain ⟨gb, cp, rfl, _, _⟩ := World.ownsRow.form hown5 (by omega); have HM := hid (HA.out.mid hWz hgrow5 hown5); obtain ⟨hrl5, c0, c1, c2, c3⟩ := HM.out.1; have cf := HM.out.2.1; clear hown5 hgrow5 hat5))
      go_roundw
      case rel => exact ⟨k + 1, some ⟨gb, 0, none⟩, cp, by omega, by go_num, HM.out.2.2⟩
      case measure => simp [intOf]; omega
    · have hk' : k = n := by omega
      subst hk'
      obtain ⟨g, c', e, hg, hcp⟩ := own_cp HA.out.own hn1
      injection e with e1 _ e2
      subst e1 e2
      obtain ⟨hol, o0, o1, o2, o3, o4, o5, o6⟩ := HO2.out.save HA.out.sv (by show ¬ w.heap.size = w.heap.size + 1; omega)
      have ff := fun i => (HA.out.sv.frozen (p := ⟨w.heap.size, i, none⟩) hlw (by show ¬ w.heap.size = w.heap.size + 1; omega)).trans (HF2.out i)
      have f0 := ff 0
      have f1 := ff 1
      have f2 := ff 2
      have f3 := ff 3
      have f4 := ff 4
      have f5 := ff 5
      have f6 := ff 6
      have HCP := hid hcp
      have HBw := hid (HB2.out.trans (HA.out.sv.below (B := w.heap.size) (by omega) (fun j h => by omega)))
      clear ff hcp
      go_wp2_with fail
      refine bodyPost_ret (v := .agg #[.int .i64 k, .int .i64 0, .int .i64 0, .slice (some ⟨g, 0, none⟩) k vc, .int .i64 0, .int .i64 0, .int .i64 0]) (by simp [results, Try.results23, go_sem, o0, o1, o2, o3, o4, o5, o6]) rfl ⟨some ⟨g, 0, none⟩, ⟨vc, rfl⟩, CpM.out ?_ (by omega) ?_⟩
      · exact cpm_set7n HCP.out w.heap.size (by omega) _ _ _ _ _ _ _
      · exact below_set7n HBw.out w.heap.size (Nat.le_refl _) _ _ _ _ _ _ _
end Go.Proofs.Ytfafeomegoikkaa
