/-
  The walk of the law FnNums.
-/
import Derived.Test.YtpdklkofflfjgaaDoorDraws
import Derived.Test.YtpdklkofflfjgaaDoorBack
import Derived.Laws.StructEq
namespace Go.Proofs.YtpdklkofflfjgaaDoor
open Go.RowKit

theorem Bytes.mono {w : World} {B B' : Nat} {a : Option Addr} {len : Nat} (h : Bytes w B a len) (hB : B ≤ B') : Bytes w B' a len := by
  rcases h with h | ⟨b, off, rfl, hb, hc⟩
  · exact Or.inl h
  · exact Or.inr ⟨b, off, rfl, by omega, hc⟩
theorem Bytes.at {w w1 : World} {a : Option Addr} {len : Nat} (h : Bytes w w.heap.size a len) (hb : Below w.heap.size w w1) : Bytes w1 w1.heap.size a len :=
  (h.below hb).mono hb.size
/-- The listed variable's cell. -/
def Et (w : World) : Prop := w.cell? ⟨0, 0, none⟩ = some (.iface 77 (.agg #[.pointer (some ⟨1, 44, none⟩)]))
theorem Et.at {w w1 : World} (h : Et w) (hb : Below w.heap.size w w1) : Et w1 := by
  have h0 : 0 < w.heap.size := World.block_lt_of_cell? w ⟨0, 0, none⟩ h
  unfold Et
  rw [hb.cell (p := ⟨0, 0, none⟩) h0]
  exact h
theorem size_str (t : ByteArray) : t.data.toList.length = t.size := rfl
theorem toList_self (t : ByteArray) : (t.toList == t.toList) = true := by simp

/-! ### What the law asks of the four calls -/
theorem getNum_back (n : Int) (h1 : -9223372036854775808 ≤ n) (h2 : n ≤ 9223372036854775807) (w : World) (hg : Et w) :
    Calls Tryd.prog 9 #[.string (ByteArray.mk #[120, 121] ++ str (encode (foldN n)) ++ ByteArray.mk #[122]), .int .i64 2] w fun e w' => e = .returned (outN n ((str (encode (foldN n))).size + 2) 0) ∧ Below w.heap.size w w' := by
  have hl := (encode_len (foldN n)).2
  have e : ByteArray.mk #[120, 121] ++ str (encode (foldN n)) ++ ByteArray.mk #[122] = str ([120, 121] ++ (encode (foldN n) ++ [122])) := by
    apply ByteArray.ext
    simp [str, ByteArray.data_append]
  have hz : (str ([120, 121] ++ (encode (foldN n) ++ [122]))).size ≤ 8000 := by rw [str_size]; simp; omega
  have hr := getR_enc [120, 121] [122] n h1 h2 hz
  rw [e]
  refine (implGetNum_any _ (by unfold maxLen; omega) 2 (by omega) w hg).mono fun ev w' h => ⟨?_, h.2⟩
  rw [h.1]
  have hr' : getR (str ([120, 121] ++ (encode (foldN n) ++ [122]))) 2 = (n, (((2 : Nat) + (encode (foldN n)).length : Nat) : Int), 0) := hr
  rw [hr', str_size]
  have e2 : (((2 : Nat) + (encode (foldN n)).length : Nat) : Int) = ((encode (foldN n)).length : Int) + 2 := by omega
  rw [e2]
theorem getNum_cut (u : Nat) (w : World) (hg : Et w) :
    Calls Tryd.prog 9 #[.string ((str (encode u)).extract 0 ((str (encode u)).size - 1)), .int .i64 0] w fun e w' => e = .returned (outN 0 0 4) ∧ Below w.heap.size w w' := by
  have hl := encode_len u
  have e : (str (encode u)).extract 0 ((str (encode u)).size - 1) = str ((encode u).take ((encode u).length - 1)) := by
    rw [extract_str, str_size]
    simp
  rw [e]
  refine (implGetNum_any _ (by rw [str_size, List.length_take]; unfold maxLen; omega) 0 (by omega) w hg).mono fun ev w' h => ⟨?_, h.2⟩
  rw [h.1, getR_cut u _ (by omega)]
theorem put_list (t : ByteArray) (h : t.size ≤ 8000) : putTextB t = str (encode (foldN t.data.toList.length) ++ t.data.toList) := by
  rw [putTextB_in t h, ← join_str, str_self]
  rfl
theorem put_size (t : ByteArray) (h : t.size ≤ 8000) : (putTextB t).size = (encode (foldN t.data.toList.length)).length + t.data.toList.length := by
  rw [put_list t h, str_size]
  simp
theorem getText_back (t : ByteArray) (h : t.size ≤ 8000) (hp : (putTextB t).size + 1 ≤ 8000) (w : World) (hg : Et w) :
    Calls Tryd.prog 13 #[.string (ByteArray.mk #[120] ++ putTextB t), .int .i64 1] w fun e w' => e = .returned (outT t ((putTextB t).size + 1) 0) ∧ Below w.heap.size w w' := by
  have hz := put_size t h
  have e : ByteArray.mk #[120] ++ putTextB t = str ([120] ++ (encode (foldN t.data.toList.length) ++ t.data.toList)) := by
    rw [put_list t h, ← join_str]
    rfl
  have hr := getT_enc [120] t.data.toList (by simp only [List.length_singleton]; omega)
  rw [e]
  refine (implGetText_any _ (by rw [str_size]; simp only [List.length_append, List.length_singleton]; unfold maxLen; omega) 1 (by omega) w hg).mono fun ev w' h => ⟨?_, h.2⟩
  rw [h.1]
  have hr' : getT (str ([120] ++ (encode (foldN t.data.toList.length) ++ t.data.toList))) (getR (str ([120] ++ (encode (foldN t.data.toList.length) ++ t.data.toList))) 1) = (str t.data.toList, (((1 : Nat) + (encode (foldN t.data.toList.length)).length + t.data.toList.length : Nat) : Int), 0) := hr
  rw [hr', str_self]
  have e2 : (((1 : Nat) + (encode (foldN t.data.toList.length)).length + t.data.toList.length : Nat) : Int) = ((putTextB t).size : Int) + 1 := by omega
  rw [e2]
theorem getText_cut (t : ByteArray) (h : t.size ≤ 8000) (hp : (putTextB t).size + 1 ≤ 8000) (w : World) (hg : Et w) :
    Calls Tryd.prog 13 #[.string ((putTextB t).extract 0 ((putTextB t).size - 1)), .int .i64 0] w fun e w' => (∃ x b, e = .returned (outT x b 4)) ∧ Below w.heap.size w w' := by
  have hz := put_size t h
  have e : (putTextB t).extract 0 ((putTextB t).size - 1) = str ((encode (foldN t.data.toList.length) ++ t.data.toList).take ((encode (foldN t.data.toList.length)).length + t.data.toList.length - 1)) := by
    rw [hz, put_list t h, extract_str]
    simp
  have hr := getT_cut t.data.toList (by omega)
  rw [e]
  refine (implGetText_any _ (by rw [str_size, List.length_take]; unfold maxLen; omega) 0 (by omega) w hg).mono fun ev w' h => ⟨?_, h.2⟩
  rw [h.1, hr]
  exact ⟨_, _, rfl⟩
end Go.Proofs.YtpdklkofflfjgaaDoor
