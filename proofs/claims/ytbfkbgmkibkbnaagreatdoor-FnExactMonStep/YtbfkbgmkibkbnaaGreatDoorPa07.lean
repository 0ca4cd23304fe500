/-
  The methods of the program's kinds, by their contracts: node, parts; spanOf; a span's right.
-/
import Derived.Test.YtbfkbgmkibkbnaaGreatDoorPa05
import Derived.Test.YtbfkbgmkibkbnaaGreatDoorPa06
namespace Go.Proofs.YtbfkbgmkibkbnaaGreatDoor
open Go.RowKit
set_option linter.unusedVariables false
set_option linter.unusedSimpArgs false
theorem meth1 (a b lo hi : Int) (nm : ByteArray) (w : World) : Sem.run Tryz.prog (method 347 197 (.agg #[]) "loop.example/g00759/impl.node") w = .ok (190, .agg #[]) w := by kernel_rfl
set_option maxHeartbeats 400000 in
theorem nodeM1 (a b lo hi : Int) (nm : ByteArray) (w : World) :
    Calls Tryz.prog 190 #[.agg #[]] w fun e w' => e = .returned (.agg #[.int .i64 1, .int .i64 0, .int .i64 0, .int .i64 0, .int .i64 0, .string ⟨#[]⟩]) ∧ Below w.heap.size w w' := by
  go_enter Tryz.func190, Tryz.ntmps190
  go_wp2
  exact bodyPost_ret (v := .agg #[.int .i64 1, .int .i64 0, .int .i64 0, .int .i64 0, .int .i64 0, .string ⟨#[]⟩]) (by simp [results, Tryz.results190, go_sem]) rfl ⟨rfl, (((Below.refl _ _).alloc (Nat.le_refl _) _).alloc (by simp) _)⟩
theorem meth2 (a b lo hi : Int) (nm : ByteArray) (w : World) : Sem.run Tryz.prog (method 347 199 (.agg #[.string nm]) "loop.example/g00759/impl.node") w = .ok (191, .agg #[.string nm]) w := by kernel_rfl
set_option maxHeartbeats 400000 in
theorem nodeM2 (a b lo hi : Int) (nm : ByteArray) (w : World) :
    Calls Tryz.prog 191 #[.agg #[.string nm]] w fun e w' => e = .returned (.agg #[.int .i64 2, .int .i64 0, .int .i64 0, .int .i64 0, .int .i64 0, .string nm]) ∧ Below w.heap.size w w' := by
  go_enter Tryz.func191, Tryz.ntmps191
  go_wp2
  exact bodyPost_ret (v := .agg #[.int .i64 2, .int .i64 0, .int .i64 0, .int .i64 0, .int .i64 0, .string nm]) (by simp [results, Tryz.results191, go_sem]) rfl ⟨rfl, (((Below.refl _ _).alloc (Nat.le_refl _) _).alloc (by simp) _)⟩
theorem meth3 (a b lo hi : Int) (nm : ByteArray) (w : World) : Sem.run Tryz.prog (method 347 201 (.agg #[.int .i64 a]) "loop.example/g00759/impl.node") w = .ok (192, .agg #[.int .i64 a]) w := by kernel_rfl
set_option maxHeartbeats 400000 in
theorem nodeM3 (a b lo hi : Int) (nm : ByteArray) (w : World) :
    Calls Tryz.prog 192 #[.agg #[.int .i64 a]] w fun e w' => e = .returned (.agg #[.int .i64 3, .int .i64 a, .int .i64 0, .int .i64 0, .int .i64 0, .string ⟨#[]⟩]) ∧ Below w.heap.size w w' := by
  go_enter Tryz.func192, Tryz.ntmps192
  go_wp2
  exact bodyPost_ret (v := .agg #[.int .i64 3, .int .i64 a, .int .i64 0, .int .i64 0, .int .i64 0, .string ⟨#[]⟩]) (by simp [results, Tryz.results192, go_sem]) rfl ⟨rfl, (((Below.refl _ _).alloc (Nat.le_refl _) _).alloc (by simp) _)⟩
theorem meth4 (a b lo hi : Int) (nm : ByteArray) (w : World) : Sem.run Tryz.prog (method 347 203 (.agg #[.int .i64 a, .int .i64 b]) "loop.example/g00759/impl.node") w = .ok (193, .agg #[.int .i64 a, .int .i64 b]) w := by kernel_rfl
set_option maxHeartbeats 400000 in
theorem nodeM4 (a b lo hi : Int) (nm : ByteArray) (w : World) :
    Calls Tryz.prog 193 #[.agg #[.int .i64 a, .int .i64 b]] w fun e w' => e = .returned (.agg #[.int .i64 4, .int .i64 a, .int .i64 b, .int .i64 0, .int .i64 0, .string ⟨#[]⟩]) ∧ Below w.heap.size w w' := by
  go_enter Tryz.func193, Tryz.ntmps193
  go_wp2
  exact bodyPost_ret (v := .agg #[.int .i64 4, .int .i64 a, .int .i64 b, .int .i64 0, .int .i64 0, .string ⟨#[]⟩]) (by simp [results, Tryz.results193, go_sem]) rfl ⟨rfl, (((Below.refl _ _).alloc (Nat.le_refl _) _).alloc (by simp) _)⟩
theorem meth5 (a b lo hi : Int) (nm : ByteArray) (w : World) : Sem.run Tryz.prog (method 347 204 (.agg #[.int .i64 a, .int .i64 b]) "loop.example/g00759/impl.node") w = .ok (194, .agg #[.int .i64 a, .int .i64 b]) w := by kernel_rfl
set_option maxHeartbeats 400000 in
theorem nodeM5 (a b lo hi : Int) (nm : ByteArray) (w : World) :
    Calls Tryz.prog 194 #[.agg #[.int .i64 a, .int .i64 b]] w fun e w' => e = .returned (.agg #[.int .i64 5, .int .i64 a, .int .i64 b, .int .i64 0, .int .i64 0, .string ⟨#[]⟩]) ∧ Below w.heap.size w w' := by
  go_enter Tryz.func194, Tryz.ntmps194
  go_wp2
  exact bodyPost_ret (v := .agg #[.int .i64 5, .int .i64 a, .int .i64 b, .int .i64 0, .int .i64 0, .string ⟨#[]⟩]) (by simp [results, Tryz.results194, go_sem]) rfl ⟨rfl, (((Below.refl _ _).alloc (Nat.le_refl _) _).alloc (by simp) _)⟩
theorem meth6 (a b lo hi : Int) (nm : ByteArray) (w : World) : Sem.run Tryz.prog (method 347 206 (.agg #[.int .i64 lo, .int .i64 hi, .int .i64 a]) "loop.example/g00759/impl.node") w = .ok (195, .agg #[.int .i64 lo, .int .i64 hi, .int .i64 a]) w := by kernel_rfl
set_option maxHeartbeats 400000 in
theorem nodeM6 (a b lo hi : Int) (nm : ByteArray) (w : World) :
    Calls Tryz.prog 195 #[.agg #[.int .i64 lo, .int .i64 hi, .int .i64 a]] w fun e w' => e = .returned (.agg #[.int .i64 6, .int .i64 a, .int .i64 0, .int .i64 lo, .int .i64 hi, .string ⟨#[]⟩]) ∧ Below w.heap.size w w' := by
  go_enter Tryz.func195, Tryz.ntmps195
  go_wp2
  exact bodyPost_ret (v := .agg #[.int .i64 6, .int .i64 a, .int .i64 0, .int .i64 lo, .int .i64 hi, .string ⟨#[]⟩]) (by simp [results, Tryz.results195, go_sem]) rfl ⟨rfl, (((Below.refl _ _).alloc (Nat.le_refl _) _).alloc (by simp) _)⟩
theorem meth7 (a b lo hi : Int) (nm : ByteArray) (w : World) : Sem.run Tryz.prog (method 347 207 (.agg #[.int .i64 lo, .int .i64 hi, .int .i64 a]) "loop.example/g00759/impl.node") w = .ok (196, .agg #[.int .i64 lo, .int .i64 hi, .int .i64 a]) w := by kernel_rfl
set_option maxHeartbeats 400000 in
theorem nodeM7 (a b lo hi : Int) (nm : ByteArray) (w : World) :
    Calls Tryz.prog 196 #[.agg #[.int .i64 lo, .int .i64 hi, .int .i64 a]] w fun e w' => e = .returned (.agg #[.int .i64 7, .int .i64 a, .int .i64 0, .int .i64 lo, .int .i64 hi, .string ⟨#[]⟩]) ∧ Below w.heap.size w w' := by
  go_enter Tryz.func196, Tryz.ntmps196
  go_wp2
  exact bodyPost_ret (v := .agg #[.int .i64 7, .int .i64 a, .int .i64 0, .int .i64 lo, .int .i64 hi, .string ⟨#[]⟩]) (by simp [results, Tryz.results196, go_sem]) rfl ⟨rfl, (((Below.refl _ _).alloc (Nat.le_refl _) _).alloc (by simp) _)⟩
theorem meth8 (a b lo hi : Int) (nm : ByteArray) (w : World) : Sem.run Tryz.prog (method 347 208 (.agg #[.int .i64 lo, .int .i64 hi, .int .i64 a]) "loop.example/g00759/impl.node") w = .ok (197, .agg #[.int .i64 lo, .int .i64 hi, .int .i64 a]) w := by kernel_rfl
set_option maxHeartbeats 400000 in
theorem nodeM8 (a b lo hi : Int) (nm : ByteArray) (w : World) :
    Calls Tryz.prog 197 #[.agg #[.int .i64 lo, .int .i64 hi, .int .i64 a]] w fun e w' => e = .returned (.agg #[.int .i64 8, .int .i64 a, .int .i64 0, .int .i64 lo, .int .i64 hi, .string ⟨#[]⟩]) ∧ Below w.heap.size w w' := by
  go_enter Tryz.func197, Tryz.ntmps197
  go_wp2
  exact bodyPost_ret (v := .agg #[.int .i64 8, .int .i64 a, .int .i64 0, .int .i64 lo, .int .i64 hi, .string ⟨#[]⟩]) (by simp [results, Tryz.results197, go_sem]) rfl ⟨rfl, (((Below.refl _ _).alloc (Nat.le_refl _) _).alloc (by simp) _)⟩
theorem meth9 (a b lo hi : Int) (nm : ByteArray) (w : World) : Sem.run Tryz.prog (method 347 210 (.agg #[.int .i64 lo, .int .i64 hi, .int .i64 a, .int .i64 b]) "loop.example/g00759/impl.node") w = .ok (198, .agg #[.int .i64 lo, .int .i64 hi, .int .i64 a, .int .i64 b]) w := by kernel_rfl
set_option maxHeartbeats 400000 in
theorem nodeM9 (a b lo hi : Int) (nm : ByteArray) (w : World) :
    Calls Tryz.prog 198 #[.agg #[.int .i64 lo, .int .i64 hi, .int .i64 a, .int .i64 b]] w fun e w' => e = .returned (.agg #[.int .i64 9, .int .i64 a, .int .i64 b, .int .i64 lo, .int .i64 hi, .string ⟨#[]⟩]) ∧ Below w.heap.size w w' := by
  go_enter Tryz.func198, Tryz.ntmps198
  go_wp2
  exact bodyPost_ret (v := .agg #[.int .i64 9, .int .i64 a, .int .i64 b, .int .i64 lo, .int .i64 hi, .string ⟨#[]⟩]) (by simp [results, Tryz.results198, go_sem]) rfl ⟨rfl, (((Below.refl _ _).alloc (Nat.le_refl _) _).alloc (by simp) _)⟩
theorem pmeth1 (a b lo hi : Int) (nm : ByteArray) (w : World) : Sem.run Tryz.prog (method 347 197 (.agg #[]) "loop.example/g00759/impl.parts") w = .ok (189, .agg #[]) w := by kernel_rfl
theorem fnil1 (v : Value) (w : World) : Sem.run Tryz.prog (binOp .eql 164 (.iface 197 v) .nilIface) w = .ok (.bool false) w := by kernel_rfl
theorem pmeth2 (a b lo hi : Int) (nm : ByteArray) (w : World) : Sem.run Tryz.prog (method 347 199 (.agg #[.string nm]) "loop.example/g00759/impl.parts") w = .ok (189, .agg #[]) w := by kernel_rfl
theorem fnil2 (v : Value) (w : World) : Sem.run Tryz.prog (binOp .eql 164 (.iface 199 v) .nilIface) w = .ok (.bool false) w := by kernel_rfl
theorem pmeth3 (a b lo hi : Int) (nm : ByteArray) (w : World) : Sem.run Tryz.prog (method 347 201 (.agg #[.int .i64 a]) "loop.example/g00759/impl.parts") w = .ok (187, .agg #[.int .i64 a]) w := by kernel_rfl
theorem fnil3 (v : Value) (w : World) : Sem.run Tryz.prog (binOp .eql 164 (.iface 201 v) .nilIface) w = .ok (.bool false) w := by kernel_rfl
theorem pmeth4 (a b lo hi : Int) (nm : ByteArray) (w : World) : Sem.run Tryz.prog (method 347 203 (.agg #[.int .i64 a, .int .i64 b]) "loop.example/g00759/impl.parts") w = .ok (188, .agg #[.int .i64 a, .int .i64 b]) w := by kernel_rfl
theorem fnil4 (v : Value) (w : World) : Sem.run Tryz.prog (binOp .eql 164 (.iface 203 v) .nilIface) w = .ok (.bool false) w := by kernel_rfl
theorem pmeth5 (a b lo hi : Int) (nm : ByteArray) (w : World) : Sem.run Tryz.prog (method 347 204 (.agg #[.int .i64 a, .int .i64 b]) "loop.example/g00759/impl.parts") w = .ok (188, .agg #[.int .i64 a, .int .i64 b]) w := by kernel_rfl
theorem fnil5 (v : Value) (w : World) : Sem.run Tryz.prog (binOp .eql 164 (.iface 204 v) .nilIface) w = .ok (.bool false) w := by kernel_rfl
theorem pmeth6 (a b lo hi : Int) (nm : ByteArray) (w : World) : Sem.run Tryz.prog (method 347 206 (.agg #[.int .i64 lo, .int .i64 hi, .int .i64 a]) "loop.example/g00759/impl.parts") w = .ok (187, .agg #[.int .i64 a]) w := by kernel_rfl
theorem fnil6 (v : Value) (w : World) : Sem.run Tryz.prog (binOp .eql 164 (.iface 206 v) .nilIface) w = .ok (.bool false) w := by kernel_rfl
theorem pmeth7 (a b lo hi : Int) (nm : ByteArray) (w : World) : Sem.run Tryz.prog (method 347 207 (.agg #[.int .i64 lo, .int .i64 hi, .int .i64 a]) "loop.example/g00759/impl.parts") w = .ok (187, .agg #[.int .i64 a]) w := by kernel_rfl
theorem fnil7 (v : Value) (w : World) : Sem.run Tryz.prog (binOp .eql 164 (.iface 207 v) .nilIface) w = .ok (.bool false) w := by kernel_rfl
theorem pmeth8 (a b lo hi : Int) (nm : ByteArray) (w : World) : Sem.run Tryz.prog (method 347 208 (.agg #[.int .i64 lo, .int .i64 hi, .int .i64 a]) "loop.example/g00759/impl.parts") w = .ok (187, .agg #[.int .i64 a]) w := by kernel_rfl
theorem fnil8 (v : Value) (w : World) : Sem.run Tryz.prog (binOp .eql 164 (.iface 208 v) .nilIface) w = .ok (.bool false) w := by kernel_rfl
theorem pmeth9 (a b lo hi : Int) (nm : ByteArray) (w : World) : Sem.run Tryz.prog (method 347 210 (.agg #[.int .i64 lo, .int .i64 hi, .int .i64 a, .int .i64 b]) "loop.example/g00759/impl.parts") w = .ok (188, .agg #[.int .i64 a, .int .i64 b]) w := by kernel_rfl
theorem fnil9 (v : Value) (w : World) : Sem.run Tryz.prog (binOp .eql 164 (.iface 210 v) .nilIface) w = .ok (.bool false) w := by kernel_rfl
theorem parts0 (w : World) :
    Calls Tryz.prog 189 #[.agg #[]] w fun e w' => e = .returned (.slice none 0 0) ∧ Below w.heap.size w w' := by
  go_enter Tryz.func189, Tryz.ntmps189
  go_wp2
  go_ret
  exact ⟨rfl, (Below.refl _ _).alloc (Nat.le_refl _) _⟩
theorem parts1 (a : Int) (w : World) :
    Calls Tryz.prog 187 #[.agg #[.int .i64 a]] w fun e w' => ∃ g, e = .returned (.slice (some ⟨g, 0, none⟩) 1 1) ∧ w.heap.size ≤ g ∧ g < w'.heap.size ∧ w'.cell? ⟨g, 0, none⟩ = some (.int .i64 a) ∧ Below w.heap.size w w' := by
  go_enter Tryz.func187, Tryz.ntmps187
  go_wp2
  go_ret
  exact ⟨_, rfl, by simp, by simp, by simp [go_sem], (((Below.refl _ _).alloc (Nat.le_refl _) _).alloc (by simp) _)⟩
theorem parts2 (a b : Int) (w : World) :
    Calls Tryz.prog 188 #[.agg #[.int .i64 a, .int .i64 b]] w fun e w' => ∃ g, e = .returned (.slice (some ⟨g, 0, none⟩) 2 2) ∧ w.heap.size ≤ g ∧ g < w'.heap.size ∧ w'.cell? ⟨g, 0, none⟩ = some (.int .i64 a) ∧ w'.cell? ⟨g, 1, none⟩ = some (.int .i64 b) ∧ Below w.heap.size w w' := by
  go_enter Tryz.func188, Tryz.ntmps188
  go_wp2
  go_ret
  exact ⟨_, rfl, by simp, by simp, by simp [go_sem], by simp [go_sem], (((Below.refl _ _).alloc (Nat.le_refl _) _).alloc (by simp) _)⟩
set_option maxRecDepth 20000 in
set_option maxHeartbeats 400000 in
theorem span1 (a b lo hi : Int) (nm : ByteArray) (w : World) :
    Calls Tryz.prog 116 #[.iface 197 (.agg #[])] w fun e w' => e = .returned (.tuple #[.agg #[.int .i64 0, .int .i64 0], .bool false]) ∧ Below w.heap.size w w' := by
  have t6 : ∀ w : World, Sem.run Tryz.prog (Instr.typeAssert (.iface 197 (.agg #[])) 164 206 true) w = .ok (.tuple #[.agg #[.int .i64 0, .int .i64 0, .int .i64 0], .bool false]) w := fun _ => by kernel_rfl
  have t7 : ∀ w : World, Sem.run Tryz.prog (Instr.typeAssert (.iface 197 (.agg #[])) 164 207 true) w = .ok (.tuple #[.agg #[.int .i64 0, .int .i64 0, .int .i64 0], .bool false]) w := fun _ => by kernel_rfl
  have t8 : ∀ w : World, Sem.run Tryz.prog (Instr.typeAssert (.iface 197 (.agg #[])) 164 208 true) w = .ok (.tuple #[.agg #[.int .i64 0, .int .i64 0, .int .i64 0], .bool false]) w := fun _ => by kernel_rfl
  have t9 : ∀ w : World, Sem.run Tryz.prog (Instr.typeAssert (.iface 197 (.agg #[])) 164 210 true) w = .ok (.tuple #[.agg #[.int .i64 0, .int .i64 0, .int .i64 0, .int .i64 0], .bool false]) w := fun _ => by kernel_rfl
  go_enter Tryz.func116, Tryz.ntmps116
  go_wp2
  exact bodyPost_ret (v := .tuple #[.agg #[.int .i64 0, .int .i64 0], .bool false]) (by simp [results, Tryz.results116, go_sem]) rfl ⟨rfl, ((Below.refl _ _).alloc (Nat.le_refl _) _)⟩
set_option maxRecDepth 20000 in
set_option maxHeartbeats 400000 in
theorem span2 (a b lo hi : Int) (nm : ByteArray) (w : World) :
    Calls Tryz.prog 116 #[.iface 199 (.agg #[.string nm])] w fun e w' => e = .returned (.tuple #[.agg #[.int .i64 0, .int .i64 0], .bool false]) ∧ Below w.heap.size w w' := by
  have t6 : ∀ w : World, Sem.run Tryz.prog (Instr.typeAssert (.iface 199 (.agg #[.string nm])) 164 206 true) w = .ok (.tuple #[.agg #[.int .i64 0, .int .i64 0, .int .i64 0], .bool false]) w := fun _ => by kernel_rfl
  have t7 : ∀ w : World, Sem.run Tryz.prog (Instr.typeAssert (.iface 199 (.agg #[.string nm])) 164 207 true) w = .ok (.tuple #[.agg #[.int .i64 0, .int .i64 0, .int .i64 0], .bool false]) w := fun _ => by kernel_rfl
  have t8 : ∀ w : World, Sem.run Tryz.prog (Instr.typeAssert (.iface 199 (.agg #[.string nm])) 164 208 true) w = .ok (.tuple #[.agg #[.int .i64 0, .int .i64 0, .int .i64 0], .bool false]) w := fun _ => by kernel_rfl
  have t9 : ∀ w : World, Sem.run Tryz.prog (Instr.typeAssert (.iface 199 (.agg #[.string nm])) 164 210 true) w = .ok (.tuple #[.agg #[.int .i64 0, .int .i64 0, .int .i64 0, .int .i64 0], .bool false]) w := fun _ => by kernel_rfl
  go_enter Tryz.func116, Tryz.ntmps116
  go_wp2
  exact bodyPost_ret (v := .tuple #[.agg #[.int .i64 0, .int .i64 0], .bool false]) (by simp [results, Tryz.results116, go_sem]) rfl ⟨rfl, ((Below.refl _ _).alloc (Nat.le_refl _) _)⟩
set_option maxRecDepth 20000 in
set_option maxHeartbeats 400000 in
theorem span3 (a b lo hi : Int) (nm : ByteArray) (w : World) :
    Calls Tryz.prog 116 #[.iface 201 (.agg #[.int .i64 a])] w fun e w' => e = .returned (.tuple #[.agg #[.int .i64 0, .int .i64 0], .bool false]) ∧ Below w.heap.size w w' := by
  have t6 : ∀ w : World, Sem.run Tryz.prog (Instr.typeAssert (.iface 201 (.agg #[.int .i64 a])) 164 206 true) w = .ok (.tuple #[.agg #[.int .i64 0, .int .i64 0, .int .i64 0], .bool false]) w := fun _ => by kernel_rfl
  have t7 : ∀ w : World, Sem.run Tryz.prog (Instr.typeAssert (.iface 201 (.agg #[.int .i64 a])) 164 207 true) w = .ok (.tuple #[.agg #[.int .i64 0, .int .i64 0, .int .i64 0], .bool false]) w := fun _ => by kernel_rfl
  have t8 : ∀ w : World, Sem.run Tryz.prog (Instr.typeAssert (.iface 201 (.agg #[.int .i64 a])) 164 208 true) w = .ok (.tuple #[.agg #[.int .i64 0, .int .i64 0, .int .i64 0], .bool false]) w := fun _ => by kernel_rfl
  have t9 : ∀ w : World, Sem.run Tryz.prog (Instr.typeAssert (.iface 201 (.agg #[.int .i64 a])) 164 210 true) w = .ok (.tuple #[.agg #[.int .i64 0, .int .i64 0, .int .i64 0, .int .i64 0], .bool false]) w := fun _ => by kernel_rfl
  go_enter Tryz.func116, Tryz.ntmps116
  go_wp2
  exact bodyPost_ret (v := .tuple #[.agg #[.int .i64 0, .int .i64 0], .bool false]) (by simp [results, Tryz.results116, go_sem]) rfl ⟨rfl, ((Below.refl _ _).alloc (Nat.le_refl _) _)⟩
set_option maxRecDepth 20000 in
set_option maxHeartbeats 400000 in
theorem span4 (a b lo hi : Int) (nm : ByteArray) (w : World) :
    Calls Tryz.prog 116 #[.iface 203 (.agg #[.int .i64 a, .int .i64 b])] w fun e w' => e = .returned (.tuple #[.agg #[.int .i64 0, .int .i64 0], .bool false]) ∧ Below w.heap.size w w' := by
  have t6 : ∀ w : World, Sem.run Tryz.prog (Instr.typeAssert (.iface 203 (.agg #[.int .i64 a, .int .i64 b])) 164 206 true) w = .ok (.tuple #[.agg #[.int .i64 0, .int .i64 0, .int .i64 0], .bool false]) w := fun _ => by kernel_rfl
  have t7 : ∀ w : World, Sem.run Tryz.prog (Instr.typeAssert (.iface 203 (.agg #[.int .i64 a, .int .i64 b])) 164 207 true) w = .ok (.tuple #[.agg #[.int .i64 0, .int .i64 0, .int .i64 0], .bool false]) w := fun _ => by kernel_rfl
  have t8 : ∀ w : World, Sem.run Tryz.prog (Instr.typeAssert (.iface 203 (.agg #[.int .i64 a, .int .i64 b])) 164 208 true) w = .ok (.tuple #[.agg #[.int .i64 0, .int .i64 0, .int .i64 0], .bool false]) w := fun _ => by kernel_rfl
  have t9 : ∀ w : World, Sem.run Tryz.prog (Instr.typeAssert (.iface 203 (.agg #[.int .i64 a, .int .i64 b])) 164 210 true) w = .ok (.tuple #[.agg #[.int .i64 0, .int .i64 0, .int .i64 0, .int .i64 0], .bool false]) w := fun _ => by kernel_rfl
  go_enter Tryz.func116, Tryz.ntmps116
  go_wp2
  exact bodyPost_ret (v := .tuple #[.agg #[.int .i64 0, .int .i64 0], .bool false]) (by simp [results, Tryz.results116, go_sem]) rfl ⟨rfl, ((Below.refl _ _).alloc (Nat.le_refl _) _)⟩
set_option maxRecDepth 20000 in
set_option maxHeartbeats 400000 in
theorem span5 (a b lo hi : Int) (nm : ByteArray) (w : World) :
    Calls Tryz.prog 116 #[.iface 204 (.agg #[.int .i64 a, .int .i64 b])] w fun e w' => e = .returned (.tuple #[.agg #[.int .i64 0, .int .i64 0], .bool false]) ∧ Below w.heap.size w w' := by
  have t6 : ∀ w : World, Sem.run Tryz.prog (Instr.typeAssert (.iface 204 (.agg #[.int .i64 a, .int .i64 b])) 164 206 true) w = .ok (.tuple #[.agg #[.int .i64 0, .int .i64 0, .int .i64 0], .bool false]) w := fun _ => by kernel_rfl
  have t7 : ∀ w : World, Sem.run Tryz.prog (Instr.typeAssert (.iface 204 (.agg #[.int .i64 a, .int .i64 b])) 164 207 true) w = .ok (.tuple #[.agg #[.int .i64 0, .int .i64 0, .int .i64 0], .bool false]) w := fun _ => by kernel_rfl
  have t8 : ∀ w : World, Sem.run Tryz.prog (Instr.typeAssert (.iface 204 (.agg #[.int .i64 a, .int .i64 b])) 164 208 true) w = .ok (.tuple #[.agg #[.int .i64 0, .int .i64 0, .int .i64 0], .bool false]) w := fun _ => by kernel_rfl
  have t9 : ∀ w : World, Sem.run Tryz.prog (Instr.typeAssert (.iface 204 (.agg #[.int .i64 a, .int .i64 b])) 164 210 true) w = .ok (.tuple #[.agg #[.int .i64 0, .int .i64 0, .int .i64 0, .int .i64 0], .bool false]) w := fun _ => by kernel_rfl
  go_enter Tryz.func116, Tryz.ntmps116
  go_wp2
  exact bodyPost_ret (v := .tuple #[.agg #[.int .i64 0, .int .i64 0], .bool false]) (by simp [results, Tryz.results116, go_sem]) rfl ⟨rfl, ((Below.refl _ _).alloc (Nat.le_refl _) _)⟩
set_option maxRecDepth 20000 in
set_option maxHeartbeats 400000 in
theorem span6 (a b lo hi : Int) (nm : ByteArray) (w : World) :
    Calls Tryz.prog 116 #[.iface 206 (.agg #[.int .i64 lo, .int .i64 hi, .int .i64 a])] w fun e w' => e = .returned (.tuple #[.agg #[.int .i64 lo, .int .i64 hi], .bool true]) ∧ Below w.heap.size w w' := by
  have t6 : ∀ w : World, Sem.run Tryz.prog (Instr.typeAssert (.iface 206 (.agg #[.int .i64 lo, .int .i64 hi, .int .i64 a])) 164 206 true) w = .ok (.tuple #[.agg #[.int .i64 lo, .int .i64 hi, .int .i64 a], .bool true]) w := fun _ => by kernel_rfl
  go_enter Tryz.func116, Tryz.ntmps116
  go_wp2
  exact bodyPost_ret (v := .tuple #[.agg #[.int .i64 lo, .int .i64 hi], .bool true]) (by simp [results, Tryz.results116, go_sem]) rfl ⟨rfl, ((Below.refl _ _).alloc (Nat.le_refl _) _).alloc (by simp) _⟩
set_option maxRecDepth 20000 in
set_option maxHeartbeats 400000 in
theorem span7 (a b lo hi : Int) (nm : ByteArray) (w : World) :
    Calls Tryz.prog 116 #[.iface 207 (.agg #[.int .i64 lo, .int .i64 hi, .int .i64 a])] w fun e w' => e = .returned (.tuple #[.agg #[.int .i64 lo, .int .i64 hi], .bool true]) ∧ Below w.heap.size w w' := by
  have t6 : ∀ w : World, Sem.run Tryz.prog (Instr.typeAssert (.iface 207 (.agg #[.int .i64 lo, .int .i64 hi, .int .i64 a])) 164 206 true) w = .ok (.tuple #[.agg #[.int .i64 0, .int .i64 0, .int .i64 0], .bool false]) w := fun _ => by kernel_rfl
  have t7 : ∀ w : World, Sem.run Tryz.prog (Instr.typeAssert (.iface 207 (.agg #[.int .i64 lo, .int .i64 hi, .int .i64 a])) 164 207 true) w = .ok (.tuple #[.agg #[.int .i64 lo, .int .i64 hi, .int .i64 a], .bool true]) w := fun _ => by kernel_rfl
  go_enter Tryz.func116, Tryz.ntmps116
  go_wp2
  exact bodyPost_ret (v := .tuple #[.agg #[.int .i64 lo, .int .i64 hi], .bool true]) (by simp [results, Tryz.results116, go_sem]) rfl ⟨rfl, ((Below.refl _ _).alloc (Nat.le_refl _) _).alloc (by simp) _⟩
set_option maxRecDepth 20000 in
set_option maxHeartbeats 400000 in
theorem span8 (a b lo hi : Int) (nm : ByteArray) (w : World) :
    Calls Tryz.prog 116 #[.iface 208 (.agg #[.int .i64 lo, .int .i64 hi, .int .i64 a])] w fun e w' => e = .returned (.tuple #[.agg #[.int .i64 lo, .int .i64 hi], .bool true]) ∧ Below w.heap.size w w' := by
  have t6 : ∀ w : World, Sem.run Tryz.prog (Instr.typeAssert (.iface 208 (.agg #[.int .i64 lo, .int .i64 hi, .int .i64 a])) 164 206 true) w = .ok (.tuple #[.agg #[.int .i64 0, .int .i64 0, .int .i64 0], .bool false]) w := fun _ => by kernel_rfl
  have t7 : ∀ w : World, Sem.run Tryz.prog (Instr.typeAssert (.iface 208 (.agg #[.int .i64 lo, .int .i64 hi, .int .i64 a])) 164 207 true) w = .ok (.tuple #[.agg #[.int .i64 0, .int .i64 0, .int .i64 0], .bool false]) w := fun _ => by kernel_rfl
  have t8 : ∀ w : World, Sem.run Tryz.prog (Instr.typeAssert (.iface 208 (.agg #[.int .i64 lo, .int .i64 hi, .int .i64 a])) 164 208 true) w = .ok (.tuple #[.agg #[.int .i64 lo, .int .i64 hi, .int .i64 a], .bool true]) w := fun _ => by kernel_rfl
  go_enter Tryz.func116, Tryz.ntmps116
  go_wp2
  exact bodyPost_ret (v := .tuple #[.agg #[.int .i64 lo, .int .i64 hi], .bool true]) (by simp [results, Tryz.results116, go_sem]) rfl ⟨rfl, ((Below.refl _ _).alloc (Nat.le_refl _) _).alloc (by simp) _⟩
set_option maxRecDepth 20000 in
set_option maxHeartbeats 400000 in
theorem span9 (a b lo hi : Int) (nm : ByteArray) (w : World) :
    Calls Tryz.prog 116 #[.iface 210 (.agg #[.int .i64 lo, .int .i64 hi, .int .i64 a, .int .i64 b])] w fun e w' => e = .returned (.tuple #[.agg #[.int .i64 lo, .int .i64 hi], .bool true]) ∧ Below w.heap.size w w' := by
  have t6 : ∀ w : World, Sem.run Tryz.prog (Instr.typeAssert (.iface 210 (.agg #[.int .i64 lo, .int .i64 hi, .int .i64 a, .int .i64 b])) 164 206 true) w = .ok (.tuple #[.agg #[.int .i64 0, .int .i64 0, .int .i64 0], .bool false]) w := fun _ => by kernel_rfl
  have t7 : ∀ w : World, Sem.run Tryz.prog (Instr.typeAssert (.iface 210 (.agg #[.int .i64 lo, .int .i64 hi, .int .i64 a, .int .i64 b])) 164 207 true) w = .ok (.tuple #[.agg #[.int .i64 0, .int .i64 0, .int .i64 0], .bool false]) w := fun _ => by kernel_rfl
  have t8 : ∀ w : World, Sem.run Tryz.prog (Instr.typeAssert (.iface 210 (.agg #[.int .i64 lo, .int .i64 hi, .int .i64 a, .int .i64 b])) 164 208 true) w = .ok (.tuple #[.agg #[.int .i64 0, .int .i64 0, .int .i64 0], .bool false]) w := fun _ => by kernel_rfl
  have t9 : ∀ w : World, Sem.run Tryz.prog (Instr.typeAssert (.iface 210 (.agg #[.int .i64 lo, .int .i64 hi, .int .i64 a, .int .i64 b])) 164 210 true) w = .ok (.tuple #[.agg #[.int .i64 lo, .int .i64 hi, .int .i64 a, .int .i64 b], .bool true]) w := fun _ => by kernel_rfl
  go_enter Tryz.func116, Tryz.ntmps116
  go_wp2
  exact bodyPost_ret (v := .tuple #[.agg #[.int .i64 lo, .int .i64 hi], .bool true]) (by simp [results, Tryz.results116, go_sem]) rfl ⟨rfl, ((Below.refl _ _).alloc (Nat.le_refl _) _).alloc (by simp) _⟩
end Go.Proofs.YtbfkbgmkibkbnaaGreatDoor
