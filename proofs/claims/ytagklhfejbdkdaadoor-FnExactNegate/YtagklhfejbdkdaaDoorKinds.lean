/-
  The methods of the program's kinds, by their contracts: node, parts; spanOf; a span's right.
-/
import Derived.Test.YtagklhfejbdkdaaDoorFormOf
import Derived.Test.YtagklhfejbdkdaaDoorSmR
namespace Go.Proofs.YtagklhfejbdkdaaDoor
open Go.RowKit
set_option linter.unusedVariables false
set_option linter.unusedSimpArgs false
theorem meth1 (a b lo hi : Int) (nm : ByteArray) (w : World) : Sem.run Tryd.prog (method 253 116 (.agg #[]) "loop.example/g00759/impl.node") w = .ok (99, .agg #[]) w := by kernel_rfl
set_option maxHeartbeats 400000 in
theorem nodeM1 (a b lo hi : Int) (nm : ByteArray) (w : World) :
    Calls Tryd.prog 99 #[.agg #[]] w fun e w' => e = .returned (.agg #[.int .i64 1, .int .i64 0, .int .i64 0, .int .i64 0, .int .i64 0, .string ⟨#[]⟩]) ∧ Below w.heap.size w w' := by
  go_enter Tryd.func99, Tryd.ntmps99
  go_wp2
  exact bodyPost_ret (v := .agg #[.int .i64 1, .int .i64 0, .int .i64 0, .int .i64 0, .int .i64 0, .string ⟨#[]⟩]) (by simp [results, Tryd.results99, go_sem]) rfl ⟨rfl, (((Below.refl _ _).alloc (Nat.le_refl _) _).alloc (by simp) _)⟩
theorem meth2 (a b lo hi : Int) (nm : ByteArray) (w : World) : Sem.run Tryd.prog (method 253 118 (.agg #[.string nm]) "loop.example/g00759/impl.node") w = .ok (100, .agg #[.string nm]) w := by kernel_rfl
set_option maxHeartbeats 400000 in
theorem nodeM2 (a b lo hi : Int) (nm : ByteArray) (w : World) :
    Calls Tryd.prog 100 #[.agg #[.string nm]] w fun e w' => e = .returned (.agg #[.int .i64 2, .int .i64 0, .int .i64 0, .int .i64 0, .int .i64 0, .string nm]) ∧ Below w.heap.size w w' := by
  go_enter Tryd.func100, Tryd.ntmps100
  go_wp2
  exact bodyPost_ret (v := .agg #[.int .i64 2, .int .i64 0, .int .i64 0, .int .i64 0, .int .i64 0, .string nm]) (by simp [results, Tryd.results100, go_sem]) rfl ⟨rfl, (((Below.refl _ _).alloc (Nat.le_refl _) _).alloc (by simp) _)⟩
theorem meth3 (a b lo hi : Int) (nm : ByteArray) (w : World) : Sem.run Tryd.prog (method 253 120 (.agg #[.int .i64 a]) "loop.example/g00759/impl.node") w = .ok (101, .agg #[.int .i64 a]) w := by kernel_rfl
set_option maxHeartbeats 400000 in
theorem nodeM3 (a b lo hi : Int) (nm : ByteArray) (w : World) :
    Calls Tryd.prog 101 #[.agg #[.int .i64 a]] w fun e w' => e = .returned (.agg #[.int .i64 3, .int .i64 a, .int .i64 0, .int .i64 0, .int .i64 0, .string ⟨#[]⟩]) ∧ Below w.heap.size w w' := by
  go_enter Tryd.func101, Tryd.ntmps101
  go_wp2
  exact bodyPost_ret (v := .agg #[.int .i64 3, .int .i64 a, .int .i64 0, .int .i64 0, .int .i64 0, .string ⟨#[]⟩]) (by simp [results, Tryd.results101, go_sem]) rfl ⟨rfl, (((Below.refl _ _).alloc (Nat.le_refl _) _).alloc (by simp) _)⟩
theorem meth4 (a b lo hi : Int) (nm : ByteArray) (w : World) : Sem.run Tryd.prog (method 253 122 (.agg #[.int .i64 a, .int .i64 b]) "loop.example/g00759/impl.node") w = .ok (102, .agg #[.int .i64 a, .int .i64 b]) w := by kernel_rfl
set_option maxHeartbeats 400000 in
theorem nodeM4 (a b lo hi : Int) (nm : ByteArray) (w : World) :
    Calls Tryd.prog 102 #[.agg #[.int .i64 a, .int .i64 b]] w fun e w' => e = .returned (.agg #[.int .i64 4, .int .i64 a, .int .i64 b, .int .i64 0, .int .i64 0, .string ⟨#[]⟩]) ∧ Below w.heap.size w w' := by
  go_enter Tryd.func102, Tryd.ntmps102
  go_wp2
  exact bodyPost_ret (v := .agg #[.int .i64 4, .int .i64 a, .int .i64 b, .int .i64 0, .int .i64 0, .string ⟨#[]⟩]) (by simp [results, Tryd.results102, go_sem]) rfl ⟨rfl, (((Below.refl _ _).alloc (Nat.le_refl _) _).alloc (by simp) _)⟩
theorem meth5 (a b lo hi : Int) (nm : ByteArray) (w : World) : Sem.run Tryd.prog (method 253 123 (.agg #[.int .i64 a, .int .i64 b]) "loop.example/g00759/impl.node") w = .ok (103, .agg #[.int .i64 a, .int .i64 b]) w := by kernel_rfl
set_option maxHeartbeats 400000 in
theorem nodeM5 (a b lo hi : Int) (nm : ByteArray) (w : World) :
    Calls Tryd.prog 103 #[.agg #[.int .i64 a, .int .i64 b]] w fun e w' => e = .returned (.agg #[.int .i64 5, .int .i64 a, .int .i64 b, .int .i64 0, .int .i64 0, .string ⟨#[]⟩]) ∧ Below w.heap.size w w' := by
  go_enter Tryd.func103, Tryd.ntmps103
  go_wp2
  exact bodyPost_ret (v := .agg #[.int .i64 5, .int .i64 a, .int .i64 b, .int .i64 0, .int .i64 0, .string ⟨#[]⟩]) (by simp [results, Tryd.results103, go_sem]) rfl ⟨rfl, (((Below.refl _ _).alloc (Nat.le_refl _) _).alloc (by simp) _)⟩
theorem meth6 (a b lo hi : Int) (nm : ByteArray) (w : World) : Sem.run Tryd.prog (method 253 125 (.agg #[.int .i64 lo, .int .i64 hi, .int .i64 a]) "loop.example/g00759/impl.node") w = .ok (104, .agg #[.int .i64 lo, .int .i64 hi, .int .i64 a]) w := by kernel_rfl
set_option maxHeartbeats 400000 in
theorem nodeM6 (a b lo hi : Int) (nm : ByteArray) (w : World) :
    Calls Tryd.prog 104 #[.agg #[.int .i64 lo, .int .i64 hi, .int .i64 a]] w fun e w' => e = .returned (.agg #[.int .i64 6, .int .i64 a, .int .i64 0, .int .i64 lo, .int .i64 hi, .string ⟨#[]⟩]) ∧ Below w.heap.size w w' := by
  go_enter Tryd.func104, Tryd.ntmps104
  go_wp2
  exact bodyPost_ret (v := .agg #[.int .i64 6, .int .i64 a, .int .i64 0, .int .i64 lo, .int .i64 hi, .string ⟨#[]⟩]) (by simp [results, Tryd.results104, go_sem]) rfl ⟨rfl, (((Below.refl _ _).alloc (Nat.le_refl _) _).alloc (by simp) _)⟩
theorem meth7 (a b lo hi : Int) (nm : ByteArray) (w : World) : Sem.run Tryd.prog (method 253 126 (.agg #[.int .i64 lo, .int .i64 hi, .int .i64 a]) "loop.example/g00759/impl.node") w = .ok (105, .agg #[.int .i64 lo, .int .i64 hi, .int .i64 a]) w := by kernel_rfl
set_option maxHeartbeats 400000 in
theorem nodeM7 (a b lo hi : Int) (nm : ByteArray) (w : World) :
    Calls Tryd.prog 105 #[.agg #[.int .i64 lo, .int .i64 hi, .int .i64 a]] w fun e w' => e = .returned (.agg #[.int .i64 7, .int .i64 a, .int .i64 0, .int .i64 lo, .int .i64 hi, .string ⟨#[]⟩]) ∧ Below w.heap.size w w' := by
  go_enter Tryd.func105, Tryd.ntmps105
  go_wp2
  exact bodyPost_ret (v := .agg #[.int .i64 7, .int .i64 a, .int .i64 0, .int .i64 lo, .int .i64 hi, .string ⟨#[]⟩]) (by simp [results, Tryd.results105, go_sem]) rfl ⟨rfl, (((Below.refl _ _).alloc (Nat.le_refl _) _).alloc (by simp) _)⟩
theorem meth8 (a b lo hi : Int) (nm : ByteArray) (w : World) : Sem.run Tryd.prog (method 253 127 (.agg #[.int .i64 lo, .int .i64 hi, .int .i64 a]) "loop.example/g00759/impl.node") w = .ok (106, .agg #[.int .i64 lo, .int .i64 hi, .int .i64 a]) w := by kernel_rfl
set_option maxHeartbeats 400000 in
theorem nodeM8 (a b lo hi : Int) (nm : ByteArray) (w : World) :
    Calls Tryd.prog 106 #[.agg #[.int .i64 lo, .int .i64 hi, .int .i64 a]] w fun e w' => e = .returned (.agg #[.int .i64 8, .int .i64 a, .int .i64 0, .int .i64 lo, .int .i64 hi, .string ⟨#[]⟩]) ∧ Below w.heap.size w w' := by
  go_enter Tryd.func106, Tryd.ntmps106
  go_wp2
  exact bodyPost_ret (v := .agg #[.int .i64 8, .int .i64 a, .int .i64 0, .int .i64 lo, .int .i64 hi, .string ⟨#[]⟩]) (by simp [results, Tryd.results106, go_sem]) rfl ⟨rfl, (((Below.refl _ _).alloc (Nat.le_refl _) _).alloc (by simp) _)⟩
theorem meth9 (a b lo hi : Int) (nm : ByteArray) (w : World) : Sem.run Tryd.prog (method 253 129 (.agg #[.int .i64 lo, .int .i64 hi, .int .i64 a, .int .i64 b]) "loop.example/g00759/impl.node") w = .ok (107, .agg #[.int .i64 lo, .int .i64 hi, .int .i64 a, .int .i64 b]) w := by kernel_rfl
set_option maxHeartbeats 400000 in
theorem nodeM9 (a b lo hi : Int) (nm : ByteArray) (w : World) :
    Calls Tryd.prog 107 #[.agg #[.int .i64 lo, .int .i64 hi, .int .i64 a, .int .i64 b]] w fun e w' => e = .returned (.agg #[.int .i64 9, .int .i64 a, .int .i64 b, .int .i64 lo, .int .i64 hi, .string ⟨#[]⟩]) ∧ Below w.heap.size w w' := by
  go_enter Tryd.func107, Tryd.ntmps107
  go_wp2
  exact bodyPost_ret (v := .agg #[.int .i64 9, .int .i64 a, .int .i64 b, .int .i64 lo, .int .i64 hi, .string ⟨#[]⟩]) (by simp [results, Tryd.results107, go_sem]) rfl ⟨rfl, (((Below.refl _ _).alloc (Nat.le_refl _) _).alloc (by simp) _)⟩
theorem pmeth1 (a b lo hi : Int) (nm : ByteArray) (w : World) : Sem.run Tryd.prog (method 253 116 (.agg #[]) "loop.example/g00759/impl.parts") w = .ok (98, .agg #[]) w := by kernel_rfl
theorem fnil1 (v : Value) (w : World) : Sem.run Tryd.prog (binOp .eql 94 (.iface 116 v) .nilIface) w = .ok (.bool false) w := by kernel_rfl
theorem pmeth2 (a b lo hi : Int) (nm : ByteArray) (w : World) : Sem.run Tryd.prog (method 253 118 (.agg #[.string nm]) "loop.example/g00759/impl.parts") w = .ok (98, .agg #[]) w := by kernel_rfl
theorem fnil2 (v : Value) (w : World) : Sem.run Tryd.prog (binOp .eql 94 (.iface 118 v) .nilIface) w = .ok (.bool false) w := by kernel_rfl
theorem pmeth3 (a b lo hi : Int) (nm : ByteArray) (w : World) : Sem.run Tryd.prog (method 253 120 (.agg #[.int .i64 a]) "loop.example/g00759/impl.parts") w = .ok (96, .agg #[.int .i64 a]) w := by kernel_rfl
theorem fnil3 (v : Value) (w : World) : Sem.run Tryd.prog (binOp .eql 94 (.iface 120 v) .nilIface) w = .ok (.bool false) w := by kernel_rfl
theorem pmeth4 (a b lo hi : Int) (nm : ByteArray) (w : World) : Sem.run Tryd.prog (method 253 122 (.agg #[.int .i64 a, .int .i64 b]) "loop.example/g00759/impl.parts") w = .ok (97, .agg #[.int .i64 a, .int .i64 b]) w := by kernel_rfl
theorem fnil4 (v : Value) (w : World) : Sem.run Tryd.prog (binOp .eql 94 (.iface 122 v) .nilIface) w = .ok (.bool false) w := by kernel_rfl
theorem pmeth5 (a b lo hi : Int) (nm : ByteArray) (w : World) : Sem.run Tryd.prog (method 253 123 (.agg #[.int .i64 a, .int .i64 b]) "loop.example/g00759/impl.parts") w = .ok (97, .agg #[.int .i64 a, .int .i64 b]) w := by kernel_rfl
theorem fnil5 (v : Value) (w : World) : Sem.run Tryd.prog (binOp .eql 94 (.iface 123 v) .nilIface) w = .ok (.bool false) w := by kernel_rfl
theorem pmeth6 (a b lo hi : Int) (nm : ByteArray) (w : World) : Sem.run Tryd.prog (method 253 125 (.agg #[.int .i64 lo, .int .i64 hi, .int .i64 a]) "loop.example/g00759/impl.parts") w = .ok (96, .agg #[.int .i64 a]) w := by kernel_rfl
theorem fnil6 (v : Value) (w : World) : Sem.run Tryd.prog (binOp .eql 94 (.iface 125 v) .nilIface) w = .ok (.bool false) w := by kernel_rfl
theorem pmeth7 (a b lo hi : Int) (nm : ByteArray) (w : World) : Sem.run Tryd.prog (method 253 126 (.agg #[.int .i64 lo, .int .i64 hi, .int .i64 a]) "loop.example/g00759/impl.parts") w = .ok (96, .agg #[.int .i64 a]) w := by kernel_rfl
theorem fnil7 (v : Value) (w : World) : Sem.run Tryd.prog (binOp .eql 94 (.iface 126 v) .nilIface) w = .ok (.bool false) w := by kernel_rfl
theorem pmeth8 (a b lo hi : Int) (nm : ByteArray) (w : World) : Sem.run Tryd.prog (method 253 127 (.agg #[.int .i64 lo, .int .i64 hi, .int .i64 a]) "loop.example/g00759/impl.parts") w = .ok (96, .agg #[.int .i64 a]) w := by kernel_rfl
theorem fnil8 (v : Value) (w : World) : Sem.run Tryd.prog (binOp .eql 94 (.iface 127 v) .nilIface) w = .ok (.bool false) w := by kernel_rfl
theorem pmeth9 (a b lo hi : Int) (nm : ByteArray) (w : World) : Sem.run Tryd.prog (method 253 129 (.agg #[.int .i64 lo, .int .i64 hi, .int .i64 a, .int .i64 b]) "loop.example/g00759/impl.parts") w = .ok (97, .agg #[.int .i64 a, .int .i64 b]) w := by kernel_rfl
theorem fnil9 (v : Value) (w : World) : Sem.run Tryd.prog (binOp .eql 94 (.iface 129 v) .nilIface) w = .ok (.bool false) w := by kernel_rfl
theorem parts0 (w : World) :
    Calls Tryd.prog 98 #[.agg #[]] w fun e w' => e = .returned (.slice none 0 0) ∧ Below w.heap.size w w' := by
  go_enter Tryd.func98, Tryd.ntmps98
  go_wp2
  go_ret
  exact ⟨rfl, (Below.refl _ _).alloc (Nat.le_refl _) _⟩
theorem parts1 (a : Int) (w : World) :
    Calls Tryd.prog 96 #[.agg #[.int .i64 a]] w fun e w' => ∃ g, e = .returned (.slice (some ⟨g, 0, none⟩) 1 1) ∧ w.heap.size ≤ g ∧ g < w'.heap.size ∧ w'.cell? ⟨g, 0, none⟩ = some (.int .i64 a) ∧ Below w.heap.size w w' := by
  go_enter Tryd.func96, Tryd.ntmps96
  go_wp2
  go_ret
  exact ⟨_, rfl, by simp, by simp, by simp [go_sem], (((Below.refl _ _).alloc (Nat.le_refl _) _).alloc (by simp) _)⟩
theorem parts2 (a b : Int) (w : World) :
    Calls Tryd.prog 97 #[.agg #[.int .i64 a, .int .i64 b]] w fun e w' => ∃ g, e = .returned (.slice (some ⟨g, 0, none⟩) 2 2) ∧ w.heap.size ≤ g ∧ g < w'.heap.size ∧ w'.cell? ⟨g, 0, none⟩ = some (.int .i64 a) ∧ w'.cell? ⟨g, 1, none⟩ = some (.int .i64 b) ∧ Below w.heap.size w w' := by
  go_enter Tryd.func97, Tryd.ntmps97
  go_wp2
  go_ret
  exact ⟨_, rfl, by simp, by simp, by simp [go_sem], by simp [go_sem], (((Below.refl _ _).alloc (Nat.le_refl _) _).alloc (by simp) _)⟩
set_option maxRecDepth 20000 in
set_option maxHeartbeats 400000 in
theorem span1 (a b lo hi : Int) (nm : ByteArray) (w : World) :
    Calls Tryd.prog 75 #[.iface 116 (.agg #[])] w fun e w' => e = .returned (.tuple #[.agg #[.int .i64 0, .int .i64 0], .bool false]) ∧ Below w.heap.size w w' := by
  have t6 : ∀ w : World, Sem.run Tryd.prog (Instr.typeAssert (.iface 116 (.agg #[])) 94 125 true) w = .ok (.tuple #[.agg #[.int .i64 0, .int .i64 0, .int .i64 0], .bool false]) w := fun _ => by kernel_rfl
  have t7 : ∀ w : World, Sem.run Tryd.prog (Instr.typeAssert (.iface 116 (.agg #[])) 94 126 true) w = .ok (.tuple #[.agg #[.int .i64 0, .int .i64 0, .int .i64 0], .bool false]) w := fun _ => by kernel_rfl
  have t8 : ∀ w : World, Sem.run Tryd.prog (Instr.typeAssert (.iface 116 (.agg #[])) 94 127 true) w = .ok (.tuple #[.agg #[.int .i64 0, .int .i64 0, .int .i64 0], .bool false]) w := fun _ => by kernel_rfl
  have t9 : ∀ w : World, Sem.run Tryd.prog (Instr.typeAssert (.iface 116 (.agg #[])) 94 129 true) w = .ok (.tuple #[.agg #[.int .i64 0, .int .i64 0, .int .i64 0, .int .i64 0], .bool false]) w := fun _ => by kernel_rfl
  go_enter Tryd.func75, Tryd.ntmps75
  go_wp2
  exact bodyPost_ret (v := .tuple #[.agg #[.int .i64 0, .int .i64 0], .bool false]) (by simp [results, Tryd.results75, go_sem]) rfl ⟨rfl, ((Below.refl _ _).alloc (Nat.le_refl _) _)⟩
set_option maxRecDepth 20000 in
set_option maxHeartbeats 400000 in
theorem span2 (a b lo hi : Int) (nm : ByteArray) (w : World) :
    Calls Tryd.prog 75 #[.iface 118 (.agg #[.string nm])] w fun e w' => e = .returned (.tuple #[.agg #[.int .i64 0, .int .i64 0], .bool false]) ∧ Below w.heap.size w w' := by
  have t6 : ∀ w : World, Sem.run Tryd.prog (Instr.typeAssert (.iface 118 (.agg #[.string nm])) 94 125 true) w = .ok (.tuple #[.agg #[.int .i64 0, .int .i64 0, .int .i64 0], .bool false]) w := fun _ => by kernel_rfl
  have t7 : ∀ w : World, Sem.run Tryd.prog (Instr.typeAssert (.iface 118 (.agg #[.string nm])) 94 126 true) w = .ok (.tuple #[.agg #[.int .i64 0, .int .i64 0, .int .i64 0], .bool false]) w := fun _ => by kernel_rfl
  have t8 : ∀ w : World, Sem.run Tryd.prog (Instr.typeAssert (.iface 118 (.agg #[.string nm])) 94 127 true) w = .ok (.tuple #[.agg #[.int .i64 0, .int .i64 0, .int .i64 0], .bool false]) w := fun _ => by kernel_rfl
  have t9 : ∀ w : World, Sem.run Tryd.prog (Instr.typeAssert (.iface 118 (.agg #[.string nm])) 94 129 true) w = .ok (.tuple #[.agg #[.int .i64 0, .int .i64 0, .int .i64 0, .int .i64 0], .bool false]) w := fun _ => by kernel_rfl
  go_enter Tryd.func75, Tryd.ntmps75
  go_wp2
  exact bodyPost_ret (v := .tuple #[.agg #[.int .i64 0, .int .i64 0], .bool false]) (by simp [results, Tryd.results75, go_sem]) rfl ⟨rfl, ((Below.refl _ _).alloc (Nat.le_refl _) _)⟩
set_option maxRecDepth 20000 in
set_option maxHeartbeats 400000 in
theorem span3 (a b lo hi : Int) (nm : ByteArray) (w : World) :
    Calls Tryd.prog 75 #[.iface 120 (.agg #[.int .i64 a])] w fun e w' => e = .returned (.tuple #[.agg #[.int .i64 0, .int .i64 0], .bool false]) ∧ Below w.heap.size w w' := by
  have t6 : ∀ w : World, Sem.run Tryd.prog (Instr.typeAssert (.iface 120 (.agg #[.int .i64 a])) 94 125 true) w = .ok (.tuple #[.agg #[.int .i64 0, .int .i64 0, .int .i64 0], .bool false]) w := fun _ => by kernel_rfl
  have t7 : ∀ w : World, Sem.run Tryd.prog (Instr.typeAssert (.iface 120 (.agg #[.int .i64 a])) 94 126 true) w = .ok (.tuple #[.agg #[.int .i64 0, .int .i64 0, .int .i64 0], .bool false]) w := fun _ => by kernel_rfl
  have t8 : ∀ w : World, Sem.run Tryd.prog (Instr.typeAssert (.iface 120 (.agg #[.int .i64 a])) 94 127 true) w = .ok (.tuple #[.agg #[.int .i64 0, .int .i64 0, .int .i64 0], .bool false]) w := fun _ => by kernel_rfl
  have t9 : ∀ w : World, Sem.run Tryd.prog (Instr.typeAssert (.iface 120 (.agg #[.int .i64 a])) 94 129 true) w = .ok (.tuple #[.agg #[.int .i64 0, .int .i64 0, .int .i64 0, .int .i64 0], .bool false]) w := fun _ => by kernel_rfl
  go_enter Tryd.func75, Tryd.ntmps75
  go_wp2
  exact bodyPost_ret (v := .tuple #[.agg #[.int .i64 0, .int .i64 0], .bool false]) (by simp [results, Tryd.results75, go_sem]) rfl ⟨rfl, ((Below.refl _ _).alloc (Nat.le_refl _) _)⟩
set_option maxRecDepth 20000 in
set_option maxHeartbeats 400000 in
theorem span4 (a b lo hi : Int) (nm : ByteArray) (w : World) :
    Calls Tryd.prog 75 #[.iface 122 (.agg #[.int .i64 a, .int .i64 b])] w fun e w' => e = .returned (.tuple #[.agg #[.int .i64 0, .int .i64 0], .bool false]) ∧ Below w.heap.size w w' := by
  have t6 : ∀ w : World, Sem.run Tryd.prog (Instr.typeAssert (.iface 122 (.agg #[.int .i64 a, .int .i64 b])) 94 125 true) w = .ok (.tuple #[.agg #[.int .i64 0, .int .i64 0, .int .i64 0], .bool false]) w := fun _ => by kernel_rfl
  have t7 : ∀ w : World, Sem.run Tryd.prog (Instr.typeAssert (.iface 122 (.agg #[.int .i64 a, .int .i64 b])) 94 126 true) w = .ok (.tuple #[.agg #[.int .i64 0, .int .i64 0, .int .i64 0], .bool false]) w := fun _ => by kernel_rfl
  have t8 : ∀ w : World, Sem.run Tryd.prog (Instr.typeAssert (.iface 122 (.agg #[.int .i64 a, .int .i64 b])) 94 127 true) w = .ok (.tuple #[.agg #[.int .i64 0, .int .i64 0, .int .i64 0], .bool false]) w := fun _ => by kernel_rfl
  have t9 : ∀ w : World, Sem.run Tryd.prog (Instr.typeAssert (.iface 122 (.agg #[.int .i64 a, .int .i64 b])) 94 129 true) w = .ok (.tuple #[.agg #[.int .i64 0, .int .i64 0, .int .i64 0, .int .i64 0], .bool false]) w := fun _ => by kernel_rfl
  go_enter Tryd.func75, Tryd.ntmps75
  go_wp2
  exact bodyPost_ret (v := .tuple #[.agg #[.int .i64 0, .int .i64 0], .bool false]) (by simp [results, Tryd.results75, go_sem]) rfl ⟨rfl, ((Below.refl _ _).alloc (Nat.le_refl _) _)⟩
set_option maxRecDepth 20000 in
set_option maxHeartbeats 400000 in
theorem span5 (a b lo hi : Int) (nm : ByteArray) (w : World) :
    Calls Tryd.prog 75 #[.iface 123 (.agg #[.int .i64 a, .int .i64 b])] w fun e w' => e = .returned (.tuple #[.agg #[.int .i64 0, .int .i64 0], .bool false]) ∧ Below w.heap.size w w' := by
  have t6 : ∀ w : World, Sem.run Tryd.prog (Instr.typeAssert (.iface 123 (.agg #[.int .i64 a, .int .i64 b])) 94 125 true) w = .ok (.tuple #[.agg #[.int .i64 0, .int .i64 0, .int .i64 0], .bool false]) w := fun _ => by kernel_rfl
  have t7 : ∀ w : World, Sem.run Tryd.prog (Instr.typeAssert (.iface 123 (.agg #[.int .i64 a, .int .i64 b])) 94 126 true) w = .ok (.tuple #[.agg #[.int .i64 0, .int .i64 0, .int .i64 0], .bool false]) w := fun _ => by kernel_rfl
  have t8 : ∀ w : World, Sem.run Tryd.prog (Instr.typeAssert (.iface 123 (.agg #[.int .i64 a, .int .i64 b])) 94 127 true) w = .ok (.tuple #[.agg #[.int .i64 0, .int .i64 0, .int .i64 0], .bool false]) w := fun _ => by kernel_rfl
  have t9 : ∀ w : World, Sem.run Tryd.prog (Instr.typeAssert (.iface 123 (.agg #[.int .i64 a, .int .i64 b])) 94 129 true) w = .ok (.tuple #[.agg #[.int .i64 0, .int .i64 0, .int .i64 0, .int .i64 0], .bool false]) w := fun _ => by kernel_rfl
  go_enter Tryd.func75, Tryd.ntmps75
  go_wp2
  exact bodyPost_ret (v := .tuple #[.agg #[.int .i64 0, .int .i64 0], .bool false]) (by simp [results, Tryd.results75, go_sem]) rfl ⟨rfl, ((Below.refl _ _).alloc (Nat.le_refl _) _)⟩
set_option maxRecDepth 20000 in
set_option maxHeartbeats 400000 in
theorem span6 (a b lo hi : Int) (nm : ByteArray) (w : World) :
    Calls Tryd.prog 75 #[.iface 125 (.agg #[.int .i64 lo, .int .i64 hi, .int .i64 a])] w fun e w' => e = .returned (.tuple #[.agg #[.int .i64 lo, .int .i64 hi], .bool true]) ∧ Below w.heap.size w w' := by
  have t6 : ∀ w : World, Sem.run Tryd.prog (Instr.typeAssert (.iface 125 (.agg #[.int .i64 lo, .int .i64 hi, .int .i64 a])) 94 125 true) w = .ok (.tuple #[.agg #[.int .i64 lo, .int .i64 hi, .int .i64 a], .bool true]) w := fun _ => by kernel_rfl
  go_enter Tryd.func75, Tryd.ntmps75
  go_wp2
  exact bodyPost_ret (v := .tuple #[.agg #[.int .i64 lo, .int .i64 hi], .bool true]) (by simp [results, Tryd.results75, go_sem]) rfl ⟨rfl, ((Below.refl _ _).alloc (Nat.le_refl _) _).alloc (by simp) _⟩
set_option maxRecDepth 20000 in
set_option maxHeartbeats 400000 in
theorem span7 (a b lo hi : Int) (nm : ByteArray) (w : World) :
    Calls Tryd.prog 75 #[.iface 126 (.agg #[.int .i64 lo, .int .i64 hi, .int .i64 a])] w fun e w' => e = .returned (.tuple #[.agg #[.int .i64 lo, .int .i64 hi], .bool true]) ∧ Below w.heap.size w w' := by
  have t6 : ∀ w : World, Sem.run Tryd.prog (Instr.typeAssert (.iface 126 (.agg #[.int .i64 lo, .int .i64 hi, .int .i64 a])) 94 125 true) w = .ok (.tuple #[.agg #[.int .i64 0, .int .i64 0, .int .i64 0], .bool false]) w := fun _ => by kernel_rfl
  have t7 : ∀ w : World, Sem.run Tryd.prog (Instr.typeAssert (.iface 126 (.agg #[.int .i64 lo, .int .i64 hi, .int .i64 a])) 94 126 true) w = .ok (.tuple #[.agg #[.int .i64 lo, .int .i64 hi, .int .i64 a], .bool true]) w := fun _ => by kernel_rfl
  go_enter Tryd.func75, Tryd.ntmps75
  go_wp2
  exact bodyPost_ret (v := .tuple #[.agg #[.int .i64 lo, .int .i64 hi], .bool true]) (by simp [results, Tryd.results75, go_sem]) rfl ⟨rfl, ((Below.refl _ _).alloc (Nat.le_refl _) _).alloc (by simp) _⟩
set_option maxRecDepth 20000 in
set_option maxHeartbeats 400000 in
theorem span8 (a b lo hi : Int) (nm : ByteArray) (w : World) :
    Calls Tryd.prog 75 #[.iface 127 (.agg #[.int .i64 lo, .int .i64 hi, .int .i64 a])] w fun e w' => e = .returned (.tuple #[.agg #[.int .i64 lo, .int .i64 hi], .bool true]) ∧ Below w.heap.size w w' := by
  have t6 : ∀ w : World, Sem.run Tryd.prog (Instr.typeAssert (.iface 127 (.agg #[.int .i64 lo, .int .i64 hi, .int .i64 a])) 94 125 true) w = .ok (.tuple #[.agg #[.int .i64 0, .int .i64 0, .int .i64 0], .bool false]) w := fun _ => by kernel_rfl
  have t7 : ∀ w : World, Sem.run Tryd.prog (Instr.typeAssert (.iface 127 (.agg #[.int .i64 lo, .int .i64 hi, .int .i64 a])) 94 126 true) w = .ok (.tuple #[.agg #[.int .i64 0, .int .i64 0, .int .i64 0], .bool false]) w := fun _ => by kernel_rfl
  have t8 : ∀ w : World, Sem.run Tryd.prog (Instr.typeAssert (.iface 127 (.agg #[.int .i64 lo, .int .i64 hi, .int .i64 a])) 94 127 true) w = .ok (.tuple #[.agg #[.int .i64 lo, .int .i64 hi, .int .i64 a], .bool true]) w := fun _ => by kernel_rfl
  go_enter Tryd.func75, Tryd.ntmps75
  go_wp2
  exact bodyPost_ret (v := .tuple #[.agg #[.int .i64 lo, .int .i64 hi], .bool true]) (by simp [results, Tryd.results75, go_sem]) rfl ⟨rfl, ((Below.refl _ _).alloc (Nat.le_refl _) _).alloc (by simp) _⟩
set_option maxRecDepth 20000 in
set_option maxHeartbeats 400000 in
theorem span9 (a b lo hi : Int) (nm : ByteArray) (w : World) :
    Calls Tryd.prog 75 #[.iface 129 (.agg #[.int .i64 lo, .int .i64 hi, .int .i64 a, .int .i64 b])] w fun e w' => e = .returned (.tuple #[.agg #[.int .i64 lo, .int .i64 hi], .bool true]) ∧ Below w.heap.size w w' := by
  have t6 : ∀ w : World, Sem.run Tryd.prog (Instr.typeAssert (.iface 129 (.agg #[.int .i64 lo, .int .i64 hi, .int .i64 a, .int .i64 b])) 94 125 true) w = .ok (.tuple #[.agg #[.int .i64 0, .int .i64 0, .int .i64 0], .bool false]) w := fun _ => by kernel_rfl
  have t7 : ∀ w : World, Sem.run Tryd.prog (Instr.typeAssert (.iface 129 (.agg #[.int .i64 lo, .int .i64 hi, .int .i64 a, .int .i64 b])) 94 126 true) w = .ok (.tuple #[.agg #[.int .i64 0, .int .i64 0, .int .i64 0], .bool false]) w := fun _ => by kernel_rfl
  have t8 : ∀ w : World, Sem.run Tryd.prog (Instr.typeAssert (.iface 129 (.agg #[.int .i64 lo, .int .i64 hi, .int .i64 a, .int .i64 b])) 94 127 true) w = .ok (.tuple #[.agg #[.int .i64 0, .int .i64 0, .int .i64 0], .bool false]) w := fun _ => by kernel_rfl
  have t9 : ∀ w : World, Sem.run Tryd.prog (Instr.typeAssert (.iface 129 (.agg #[.int .i64 lo, .int .i64 hi, .int .i64 a, .int .i64 b])) 94 129 true) w = .ok (.tuple #[.agg #[.int .i64 lo, .int .i64 hi, .int .i64 a, .int .i64 b], .bool true]) w := fun _ => by kernel_rfl
  go_enter Tryd.func75, Tryd.ntmps75
  go_wp2
  exact bodyPost_ret (v := .tuple #[.agg #[.int .i64 lo, .int .i64 hi], .bool true]) (by simp [results, Tryd.results75, go_sem]) rfl ⟨rfl, ((Below.refl _ _).alloc (Nat.le_refl _) _).alloc (by simp) _⟩
end Go.Proofs.YtagklhfejbdkdaaDoor
