/-
  The methods of the program's kinds, by their contracts: node, parts; spanOf; a span's right.
-/
import Derived.Test.YtljhokoojodjnaaGreatDoorFormOf
import Derived.Test.YtljhokoojodjnaaGreatDoorSmR
namespace Go.Proofs.YtljhokoojodjnaaGreatDoor
open Go.RowKit
set_option linter.unusedVariables false
set_option linter.unusedSimpArgs false
theorem meth1 (a b lo hi : Int) (nm : ByteArray) (w : World) : Sem.run Tryz.prog (method 403 226 (.agg #[]) "loop.example/g00759/impl.node") w = .ok (248, .agg #[]) w := by kernel_rfl
set_option maxHeartbeats 400000 in
theorem nodeM1 (a b lo hi : Int) (nm : ByteArray) (w : World) :
    Calls Tryz.prog 248 #[.agg #[]] w fun e w' => e = .returned (.agg #[.int .i64 1, .int .i64 0, .int .i64 0, .int .i64 0, .int .i64 0, .string ⟨#[]⟩]) ∧ Below w.heap.size w w' := by
  go_enter Tryz.func248, Tryz.ntmps248
  go_wp2
  exact bodyPost_ret (v := .agg #[.int .i64 1, .int .i64 0, .int .i64 0, .int .i64 0, .int .i64 0, .string ⟨#[]⟩]) (by simp [results, Tryz.results248, go_sem]) rfl ⟨rfl, (((Below.refl _ _).alloc (Nat.le_refl _) _).alloc (by simp) _)⟩
theorem meth2 (a b lo hi : Int) (nm : ByteArray) (w : World) : Sem.run Tryz.prog (method 403 228 (.agg #[.string nm]) "loop.example/g00759/impl.node") w = .ok (249, .agg #[.string nm]) w := by kernel_rfl
set_option maxHeartbeats 400000 in
theorem nodeM2 (a b lo hi : Int) (nm : ByteArray) (w : World) :
    Calls Tryz.prog 249 #[.agg #[.string nm]] w fun e w' => e = .returned (.agg #[.int .i64 2, .int .i64 0, .int .i64 0, .int .i64 0, .int .i64 0, .string nm]) ∧ Below w.heap.size w w' := by
  go_enter Tryz.func249, Tryz.ntmps249
  go_wp2
  exact bodyPost_ret (v := .agg #[.int .i64 2, .int .i64 0, .int .i64 0, .int .i64 0, .int .i64 0, .string nm]) (by simp [results, Tryz.results249, go_sem]) rfl ⟨rfl, (((Below.refl _ _).alloc (Nat.le_refl _) _).alloc (by simp) _)⟩
theorem meth3 (a b lo hi : Int) (nm : ByteArray) (w : World) : Sem.run Tryz.prog (method 403 230 (.agg #[.int .i64 a]) "loop.example/g00759/impl.node") w = .ok (250, .agg #[.int .i64 a]) w := by kernel_rfl
set_option maxHeartbeats 400000 in
theorem nodeM3 (a b lo hi : Int) (nm : ByteArray) (w : World) :
    Calls Tryz.prog 250 #[.agg #[.int .i64 a]] w fun e w' => e = .returned (.agg #[.int .i64 3, .int .i64 a, .int .i64 0, .int .i64 0, .int .i64 0, .string ⟨#[]⟩]) ∧ Below w.heap.size w w' := by
  go_enter Tryz.func250, Tryz.ntmps250
  go_wp2
  exact bodyPost_ret (v := .agg #[.int .i64 3, .int .i64 a, .int .i64 0, .int .i64 0, .int .i64 0, .string ⟨#[]⟩]) (by simp [results, Tryz.results250, go_sem]) rfl ⟨rfl, (((Below.refl _ _).alloc (Nat.le_refl _) _).alloc (by simp) _)⟩
theorem meth4 (a b lo hi : Int) (nm : ByteArray) (w : World) : Sem.run Tryz.prog (method 403 232 (.agg #[.int .i64 a, .int .i64 b]) "loop.example/g00759/impl.node") w = .ok (251, .agg #[.int .i64 a, .int .i64 b]) w := by kernel_rfl
set_option maxHeartbeats 400000 in
theorem nodeM4 (a b lo hi : Int) (nm : ByteArray) (w : World) :
    Calls Tryz.prog 251 #[.agg #[.int .i64 a, .int .i64 b]] w fun e w' => e = .returned (.agg #[.int .i64 4, .int .i64 a, .int .i64 b, .int .i64 0, .int .i64 0, .string ⟨#[]⟩]) ∧ Below w.heap.size w w' := by
  go_enter Tryz.func251, Tryz.ntmps251
  go_wp2
  exact bodyPost_ret (v := .agg #[.int .i64 4, .int .i64 a, .int .i64 b, .int .i64 0, .int .i64 0, .string ⟨#[]⟩]) (by simp [results, Tryz.results251, go_sem]) rfl ⟨rfl, (((Below.refl _ _).alloc (Nat.le_refl _) _).alloc (by simp) _)⟩
theorem meth5 (a b lo hi : Int) (nm : ByteArray) (w : World) : Sem.run Tryz.prog (method 403 233 (.agg #[.int .i64 a, .int .i64 b]) "loop.example/g00759/impl.node") w = .ok (252, .agg #[.int .i64 a, .int .i64 b]) w := by kernel_rfl
set_option maxHeartbeats 400000 in
theorem nodeM5 (a b lo hi : Int) (nm : ByteArray) (w : World) :
    Calls Tryz.prog 252 #[.agg #[.int .i64 a, .int .i64 b]] w fun e w' => e = .returned (.agg #[.int .i64 5, .int .i64 a, .int .i64 b, .int .i64 0, .int .i64 0, .string ⟨#[]⟩]) ∧ Below w.heap.size w w' := by
  go_enter Tryz.func252, Tryz.ntmps252
  go_wp2
  exact bodyPost_ret (v := .agg #[.int .i64 5, .int .i64 a, .int .i64 b, .int .i64 0, .int .i64 0, .string ⟨#[]⟩]) (by simp [results, Tryz.results252, go_sem]) rfl ⟨rfl, (((Below.refl _ _).alloc (Nat.le_refl _) _).alloc (by simp) _)⟩
theorem meth6 (a b lo hi : Int) (nm : ByteArray) (w : World) : Sem.run Tryz.prog (method 403 235 (.agg #[.int .i64 lo, .int .i64 hi, .int .i64 a]) "loop.example/g00759/impl.node") w = .ok (253, .agg #[.int .i64 lo, .int .i64 hi, .int .i64 a]) w := by kernel_rfl
set_option maxHeartbeats 400000 in
theorem nodeM6 (a b lo hi : Int) (nm : ByteArray) (w : World) :
    Calls Tryz.prog 253 #[.agg #[.int .i64 lo, .int .i64 hi, .int .i64 a]] w fun e w' => e = .returned (.agg #[.int .i64 6, .int .i64 a, .int .i64 0, .int .i64 lo, .int .i64 hi, .string ⟨#[]⟩]) ∧ Below w.heap.size w w' := by
  go_enter Tryz.func253, Tryz.ntmps253
  go_wp2
  exact bodyPost_ret (v := .agg #[.int .i64 6, .int .i64 a, .int .i64 0, .int .i64 lo, .int .i64 hi, .string ⟨#[]⟩]) (by simp [results, Tryz.results253, go_sem]) rfl ⟨rfl, (((Below.refl _ _).alloc (Nat.le_refl _) _).alloc (by simp) _)⟩
theorem meth7 (a b lo hi : Int) (nm : ByteArray) (w : World) : Sem.run Tryz.prog (method 403 236 (.agg #[.int .i64 lo, .int .i64 hi, .int .i64 a]) "loop.example/g00759/impl.node") w = .ok (254, .agg #[.int .i64 lo, .int .i64 hi, .int .i64 a]) w := by kernel_rfl
set_option maxHeartbeats 400000 in
theorem nodeM7 (a b lo hi : Int) (nm : ByteArray) (w : World) :
    Calls Tryz.prog 254 #[.agg #[.int .i64 lo, .int .i64 hi, .int .i64 a]] w fun e w' => e = .returned (.agg #[.int .i64 7, .int .i64 a, .int .i64 0, .int .i64 lo, .int .i64 hi, .string ⟨#[]⟩]) ∧ Below w.heap.size w w' := by
  go_enter Tryz.func254, Tryz.ntmps254
  go_wp2
  exact bodyPost_ret (v := .agg #[.int .i64 7, .int .i64 a, .int .i64 0, .int .i64 lo, .int .i64 hi, .string ⟨#[]⟩]) (by simp [results, Tryz.results254, go_sem]) rfl ⟨rfl, (((Below.refl _ _).alloc (Nat.le_refl _) _).alloc (by simp) _)⟩
theorem meth8 (a b lo hi : Int) (nm : ByteArray) (w : World) : Sem.run Tryz.prog (method 403 237 (.agg #[.int .i64 lo, .int .i64 hi, .int .i64 a]) "loop.example/g00759/impl.node") w = .ok (255, .agg #[.int .i64 lo, .int .i64 hi, .int .i64 a]) w := by kernel_rfl
set_option maxHeartbeats 400000 in
theorem nodeM8 (a b lo hi : Int) (nm : ByteArray) (w : World) :
    Calls Tryz.prog 255 #[.agg #[.int .i64 lo, .int .i64 hi, .int .i64 a]] w fun e w' => e = .returned (.agg #[.int .i64 8, .int .i64 a, .int .i64 0, .int .i64 lo, .int .i64 hi, .string ⟨#[]⟩]) ∧ Below w.heap.size w w' := by
  go_enter Tryz.func255, Tryz.ntmps255
  go_wp2
  exact bodyPost_ret (v := .agg #[.int .i64 8, .int .i64 a, .int .i64 0, .int .i64 lo, .int .i64 hi, .string ⟨#[]⟩]) (by simp [results, Tryz.results255, go_sem]) rfl ⟨rfl, (((Below.refl _ _).alloc (Nat.le_refl _) _).alloc (by simp) _)⟩
theorem meth9 (a b lo hi : Int) (nm : ByteArray) (w : World) : Sem.run Tryz.prog (method 403 239 (.agg #[.int .i64 lo, .int .i64 hi, .int .i64 a, .int .i64 b]) "loop.example/g00759/impl.node") w = .ok (256, .agg #[.int .i64 lo, .int .i64 hi, .int .i64 a, .int .i64 b]) w := by kernel_rfl
set_option maxHeartbeats 400000 in
theorem nodeM9 (a b lo hi : Int) (nm : ByteArray) (w : World) :
    Calls Tryz.prog 256 #[.agg #[.int .i64 lo, .int .i64 hi, .int .i64 a, .int .i64 b]] w fun e w' => e = .returned (.agg #[.int .i64 9, .int .i64 a, .int .i64 b, .int .i64 lo, .int .i64 hi, .string ⟨#[]⟩]) ∧ Below w.heap.size w w' := by
  go_enter Tryz.func256, Tryz.ntmps256
  go_wp2
  exact bodyPost_ret (v := .agg #[.int .i64 9, .int .i64 a, .int .i64 b, .int .i64 lo, .int .i64 hi, .string ⟨#[]⟩]) (by simp [results, Tryz.results256, go_sem]) rfl ⟨rfl, (((Below.refl _ _).alloc (Nat.le_refl _) _).alloc (by simp) _)⟩
theorem pmeth1 (a b lo hi : Int) (nm : ByteArray) (w : World) : Sem.run Tryz.prog (method 403 226 (.agg #[]) "loop.example/g00759/impl.parts") w = .ok (247, .agg #[]) w := by kernel_rfl
theorem fnil1 (v : Value) (w : World) : Sem.run Tryz.prog (binOp .eql 190 (.iface 226 v) .nilIface) w = .ok (.bool false) w := by kernel_rfl
theorem pmeth2 (a b lo hi : Int) (nm : ByteArray) (w : World) : Sem.run Tryz.prog (method 403 228 (.agg #[.string nm]) "loop.example/g00759/impl.parts") w = .ok (247, .agg #[]) w := by kernel_rfl
theorem fnil2 (v : Value) (w : World) : Sem.run Tryz.prog (binOp .eql 190 (.iface 228 v) .nilIface) w = .ok (.bool false) w := by kernel_rfl
theorem pmeth3 (a b lo hi : Int) (nm : ByteArray) (w : World) : Sem.run Tryz.prog (method 403 230 (.agg #[.int .i64 a]) "loop.example/g00759/impl.parts") w = .ok (245, .agg #[.int .i64 a]) w := by kernel_rfl
theorem fnil3 (v : Value) (w : World) : Sem.run Tryz.prog (binOp .eql 190 (.iface 230 v) .nilIface) w = .ok (.bool false) w := by kernel_rfl
theorem pmeth4 (a b lo hi : Int) (nm : ByteArray) (w : World) : Sem.run Tryz.prog (method 403 232 (.agg #[.int .i64 a, .int .i64 b]) "loop.example/g00759/impl.parts") w = .ok (246, .agg #[.int .i64 a, .int .i64 b]) w := by kernel_rfl
theorem fnil4 (v : Value) (w : World) : Sem.run Tryz.prog (binOp .eql 190 (.iface 232 v) .nilIface) w = .ok (.bool false) w := by kernel_rfl
theorem pmeth5 (a b lo hi : Int) (nm : ByteArray) (w : World) : Sem.run Tryz.prog (method 403 233 (.agg #[.int .i64 a, .int .i64 b]) "loop.example/g00759/impl.parts") w = .ok (246, .agg #[.int .i64 a, .int .i64 b]) w := by kernel_rfl
theorem fnil5 (v : Value) (w : World) : Sem.run Tryz.prog (binOp .eql 190 (.iface 233 v) .nilIface) w = .ok (.bool false) w := by kernel_rfl
theorem pmeth6 (a b lo hi : Int) (nm : ByteArray) (w : World) : Sem.run Tryz.prog (method 403 235 (.agg #[.int .i64 lo, .int .i64 hi, .int .i64 a]) "loop.example/g00759/impl.parts") w = .ok (245, .agg #[.int .i64 a]) w := by kernel_rfl
theorem fnil6 (v : Value) (w : World) : Sem.run Tryz.prog (binOp .eql 190 (.iface 235 v) .nilIface) w = .ok (.bool false) w := by kernel_rfl
theorem pmeth7 (a b lo hi : Int) (nm : ByteArray) (w : World) : Sem.run Tryz.prog (method 403 236 (.agg #[.int .i64 lo, .int .i64 hi, .int .i64 a]) "loop.example/g00759/impl.parts") w = .ok (245, .agg #[.int .i64 a]) w := by kernel_rfl
theorem fnil7 (v : Value) (w : World) : Sem.run Tryz.prog (binOp .eql 190 (.iface 236 v) .nilIface) w = .ok (.bool false) w := by kernel_rfl
theorem pmeth8 (a b lo hi : Int) (nm : ByteArray) (w : World) : Sem.run Tryz.prog (method 403 237 (.agg #[.int .i64 lo, .int .i64 hi, .int .i64 a]) "loop.example/g00759/impl.parts") w = .ok (245, .agg #[.int .i64 a]) w := by kernel_rfl
theorem fnil8 (v : Value) (w : World) : Sem.run Tryz.prog (binOp .eql 190 (.iface 237 v) .nilIface) w = .ok (.bool false) w := by kernel_rfl
theorem pmeth9 (a b lo hi : Int) (nm : ByteArray) (w : World) : Sem.run Tryz.prog (method 403 239 (.agg #[.int .i64 lo, .int .i64 hi, .int .i64 a, .int .i64 b]) "loop.example/g00759/impl.parts") w = .ok (246, .agg #[.int .i64 a, .int .i64 b]) w := by kernel_rfl
theorem fnil9 (v : Value) (w : World) : Sem.run Tryz.prog (binOp .eql 190 (.iface 239 v) .nilIface) w = .ok (.bool false) w := by kernel_rfl
theorem parts0 (w : World) :
    Calls Tryz.prog 247 #[.agg #[]] w fun e w' => e = .returned (.slice none 0 0) ∧ Below w.heap.size w w' := by
  go_enter Tryz.func247, Tryz.ntmps247
  go_wp2
  go_ret
  exact ⟨rfl, (Below.refl _ _).alloc (Nat.le_refl _) _⟩
theorem parts1 (a : Int) (w : World) :
    Calls Tryz.prog 245 #[.agg #[.int .i64 a]] w fun e w' => ∃ g, e = .returned (.slice (some ⟨g, 0, none⟩) 1 1) ∧ w.heap.size ≤ g ∧ g < w'.heap.size ∧ w'.cell? ⟨g, 0, none⟩ = some (.int .i64 a) ∧ Below w.heap.size w w' := by
  go_enter Tryz.func245, Tryz.ntmps245
  go_wp2
  go_ret
  exact ⟨_, rfl, by simp, by simp, by simp [go_sem], (((Below.refl _ _).alloc (Nat.le_refl _) _).alloc (by simp) _)⟩
theorem parts2 (a b : Int) (w : World) :
    Calls Tryz.prog 246 #[.agg #[.int .i64 a, .int .i64 b]] w fun e w' => ∃ g, e = .returned (.slice (some ⟨g, 0, none⟩) 2 2) ∧ w.heap.size ≤ g ∧ g < w'.heap.size ∧ w'.cell? ⟨g, 0, none⟩ = some (.int .i64 a) ∧ w'.cell? ⟨g, 1, none⟩ = some (.int .i64 b) ∧ Below w.heap.size w w' := by
  go_enter Tryz.func246, Tryz.ntmps246
  go_wp2
  go_ret
  exact ⟨_, rfl, by simp, by simp, by simp [go_sem], by simp [go_sem], (((Below.refl _ _).alloc (Nat.le_refl _) _).alloc (by simp) _)⟩
set_option maxRecDepth 20000 in
set_option maxHeartbeats 400000 in
theorem span1 (a b lo hi : Int) (nm : ByteArray) (w : World) :
    Calls Tryz.prog 144 #[.iface 226 (.agg #[])] w fun e w' => e = .returned (.tuple #[.agg #[.int .i64 0, .int .i64 0], .bool false]) ∧ Below w.heap.size w w' := by
  have t6 : ∀ w : World, Sem.run Tryz.prog (Instr.typeAssert (.iface 226 (.agg #[])) 190 235 true) w = .ok (.tuple #[.agg #[.int .i64 0, .int .i64 0, .int .i64 0], .bool false]) w := fun _ => by kernel_rfl
  have t7 : ∀ w : World, Sem.run Tryz.prog (Instr.typeAssert (.iface 226 (.agg #[])) 190 236 true) w = .ok (.tuple #[.agg #[.int .i64 0, .int .i64 0, .int .i64 0], .bool false]) w := fun _ => by kernel_rfl
  have t8 : ∀ w : World, Sem.run Tryz.prog (Instr.typeAssert (.iface 226 (.agg #[])) 190 237 true) w = .ok (.tuple #[.agg #[.int .i64 0, .int .i64 0, .int .i64 0], .bool false]) w := fun _ => by kernel_rfl
  have t9 : ∀ w : World, Sem.run Tryz.prog (Instr.typeAssert (.iface 226 (.agg #[])) 190 239 true) w = .ok (.tuple #[.agg #[.int .i64 0, .int .i64 0, .int .i64 0, .int .i64 0], .bool false]) w := fun _ => by kernel_rfl
  go_enter Tryz.func144, Tryz.ntmps144
  go_wp2
  exact bodyPost_ret (v := .tuple #[.agg #[.int .i64 0, .int .i64 0], .bool false]) (by simp [results, Tryz.results144, go_sem]) rfl ⟨rfl, ((Below.refl _ _).alloc (Nat.le_refl _) _)⟩
set_option maxRecDepth 20000 in
set_option maxHeartbeats 400000 in
theorem span2 (a b lo hi : Int) (nm : ByteArray) (w : World) :
    Calls Tryz.prog 144 #[.iface 228 (.agg #[.string nm])] w fun e w' => e = .returned (.tuple #[.agg #[.int .i64 0, .int .i64 0], .bool false]) ∧ Below w.heap.size w w' := by
  have t6 : ∀ w : World, Sem.run Tryz.prog (Instr.typeAssert (.iface 228 (.agg #[.string nm])) 190 235 true) w = .ok (.tuple #[.agg #[.int .i64 0, .int .i64 0, .int .i64 0], .bool false]) w := fun _ => by kernel_rfl
  have t7 : ∀ w : World, Sem.run Tryz.prog (Instr.typeAssert (.iface 228 (.agg #[.string nm])) 190 236 true) w = .ok (.tuple #[.agg #[.int .i64 0, .int .i64 0, .int .i64 0], .bool false]) w := fun _ => by kernel_rfl
  have t8 : ∀ w : World, Sem.run Tryz.prog (Instr.typeAssert (.iface 228 (.agg #[.string nm])) 190 237 true) w = .ok (.tuple #[.agg #[.int .i64 0, .int .i64 0, .int .i64 0], .bool false]) w := fun _ => by kernel_rfl
  have t9 : ∀ w : World, Sem.run Tryz.prog (Instr.typeAssert (.iface 228 (.agg #[.string nm])) 190 239 true) w = .ok (.tuple #[.agg #[.int .i64 0, .int .i64 0, .int .i64 0, .int .i64 0], .bool false]) w := fun _ => by kernel_rfl
  go_enter Tryz.func144, Tryz.ntmps144
  go_wp2
  exact bodyPost_ret (v := .tuple #[.agg #[.int .i64 0, .int .i64 0], .bool false]) (by simp [results, Tryz.results144, go_sem]) rfl ⟨rfl, ((Below.refl _ _).alloc (Nat.le_refl _) _)⟩
set_option maxRecDepth 20000 in
set_option maxHeartbeats 400000 in
theorem span3 (a b lo hi : Int) (nm : ByteArray) (w : World) :
    Calls Tryz.prog 144 #[.iface 230 (.agg #[.int .i64 a])] w fun e w' => e = .returned (.tuple #[.agg #[.int .i64 0, .int .i64 0], .bool false]) ∧ Below w.heap.size w w' := by
  have t6 : ∀ w : World, Sem.run Tryz.prog (Instr.typeAssert (.iface 230 (.agg #[.int .i64 a])) 190 235 true) w = .ok (.tuple #[.agg #[.int .i64 0, .int .i64 0, .int .i64 0], .bool false]) w := fun _ => by kernel_rfl
  have t7 : ∀ w : World, Sem.run Tryz.prog (Instr.typeAssert (.iface 230 (.agg #[.int .i64 a])) 190 236 true) w = .ok (.tuple #[.agg #[.int .i64 0, .int .i64 0, .int .i64 0], .bool false]) w := fun _ => by kernel_rfl
  have t8 : ∀ w : World, Sem.run Tryz.prog (Instr.typeAssert (.iface 230 (.agg #[.int .i64 a])) 190 237 true) w = .ok (.tuple #[.agg #[.int .i64 0, .int .i64 0, .int .i64 0], .bool false]) w := fun _ => by kernel_rfl
  have t9 : ∀ w : World, Sem.run Tryz.prog (Instr.typeAssert (.iface 230 (.agg #[.int .i64 a])) 190 239 true) w = .ok (.tuple #[.agg #[.int .i64 0, .int .i64 0, .int .i64 0, .int .i64 0], .bool false]) w := fun _ => by kernel_rfl
  go_enter Tryz.func144, Tryz.ntmps144
  go_wp2
  exact bodyPost_ret (v := .tuple #[.agg #[.int .i64 0, .int .i64 0], .bool false]) (by simp [results, Tryz.results144, go_sem]) rfl ⟨rfl, ((Below.refl _ _).alloc (Nat.le_refl _) _)⟩
set_option maxRecDepth 20000 in
set_option maxHeartbeats 400000 in
theorem span4 (a b lo hi : Int) (nm : ByteArray) (w : World) :
    Calls Tryz.prog 144 #[.iface 232 (.agg #[.int .i64 a, .int .i64 b])] w fun e w' => e = .returned (.tuple #[.agg #[.int .i64 0, .int .i64 0], .bool false]) ∧ Below w.heap.size w w' := by
  have t6 : ∀ w : World, Sem.run Tryz.prog (Instr.typeAssert (.iface 232 (.agg #[.int .i64 a, .int .i64 b])) 190 235 true) w = .ok (.tuple #[.agg #[.int .i64 0, .int .i64 0, .int .i64 0], .bool false]) w := fun _ => by kernel_rfl
  have t7 : ∀ w : World, Sem.run Tryz.prog (Instr.typeAssert (.iface 232 (.agg #[.int .i64 a, .int .i64 b])) 190 236 true) w = .ok (.tuple #[.agg #[.int .i64 0, .int .i64 0, .int .i64 0], .bool false]) w := fun _ => by kernel_rfl
  have t8 : ∀ w : World, Sem.run Tryz.prog (Instr.typeAssert (.iface 232 (.agg #[.int .i64 a, .int .i64 b])) 190 237 true) w = .ok (.tuple #[.agg #[.int .i64 0, .int .i64 0, .int .i64 0], .bool false]) w := fun _ => by kernel_rfl
  have t9 : ∀ w : World, Sem.run Tryz.prog (Instr.typeAssert (.iface 232 (.agg #[.int .i64 a, .int .i64 b])) 190 239 true) w = .ok (.tuple #[.agg #[.int .i64 0, .int .i64 0, .int .i64 0, .int .i64 0], .bool false]) w := fun _ => by kernel_rfl
  go_enter Tryz.func144, Tryz.ntmps144
  go_wp2
  exact bodyPost_ret (v := .tuple #[.agg #[.int .i64 0, .int .i64 0], .bool false]) (by simp [results, Tryz.results144, go_sem]) rfl ⟨rfl, ((Below.refl _ _).alloc (Nat.le_refl _) _)⟩
set_option maxRecDepth 20000 in
set_option maxHeartbeats 400000 in
theorem span5 (a b lo hi : Int) (nm : ByteArray) (w : World) :
    Calls Tryz.prog 144 #[.iface 233 (.agg #[.int .i64 a, .int .i64 b])] w fun e w' => e = .returned (.tuple #[.agg #[.int .i64 0, .int .i64 0], .bool false]) ∧ Below w.heap.size w w' := by
  have t6 : ∀ w : World, Sem.run Tryz.prog (Instr.typeAssert (.iface 233 (.agg #[.int .i64 a, .int .i64 b])) 190 235 true) w = .ok (.tuple #[.agg #[.int .i64 0, .int .i64 0, .int .i64 0], .bool false]) w := fun _ => by kernel_rfl
  have t7 : ∀ w : World, Sem.run Tryz.prog (Instr.typeAssert (.iface 233 (.agg #[.int .i64 a, .int .i64 b])) 190 236 true) w = .ok (.tuple #[.agg #[.int .i64 0, .int .i64 0, .int .i64 0], .bool false]) w := fun _ => by kernel_rfl
  have t8 : ∀ w : World, Sem.run Tryz.prog (Instr.typeAssert (.iface 233 (.agg #[.int .i64 a, .int .i64 b])) 190 237 true) w = .ok (.tuple #[.agg #[.int .i64 0, .int .i64 0, .int .i64 0], .bool false]) w := fun _ => by kernel_rfl
  have t9 : ∀ w : World, Sem.run Tryz.prog (Instr.typeAssert (.iface 233 (.agg #[.int .i64 a, .int .i64 b])) 190 239 true) w = .ok (.tuple #[.agg #[.int .i64 0, .int .i64 0, .int .i64 0, .int .i64 0], .bool false]) w := fun _ => by kernel_rfl
  go_enter Tryz.func144, Tryz.ntmps144
  go_wp2
  exact bodyPost_ret (v := .tuple #[.agg #[.int .i64 0, .int .i64 0], .bool false]) (by simp [results, Tryz.results144, go_sem]) rfl ⟨rfl, ((Below.refl _ _).alloc (Nat.le_refl _) _)⟩
set_option maxRecDepth 20000 in
set_option maxHeartbeats 400000 in
theorem span6 (a b lo hi : Int) (nm : ByteArray) (w : World) :
    Calls Tryz.prog 144 #[.iface 235 (.agg #[.int .i64 lo, .int .i64 hi, .int .i64 a])] w fun e w' => e = .returned (.tuple #[.agg #[.int .i64 lo, .int .i64 hi], .bool true]) ∧ Below w.heap.size w w' := by
  have t6 : ∀ w : World, Sem.run Tryz.prog (Instr.typeAssert (.iface 235 (.agg #[.int .i64 lo, .int .i64 hi, .int .i64 a])) 190 235 true) w = .ok (.tuple #[.agg #[.int .i64 lo, .int .i64 hi, .int .i64 a], .bool true]) w := fun _ => by kernel_rfl
  go_enter Tryz.func144, Tryz.ntmps144
  go_wp2
  exact bodyPost_ret (v := .tuple #[.agg #[.int .i64 lo, .int .i64 hi], .bool true]) (by simp [results, Tryz.results144, go_sem]) rfl ⟨rfl, ((Below.refl _ _).alloc (Nat.le_refl _) _).alloc (by simp) _⟩
set_option maxRecDepth 20000 in
set_option maxHeartbeats 400000 in
theorem span7 (a b lo hi : Int) (nm : ByteArray) (w : World) :
    Calls Tryz.prog 144 #[.iface 236 (.agg #[.int .i64 lo, .int .i64 hi, .int .i64 a])] w fun e w' => e = .returned (.tuple #[.agg #[.int .i64 lo, .int .i64 hi], .bool true]) ∧ Below w.heap.size w w' := by
  have t6 : ∀ w : World, Sem.run Tryz.prog (Instr.typeAssert (.iface 236 (.agg #[.int .i64 lo, .int .i64 hi, .int .i64 a])) 190 235 true) w = .ok (.tuple #[.agg #[.int .i64 0, .int .i64 0, .int .i64 0], .bool false]) w := fun _ => by kernel_rfl
  have t7 : ∀ w : World, Sem.run Tryz.prog (Instr.typeAssert (.iface 236 (.agg #[.int .i64 lo, .int .i64 hi, .int .i64 a])) 190 236 true) w = .ok (.tuple #[.agg #[.int .i64 lo, .int .i64 hi, .int .i64 a], .bool true]) w := fun _ => by kernel_rfl
  go_enter Tryz.func144, Tryz.ntmps144
  go_wp2
  exact bodyPost_ret (v := .tuple #[.agg #[.int .i64 lo, .int .i64 hi], .bool true]) (by simp [results, Tryz.results144, go_sem]) rfl ⟨rfl, ((Below.refl _ _).alloc (Nat.le_refl _) _).alloc (by simp) _⟩
set_option maxRecDepth 20000 in
set_option maxHeartbeats 400000 in
theorem span8 (a b lo hi : Int) (nm : ByteArray) (w : World) :
    Calls Tryz.prog 144 #[.iface 237 (.agg #[.int .i64 lo, .int .i64 hi, .int .i64 a])] w fun e w' => e = .returned (.tuple #[.agg #[.int .i64 lo, .int .i64 hi], .bool true]) ∧ Below w.heap.size w w' := by
  have t6 : ∀ w : World, Sem.run Tryz.prog (Instr.typeAssert (.iface 237 (.agg #[.int .i64 lo, .int .i64 hi, .int .i64 a])) 190 235 true) w = .ok (.tuple #[.agg #[.int .i64 0, .int .i64 0, .int .i64 0], .bool false]) w := fun _ => by kernel_rfl
  have t7 : ∀ w : World, Sem.run Tryz.prog (Instr.typeAssert (.iface 237 (.agg #[.int .i64 lo, .int .i64 hi, .int .i64 a])) 190 236 true) w = .ok (.tuple #[.agg #[.int .i64 0, .int .i64 0, .int .i64 0], .bool false]) w := fun _ => by kernel_rfl
  have t8 : ∀ w : World, Sem.run Tryz.prog (Instr.typeAssert (.iface 237 (.agg #[.int .i64 lo, .int .i64 hi, .int .i64 a])) 190 237 true) w = .ok (.tuple #[.agg #[.int .i64 lo, .int .i64 hi, .int .i64 a], .bool true]) w := fun _ => by kernel_rfl
  go_enter Tryz.func144, Tryz.ntmps144
  go_wp2
  exact bodyPost_ret (v := .tuple #[.agg #[.int .i64 lo, .int .i64 hi], .bool true]) (by simp [results, Tryz.results144, go_sem]) rfl ⟨rfl, ((Below.refl _ _).alloc (Nat.le_refl _) _).alloc (by simp) _⟩
set_option maxRecDepth 20000 in
set_option maxHeartbeats 400000 in
theorem span9 (a b lo hi : Int) (nm : ByteArray) (w : World) :
    Calls Tryz.prog 144 #[.iface 239 (.agg #[.int .i64 lo, .int .i64 hi, .int .i64 a, .int .i64 b])] w fun e w' => e = .returned (.tuple #[.agg #[.int .i64 lo, .int .i64 hi], .bool true]) ∧ Below w.heap.size w w' := by
  have t6 : ∀ w : World, Sem.run Tryz.prog (Instr.typeAssert (.iface 239 (.agg #[.int .i64 lo, .int .i64 hi, .int .i64 a, .int .i64 b])) 190 235 true) w = .ok (.tuple #[.agg #[.int .i64 0, .int .i64 0, .int .i64 0], .bool false]) w := fun _ => by kernel_rfl
  have t7 : ∀ w : World, Sem.run Tryz.prog (Instr.typeAssert (.iface 239 (.agg #[.int .i64 lo, .int .i64 hi, .int .i64 a, .int .i64 b])) 190 236 true) w = .ok (.tuple #[.agg #[.int .i64 0, .int .i64 0, .int .i64 0], .bool false]) w := fun _ => by kernel_rfl
  have t8 : ∀ w : World, Sem.run Tryz.prog (Instr.typeAssert (.iface 239 (.agg #[.int .i64 lo, .int .i64 hi, .int .i64 a, .int .i64 b])) 190 237 true) w = .ok (.tuple #[.agg #[.int .i64 0, .int .i64 0, .int .i64 0], .bool false]) w := fun _ => by kernel_rfl
  have t9 : ∀ w : World, Sem.run Tryz.prog (Instr.typeAssert (.iface 239 (.agg #[.int .i64 lo, .int .i64 hi, .int .i64 a, .int .i64 b])) 190 239 true) w = .ok (.tuple #[.agg #[.int .i64 lo, .int .i64 hi, .int .i64 a, .int .i64 b], .bool true]) w := fun _ => by kernel_rfl
  go_enter Tryz.func144, Tryz.ntmps144
  go_wp2
  exact bodyPost_ret (v := .tuple #[.agg #[.int .i64 lo, .int .i64 hi], .bool true]) (by simp [results, Tryz.results144, go_sem]) rfl ⟨rfl, ((Below.refl _ _).alloc (Nat.le_refl _) _).alloc (by simp) _⟩
end Go.Proofs.YtljhokoojodjnaaGreatDoor
