/- The method ins of each kind of place; registerSet. No condition. -/
import Derived.Test.YtneohabkoighcaaInsP
namespace Go.Proofs.Ytneohabkoighcaa
open Go.ChangeShapes Go.WideShapes Go.ChangeAt Go.RowKit

set_option maxHeartbeats 1000000 in
theorem ins_number (r n : Int) (w : World) :
    Calls Try.prog 105 #[.agg #[.int .i64 r, .int .i64 n]] w fun e w' => e = .returned (.agg #[.int .i64 1, .int .i64 r, .int .i64 0, .int .i64 0, .int .i64 n]) ∧ Below w.heap.size w w' := by
  go_enter Try.func105, Try.ntmps105
  go_wp2
  refine bodyPost_ret (v := .agg #[.int .i64 1, .int .i64 r, .int .i64 0, .int .i64 0, .int .i64 n]) (by simp [results, Try.results105, go_sem]) rfl ⟨rfl, ?_⟩
  repeat (first | exact Below.refl _ _ | refine Below.alloc ?_ (by simp; try omega) _ | refine Below.setCell ?_ (by simp; try omega) _)
theorem meth_number (v : Value) (w : World) : (Go.method 269 125 v "loop.example/g00249/impl.ins").run Try.prog w = .ok (105, v) w := by kernel_rfl
theorem as_number_number (v : Value) (w : World) : (Instr.typeAssert (.iface 125 v) 114 125 true).run Try.prog w = .ok (.tuple #[v, .bool true]) w := by kernel_rfl
set_option maxHeartbeats 1000000 in
theorem regSet_number (r n : Int) (w : World) :
    Calls Try.prog 76 #[.iface 125 (.agg #[.int .i64 r, .int .i64 n])] w fun e w' => e = .returned (.int .i64 r) ∧ Below w.heap.size w w' := by
  have q0 := as_number_number
  go_enter Try.func76, Try.ntmps76
  go_wp2
  go_ret
  refine ⟨rfl, ?_⟩
  repeat (first | exact Below.refl _ _ | refine Below.alloc ?_ (by simp; try omega) _ | refine Below.setCell ?_ (by simp; try omega) _)

set_option maxHeartbeats 1000000 in
theorem ins_one (o r a : Int) (w : World) :
    Calls Try.prog 106 #[.agg #[.int .i64 o, .int .i64 r, .int .i64 a]] w fun e w' => e = .returned (.agg #[.int .i64 o, .int .i64 r, .int .i64 a, .int .i64 0, .int .i64 0]) ∧ Below w.heap.size w w' := by
  go_enter Try.func106, Try.ntmps106
  go_wp2
  refine bodyPost_ret (v := .agg #[.int .i64 o, .int .i64 r, .int .i64 a, .int .i64 0, .int .i64 0]) (by simp [results, Try.results106, go_sem]) rfl ⟨rfl, ?_⟩
  repeat (first | exact Below.refl _ _ | refine Below.alloc ?_ (by simp; try omega) _ | refine Below.setCell ?_ (by simp; try omega) _)
theorem meth_one (v : Value) (w : World) : (Go.method 269 127 v "loop.example/g00249/impl.ins").run Try.prog w = .ok (106, v) w := by kernel_rfl
theorem as_one_number (v : Value) (w : World) : (Instr.typeAssert (.iface 127 v) 114 125 true).run Try.prog w = .ok (.tuple #[.agg #[.int .i64 0, .int .i64 0], .bool false]) w := by kernel_rfl
theorem as_one_one (v : Value) (w : World) : (Instr.typeAssert (.iface 127 v) 114 127 true).run Try.prog w = .ok (.tuple #[v, .bool true]) w := by kernel_rfl
set_option maxHeartbeats 1000000 in
theorem regSet_one (o r a : Int) (w : World) :
    Calls Try.prog 76 #[.iface 127 (.agg #[.int .i64 o, .int .i64 r, .int .i64 a])] w fun e w' => e = .returned (.int .i64 r) ∧ Below w.heap.size w w' := by
  have q0 := as_one_number
  have q1 := as_one_one
  go_enter Try.func76, Try.ntmps76
  go_wp2
  go_ret
  refine ⟨rfl, ?_⟩
  repeat (first | exact Below.refl _ _ | refine Below.alloc ?_ (by simp; try omega) _ | refine Below.setCell ?_ (by simp; try omega) _)

set_option maxHeartbeats 1000000 in
theorem ins_two (o r a b : Int) (w : World) :
    Calls Try.prog 107 #[.agg #[.int .i64 o, .int .i64 r, .int .i64 a, .int .i64 b]] w fun e w' => e = .returned (.agg #[.int .i64 o, .int .i64 r, .int .i64 a, .int .i64 b, .int .i64 0]) ∧ Below w.heap.size w w' := by
  go_enter Try.func107, Try.ntmps107
  go_wp2
  refine bodyPost_ret (v := .agg #[.int .i64 o, .int .i64 r, .int .i64 a, .int .i64 b, .int .i64 0]) (by simp [results, Try.results107, go_sem]) rfl ⟨rfl, ?_⟩
  repeat (first | exact Below.refl _ _ | refine Below.alloc ?_ (by simp; try omega) _ | refine Below.setCell ?_ (by simp; try omega) _)
theorem meth_two (v : Value) (w : World) : (Go.method 269 129 v "loop.example/g00249/impl.ins").run Try.prog w = .ok (107, v) w := by kernel_rfl
theorem as_two_number (v : Value) (w : World) : (Instr.typeAssert (.iface 129 v) 114 125 true).run Try.prog w = .ok (.tuple #[.agg #[.int .i64 0, .int .i64 0], .bool false]) w := by kernel_rfl
theorem as_two_one (v : Value) (w : World) : (Instr.typeAssert (.iface 129 v) 114 127 true).run Try.prog w = .ok (.tuple #[.agg #[.int .i64 0, .int .i64 0, .int .i64 0], .bool false]) w := by kernel_rfl
theorem as_two_two (v : Value) (w : World) : (Instr.typeAssert (.iface 129 v) 114 129 true).run Try.prog w = .ok (.tuple #[v, .bool true]) w := by kernel_rfl
set_option maxHeartbeats 1000000 in
theorem regSet_two (o r a b : Int) (w : World) :
    Calls Try.prog 76 #[.iface 129 (.agg #[.int .i64 o, .int .i64 r, .int .i64 a, .int .i64 b])] w fun e w' => e = .returned (.int .i64 r) ∧ Below w.heap.size w w' := by
  have q0 := as_two_number
  have q1 := as_two_one
  have q2 := as_two_two
  go_enter Try.func76, Try.ntmps76
  go_wp2
  go_ret
  refine ⟨rfl, ?_⟩
  repeat (first | exact Below.refl _ _ | refine Below.alloc ?_ (by simp; try omega) _ | refine Below.setCell ?_ (by simp; try omega) _)

set_option maxHeartbeats 1000000 in
theorem ins_point (r a b n : Int) (w : World) :
    Calls Try.prog 108 #[.agg #[.int .i64 r, .int .i64 a, .int .i64 b, .int .i64 n]] w fun e w' => e = .returned (.agg #[.int .i64 6, .int .i64 r, .int .i64 a, .int .i64 b, .int .i64 n]) ∧ Below w.heap.size w w' := by
  go_enter Try.func108, Try.ntmps108
  go_wp2
  refine bodyPost_ret (v := .agg #[.int .i64 6, .int .i64 r, .int .i64 a, .int .i64 b, .int .i64 n]) (by simp [results, Try.results108, go_sem]) rfl ⟨rfl, ?_⟩
  repeat (first | exact Below.refl _ _ | refine Below.alloc ?_ (by simp; try omega) _ | refine Below.setCell ?_ (by simp; try omega) _)
theorem meth_point (v : Value) (w : World) : (Go.method 269 131 v "loop.example/g00249/impl.ins").run Try.prog w = .ok (108, v) w := by kernel_rfl
theorem as_point_number (v : Value) (w : World) : (Instr.typeAssert (.iface 131 v) 114 125 true).run Try.prog w = .ok (.tuple #[.agg #[.int .i64 0, .int .i64 0], .bool false]) w := by kernel_rfl
theorem as_point_one (v : Value) (w : World) : (Instr.typeAssert (.iface 131 v) 114 127 true).run Try.prog w = .ok (.tuple #[.agg #[.int .i64 0, .int .i64 0, .int .i64 0], .bool false]) w := by kernel_rfl
theorem as_point_two (v : Value) (w : World) : (Instr.typeAssert (.iface 131 v) 114 129 true).run Try.prog w = .ok (.tuple #[.agg #[.int .i64 0, .int .i64 0, .int .i64 0, .int .i64 0], .bool false]) w := by kernel_rfl
theorem as_point_point (v : Value) (w : World) : (Instr.typeAssert (.iface 131 v) 114 131 true).run Try.prog w = .ok (.tuple #[v, .bool true]) w := by kernel_rfl
set_option maxHeartbeats 1000000 in
theorem regSet_point (r a b n : Int) (w : World) :
    Calls Try.prog 76 #[.iface 131 (.agg #[.int .i64 r, .int .i64 a, .int .i64 b, .int .i64 n])] w fun e w' => e = .returned (.int .i64 r) ∧ Below w.heap.size w w' := by
  have q0 := as_point_number
  have q1 := as_point_one
  have q2 := as_point_two
  have q3 := as_point_point
  go_enter Try.func76, Try.ntmps76
  go_wp2
  go_ret
  refine ⟨rfl, ?_⟩
  repeat (first | exact Below.refl _ _ | refine Below.alloc ?_ (by simp; try omega) _ | refine Below.setCell ?_ (by simp; try omega) _)

set_option maxHeartbeats 1000000 in
theorem ins_load (r a n : Int) (w : World) :
    Calls Try.prog 109 #[.agg #[.int .i64 r, .int .i64 a, .int .i64 n]] w fun e w' => e = .returned (.agg #[.int .i64 10, .int .i64 r, .int .i64 a, .int .i64 0, .int .i64 n]) ∧ Below w.heap.size w w' := by
  go_enter Try.func109, Try.ntmps109
  go_wp2
  refine bodyPost_ret (v := .agg #[.int .i64 10, .int .i64 r, .int .i64 a, .int .i64 0, .int .i64 n]) (by simp [results, Try.results109, go_sem]) rfl ⟨rfl, ?_⟩
  repeat (first | exact Below.refl _ _ | refine Below.alloc ?_ (by simp; try omega) _ | refine Below.setCell ?_ (by simp; try omega) _)
theorem meth_load (v : Value) (w : World) : (Go.method 269 133 v "loop.example/g00249/impl.ins").run Try.prog w = .ok (109, v) w := by kernel_rfl
theorem as_load_number (v : Value) (w : World) : (Instr.typeAssert (.iface 133 v) 114 125 true).run Try.prog w = .ok (.tuple #[.agg #[.int .i64 0, .int .i64 0], .bool false]) w := by kernel_rfl
theorem as_load_one (v : Value) (w : World) : (Instr.typeAssert (.iface 133 v) 114 127 true).run Try.prog w = .ok (.tuple #[.agg #[.int .i64 0, .int .i64 0, .int .i64 0], .bool false]) w := by kernel_rfl
theorem as_load_two (v : Value) (w : World) : (Instr.typeAssert (.iface 133 v) 114 129 true).run Try.prog w = .ok (.tuple #[.agg #[.int .i64 0, .int .i64 0, .int .i64 0, .int .i64 0], .bool false]) w := by kernel_rfl
theorem as_load_point (v : Value) (w : World) : (Instr.typeAssert (.iface 133 v) 114 131 true).run Try.prog w = .ok (.tuple #[.agg #[.int .i64 0, .int .i64 0, .int .i64 0, .int .i64 0], .bool false]) w := by kernel_rfl
theorem as_load_load (v : Value) (w : World) : (Instr.typeAssert (.iface 133 v) 114 133 true).run Try.prog w = .ok (.tuple #[v, .bool true]) w := by kernel_rfl
set_option maxHeartbeats 1000000 in
theorem regSet_load (r a n : Int) (w : World) :
    Calls Try.prog 76 #[.iface 133 (.agg #[.int .i64 r, .int .i64 a, .int .i64 n])] w fun e w' => e = .returned (.int .i64 r) ∧ Below w.heap.size w w' := by
  have q0 := as_load_number
  have q1 := as_load_one
  have q2 := as_load_two
  have q3 := as_load_point
  have q4 := as_load_load
  go_enter Try.func76, Try.ntmps76
  go_wp2
  go_ret
  refine ⟨rfl, ?_⟩
  repeat (first | exact Below.refl _ _ | refine Below.alloc ?_ (by simp; try omega) _ | refine Below.setCell ?_ (by simp; try omega) _)

set_option maxHeartbeats 1000000 in
theorem ins_store (a b n : Int) (w : World) :
    Calls Try.prog 110 #[.agg #[.int .i64 a, .int .i64 b, .int .i64 n]] w fun e w' => e = .returned (.agg #[.int .i64 11, .int .i64 0, .int .i64 a, .int .i64 b, .int .i64 n]) ∧ Below w.heap.size w w' := by
  go_enter Try.func110, Try.ntmps110
  go_wp2
  refine bodyPost_ret (v := .agg #[.int .i64 11, .int .i64 0, .int .i64 a, .int .i64 b, .int .i64 n]) (by simp [results, Try.results110, go_sem]) rfl ⟨rfl, ?_⟩
  repeat (first | exact Below.refl _ _ | refine Below.alloc ?_ (by simp; try omega) _ | refine Below.setCell ?_ (by simp; try omega) _)
theorem meth_store (v : Value) (w : World) : (Go.method 269 135 v "loop.example/g00249/impl.ins").run Try.prog w = .ok (110, v) w := by kernel_rfl
theorem as_store_number (v : Value) (w : World) : (Instr.typeAssert (.iface 135 v) 114 125 true).run Try.prog w = .ok (.tuple #[.agg #[.int .i64 0, .int .i64 0], .bool false]) w := by kernel_rfl
theorem as_store_one (v : Value) (w : World) : (Instr.typeAssert (.iface 135 v) 114 127 true).run Try.prog w = .ok (.tuple #[.agg #[.int .i64 0, .int .i64 0, .int .i64 0], .bool false]) w := by kernel_rfl
theorem as_store_two (v : Value) (w : World) : (Instr.typeAssert (.iface 135 v) 114 129 true).run Try.prog w = .ok (.tuple #[.agg #[.int .i64 0, .int .i64 0, .int .i64 0, .int .i64 0], .bool false]) w := by kernel_rfl
theorem as_store_point (v : Value) (w : World) : (Instr.typeAssert (.iface 135 v) 114 131 true).run Try.prog w = .ok (.tuple #[.agg #[.int .i64 0, .int .i64 0, .int .i64 0, .int .i64 0], .bool false]) w := by kernel_rfl
theorem as_store_load (v : Value) (w : World) : (Instr.typeAssert (.iface 135 v) 114 133 true).run Try.prog w = .ok (.tuple #[.agg #[.int .i64 0, .int .i64 0, .int .i64 0], .bool false]) w := by kernel_rfl
set_option maxHeartbeats 1000000 in
theorem regSet_store (a b n : Int) (w : World) :
    Calls Try.prog 76 #[.iface 135 (.agg #[.int .i64 a, .int .i64 b, .int .i64 n])] w fun e w' => e = .returned (.int .i64 (-1)) ∧ Below w.heap.size w w' := by
  have q0 := as_store_number
  have q1 := as_store_one
  have q2 := as_store_two
  have q3 := as_store_point
  have q4 := as_store_load
  go_enter Try.func76, Try.ntmps76
  go_wp2
  go_ret
  refine ⟨rfl, ?_⟩
  repeat (first | exact Below.refl _ _ | refine Below.alloc ?_ (by simp; try omega) _ | refine Below.setCell ?_ (by simp; try omega) _)

set_option maxHeartbeats 1000000 in
theorem ins_zero (a n : Int) (w : World) :
    Calls Try.prog 111 #[.agg #[.int .i64 a, .int .i64 n]] w fun e w' => e = .returned (.agg #[.int .i64 13, .int .i64 0, .int .i64 a, .int .i64 0, .int .i64 n]) ∧ Below w.heap.size w w' := by
  go_enter Try.func111, Try.ntmps111
  go_wp2
  refine bodyPost_ret (v := .agg #[.int .i64 13, .int .i64 0, .int .i64 a, .int .i64 0, .int .i64 n]) (by simp [results, Try.results111, go_sem]) rfl ⟨rfl, ?_⟩
  repeat (first | exact Below.refl _ _ | refine Below.alloc ?_ (by simp; try omega) _ | refine Below.setCell ?_ (by simp; try omega) _)
theorem meth_zero (v : Value) (w : World) : (Go.method 269 137 v "loop.example/g00249/impl.ins").run Try.prog w = .ok (111, v) w := by kernel_rfl
theorem as_zero_number (v : Value) (w : World) : (Instr.typeAssert (.iface 137 v) 114 125 true).run Try.prog w = .ok (.tuple #[.agg #[.int .i64 0, .int .i64 0], .bool false]) w := by kernel_rfl
theorem as_zero_one (v : Value) (w : World) : (Instr.typeAssert (.iface 137 v) 114 127 true).run Try.prog w = .ok (.tuple #[.agg #[.int .i64 0, .int .i64 0, .int .i64 0], .bool false]) w := by kernel_rfl
theorem as_zero_two (v : Value) (w : World) : (Instr.typeAssert (.iface 137 v) 114 129 true).run Try.prog w = .ok (.tuple #[.agg #[.int .i64 0, .int .i64 0, .int .i64 0, .int .i64 0], .bool false]) w := by kernel_rfl
theorem as_zero_point (v : Value) (w : World) : (Instr.typeAssert (.iface 137 v) 114 131 true).run Try.prog w = .ok (.tuple #[.agg #[.int .i64 0, .int .i64 0, .int .i64 0, .int .i64 0], .bool false]) w := by kernel_rfl
theorem as_zero_load (v : Value) (w : World) : (Instr.typeAssert (.iface 137 v) 114 133 true).run Try.prog w = .ok (.tuple #[.agg #[.int .i64 0, .int .i64 0, .int .i64 0], .bool false]) w := by kernel_rfl
set_option maxHeartbeats 1000000 in
theorem regSet_zero (a n : Int) (w : World) :
    Calls Try.prog 76 #[.iface 137 (.agg #[.int .i64 a, .int .i64 n])] w fun e w' => e = .returned (.int .i64 (-1)) ∧ Below w.heap.size w w' := by
  have q0 := as_zero_number
  have q1 := as_zero_one
  have q2 := as_zero_two
  have q3 := as_zero_point
  have q4 := as_zero_load
  go_enter Try.func76, Try.ntmps76
  go_wp2
  go_ret
  refine ⟨rfl, ?_⟩
  repeat (first | exact Below.refl _ _ | refine Below.alloc ?_ (by simp; try omega) _ | refine Below.setCell ?_ (by simp; try omega) _)

set_option maxHeartbeats 1000000 in
theorem ins_gone (a : Int) (w : World) :
    Calls Try.prog 112 #[.agg #[.int .i64 a]] w fun e w' => e = .returned (.agg #[.int .i64 14, .int .i64 0, .int .i64 a, .int .i64 0, .int .i64 0]) ∧ Below w.heap.size w w' := by
  go_enter Try.func112, Try.ntmps112
  go_wp2
  refine bodyPost_ret (v := .agg #[.int .i64 14, .int .i64 0, .int .i64 a, .int .i64 0, .int .i64 0]) (by simp [results, Try.results112, go_sem]) rfl ⟨rfl, ?_⟩
  repeat (first | exact Below.refl _ _ | refine Below.alloc ?_ (by simp; try omega) _ | refine Below.setCell ?_ (by simp; try omega) _)
theorem meth_gone (v : Value) (w : World) : (Go.method 269 139 v "loop.example/g00249/impl.ins").run Try.prog w = .ok (112, v) w := by kernel_rfl
theorem as_gone_number (v : Value) (w : World) : (Instr.typeAssert (.iface 139 v) 114 125 true).run Try.prog w = .ok (.tuple #[.agg #[.int .i64 0, .int .i64 0], .bool false]) w := by kernel_rfl
theorem as_gone_one (v : Value) (w : World) : (Instr.typeAssert (.iface 139 v) 114 127 true).run Try.prog w = .ok (.tuple #[.agg #[.int .i64 0, .int .i64 0, .int .i64 0], .bool false]) w := by kernel_rfl
theorem as_gone_two (v : Value) (w : World) : (Instr.typeAssert (.iface 139 v) 114 129 true).run Try.prog w = .ok (.tuple #[.agg #[.int .i64 0, .int .i64 0, .int .i64 0, .int .i64 0], .bool false]) w := by kernel_rfl
theorem as_gone_point (v : Value) (w : World) : (Instr.typeAssert (.iface 139 v) 114 131 true).run Try.prog w = .ok (.tuple #[.agg #[.int .i64 0, .int .i64 0, .int .i64 0, .int .i64 0], .bool false]) w := by kernel_rfl
theorem as_gone_load (v : Value) (w : World) : (Instr.typeAssert (.iface 139 v) 114 133 true).run Try.prog w = .ok (.tuple #[.agg #[.int .i64 0, .int .i64 0, .int .i64 0], .bool false]) w := by kernel_rfl
set_option maxHeartbeats 1000000 in
theorem regSet_gone (a : Int) (w : World) :
    Calls Try.prog 76 #[.iface 139 (.agg #[.int .i64 a])] w fun e w' => e = .returned (.int .i64 (-1)) ∧ Below w.heap.size w w' := by
  have q0 := as_gone_number
  have q1 := as_gone_one
  have q2 := as_gone_two
  have q3 := as_gone_point
  have q4 := as_gone_load
  go_enter Try.func76, Try.ntmps76
  go_wp2
  go_ret
  refine ⟨rfl, ?_⟩
  repeat (first | exact Below.refl _ _ | refine Below.alloc ?_ (by simp; try omega) _ | refine Below.setCell ?_ (by simp; try omega) _)

set_option maxHeartbeats 1000000 in
theorem ins_halt (w : World) :
    Calls Try.prog 113 #[.agg #[]] w fun e w' => e = .returned (.agg #[.int .i64 15, .int .i64 0, .int .i64 0, .int .i64 0, .int .i64 0]) ∧ Below w.heap.size w w' := by
  go_enter Try.func113, Try.ntmps113
  go_wp2
  refine bodyPost_ret (v := .agg #[.int .i64 15, .int .i64 0, .int .i64 0, .int .i64 0, .int .i64 0]) (by simp [results, Try.results113, go_sem]) rfl ⟨rfl, ?_⟩
  repeat (first | exact Below.refl _ _ | refine Below.alloc ?_ (by simp; try omega) _ | refine Below.setCell ?_ (by simp; try omega) _)
theorem meth_halt (v : Value) (w : World) : (Go.method 269 141 v "loop.example/g00249/impl.ins").run Try.prog w = .ok (113, v) w := by kernel_rfl
theorem as_halt_number (v : Value) (w : World) : (Instr.typeAssert (.iface 141 v) 114 125 true).run Try.prog w = .ok (.tuple #[.agg #[.int .i64 0, .int .i64 0], .bool false]) w := by kernel_rfl
theorem as_halt_one (v : Value) (w : World) : (Instr.typeAssert (.iface 141 v) 114 127 true).run Try.prog w = .ok (.tuple #[.agg #[.int .i64 0, .int .i64 0, .int .i64 0], .bool false]) w := by kernel_rfl
theorem as_halt_two (v : Value) (w : World) : (Instr.typeAssert (.iface 141 v) 114 129 true).run Try.prog w = .ok (.tuple #[.agg #[.int .i64 0, .int .i64 0, .int .i64 0, .int .i64 0], .bool false]) w := by kernel_rfl
theorem as_halt_point (v : Value) (w : World) : (Instr.typeAssert (.iface 141 v) 114 131 true).run Try.prog w = .ok (.tuple #[.agg #[.int .i64 0, .int .i64 0, .int .i64 0, .int .i64 0], .bool false]) w := by kernel_rfl
theorem as_halt_load (v : Value) (w : World) : (Instr.typeAssert (.iface 141 v) 114 133 true).run Try.prog w = .ok (.tuple #[.agg #[.int .i64 0, .int .i64 0, .int .i64 0], .bool false]) w := by kernel_rfl
set_option maxHeartbeats 1000000 in
theorem regSet_halt (w : World) :
    Calls Try.prog 76 #[.iface 141 (.agg #[])] w fun e w' => e = .returned (.int .i64 (-1)) ∧ Below w.heap.size w w' := by
  have q0 := as_halt_number
  have q1 := as_halt_one
  have q2 := as_halt_two
  have q3 := as_halt_point
  have q4 := as_halt_load
  go_enter Try.func76, Try.ntmps76
  go_wp2
  go_ret
  refine ⟨rfl, ?_⟩
  repeat (first | exact Below.refl _ _ | refine Below.alloc ?_ (by simp; try omega) _ | refine Below.setCell ?_ (by simp; try omega) _)

end Go.Proofs.Ytneohabkoighcaa
