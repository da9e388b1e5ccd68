/- The method ins of each kind of place; registerSet. No condition. -/
import Derived.Test.YtdcghcbliajcpaaDoorInsP
namespace Go.Proofs.YtdcghcbliajcpaaDoor
open Go.ChangeShapes Go.WideShapes Go.ChangeAt Go.RowKit

set_option maxHeartbeats 1000000 in
theorem ins_number (r n : Int) (w : World) :
    Calls Tryd.prog 112 #[.agg #[.int .i64 r, .int .i64 n]] w fun e w' => e = .returned (.agg #[.int .i64 1, .int .i64 r, .int .i64 0, .int .i64 0, .int .i64 n]) ∧ Below w.heap.size w w' := by
  go_enter Tryd.func112, Tryd.ntmps112
  go_wp2
  refine bodyPost_ret (v := .agg #[.int .i64 1, .int .i64 r, .int .i64 0, .int .i64 0, .int .i64 n]) (by simp [results, Tryd.results112, go_sem]) rfl ⟨rfl, ?_⟩
  repeat (first | exact Below.refl _ _ | refine Below.alloc ?_ (by simp; try omega) _ | refine Below.setCell ?_ (by simp; try omega) _)
theorem meth_number (v : Value) (w : World) : (Go.method 256 73 v "loop.example/g00249/impl.ins").run Tryd.prog w = .ok (112, v) w := by kernel_rfl
theorem as_number_number (v : Value) (w : World) : (Instr.typeAssert (.iface 73 v) 56 73 true).run Tryd.prog w = .ok (.tuple #[v, .bool true]) w := by kernel_rfl
set_option maxHeartbeats 1000000 in
theorem ins_one (o r a : Int) (w : World) :
    Calls Tryd.prog 113 #[.agg #[.int .i64 o, .int .i64 r, .int .i64 a]] w fun e w' => e = .returned (.agg #[.int .i64 o, .int .i64 r, .int .i64 a, .int .i64 0, .int .i64 0]) ∧ Below w.heap.size w w' := by
  go_enter Tryd.func113, Tryd.ntmps113
  go_wp2
  refine bodyPost_ret (v := .agg #[.int .i64 o, .int .i64 r, .int .i64 a, .int .i64 0, .int .i64 0]) (by simp [results, Tryd.results113, go_sem]) rfl ⟨rfl, ?_⟩
  repeat (first | exact Below.refl _ _ | refine Below.alloc ?_ (by simp; try omega) _ | refine Below.setCell ?_ (by simp; try omega) _)
theorem meth_one (v : Value) (w : World) : (Go.method 256 75 v "loop.example/g00249/impl.ins").run Tryd.prog w = .ok (113, v) w := by kernel_rfl
theorem as_one_number (v : Value) (w : World) : (Instr.typeAssert (.iface 75 v) 56 73 true).run Tryd.prog w = .ok (.tuple #[.agg #[.int .i64 0, .int .i64 0], .bool false]) w := by kernel_rfl
theorem as_one_one (v : Value) (w : World) : (Instr.typeAssert (.iface 75 v) 56 75 true).run Tryd.prog w = .ok (.tuple #[v, .bool true]) w := by kernel_rfl
set_option maxHeartbeats 1000000 in
theorem ins_two (o r a b : Int) (w : World) :
    Calls Tryd.prog 114 #[.agg #[.int .i64 o, .int .i64 r, .int .i64 a, .int .i64 b]] w fun e w' => e = .returned (.agg #[.int .i64 o, .int .i64 r, .int .i64 a, .int .i64 b, .int .i64 0]) ∧ Below w.heap.size w w' := by
  go_enter Tryd.func114, Tryd.ntmps114
  go_wp2
  refine bodyPost_ret (v := .agg #[.int .i64 o, .int .i64 r, .int .i64 a, .int .i64 b, .int .i64 0]) (by simp [results, Tryd.results114, go_sem]) rfl ⟨rfl, ?_⟩
  repeat (first | exact Below.refl _ _ | refine Below.alloc ?_ (by simp; try omega) _ | refine Below.setCell ?_ (by simp; try omega) _)
theorem meth_two (v : Value) (w : World) : (Go.method 256 77 v "loop.example/g00249/impl.ins").run Tryd.prog w = .ok (114, v) w := by kernel_rfl
theorem as_two_number (v : Value) (w : World) : (Instr.typeAssert (.iface 77 v) 56 73 true).run Tryd.prog w = .ok (.tuple #[.agg #[.int .i64 0, .int .i64 0], .bool false]) w := by kernel_rfl
theorem as_two_one (v : Value) (w : World) : (Instr.typeAssert (.iface 77 v) 56 75 true).run Tryd.prog w = .ok (.tuple #[.agg #[.int .i64 0, .int .i64 0, .int .i64 0], .bool false]) w := by kernel_rfl
theorem as_two_two (v : Value) (w : World) : (Instr.typeAssert (.iface 77 v) 56 77 true).run Tryd.prog w = .ok (.tuple #[v, .bool true]) w := by kernel_rfl
set_option maxHeartbeats 1000000 in
theorem ins_point (r a b n : Int) (w : World) :
    Calls Tryd.prog 115 #[.agg #[.int .i64 r, .int .i64 a, .int .i64 b, .int .i64 n]] w fun e w' => e = .returned (.agg #[.int .i64 6, .int .i64 r, .int .i64 a, .int .i64 b, .int .i64 n]) ∧ Below w.heap.size w w' := by
  go_enter Tryd.func115, Tryd.ntmps115
  go_wp2
  refine bodyPost_ret (v := .agg #[.int .i64 6, .int .i64 r, .int .i64 a, .int .i64 b, .int .i64 n]) (by simp [results, Tryd.results115, go_sem]) rfl ⟨rfl, ?_⟩
  repeat (first | exact Below.refl _ _ | refine Below.alloc ?_ (by simp; try omega) _ | refine Below.setCell ?_ (by simp; try omega) _)
theorem meth_point (v : Value) (w : World) : (Go.method 256 79 v "loop.example/g00249/impl.ins").run Tryd.prog w = .ok (115, v) w := by kernel_rfl
theorem as_point_number (v : Value) (w : World) : (Instr.typeAssert (.iface 79 v) 56 73 true).run Tryd.prog w = .ok (.tuple #[.agg #[.int .i64 0, .int .i64 0], .bool false]) w := by kernel_rfl
theorem as_point_one (v : Value) (w : World) : (Instr.typeAssert (.iface 79 v) 56 75 true).run Tryd.prog w = .ok (.tuple #[.agg #[.int .i64 0, .int .i64 0, .int .i64 0], .bool false]) w := by kernel_rfl
theorem as_point_two (v : Value) (w : World) : (Instr.typeAssert (.iface 79 v) 56 77 true).run Tryd.prog w = .ok (.tuple #[.agg #[.int .i64 0, .int .i64 0, .int .i64 0, .int .i64 0], .bool false]) w := by kernel_rfl
theorem as_point_point (v : Value) (w : World) : (Instr.typeAssert (.iface 79 v) 56 79 true).run Tryd.prog w = .ok (.tuple #[v, .bool true]) w := by kernel_rfl
set_option maxHeartbeats 1000000 in
theorem ins_load (r a n : Int) (w : World) :
    Calls Tryd.prog 116 #[.agg #[.int .i64 r, .int .i64 a, .int .i64 n]] w fun e w' => e = .returned (.agg #[.int .i64 10, .int .i64 r, .int .i64 a, .int .i64 0, .int .i64 n]) ∧ Below w.heap.size w w' := by
  go_enter Tryd.func116, Tryd.ntmps116
  go_wp2
  refine bodyPost_ret (v := .agg #[.int .i64 10, .int .i64 r, .int .i64 a, .int .i64 0, .int .i64 n]) (by simp [results, Tryd.results116, go_sem]) rfl ⟨rfl, ?_⟩
  repeat (first | exact Below.refl _ _ | refine Below.alloc ?_ (by simp; try omega) _ | refine Below.setCell ?_ (by simp; try omega) _)
theorem meth_load (v : Value) (w : World) : (Go.method 256 81 v "loop.example/g00249/impl.ins").run Tryd.prog w = .ok (116, v) w := by kernel_rfl
theorem as_load_number (v : Value) (w : World) : (Instr.typeAssert (.iface 81 v) 56 73 true).run Tryd.prog w = .ok (.tuple #[.agg #[.int .i64 0, .int .i64 0], .bool false]) w := by kernel_rfl
theorem as_load_one (v : Value) (w : World) : (Instr.typeAssert (.iface 81 v) 56 75 true).run Tryd.prog w = .ok (.tuple #[.agg #[.int .i64 0, .int .i64 0, .int .i64 0], .bool false]) w := by kernel_rfl
theorem as_load_two (v : Value) (w : World) : (Instr.typeAssert (.iface 81 v) 56 77 true).run Tryd.prog w = .ok (.tuple #[.agg #[.int .i64 0, .int .i64 0, .int .i64 0, .int .i64 0], .bool false]) w := by kernel_rfl
theorem as_load_point (v : Value) (w : World) : (Instr.typeAssert (.iface 81 v) 56 79 true).run Tryd.prog w = .ok (.tuple #[.agg #[.int .i64 0, .int .i64 0, .int .i64 0, .int .i64 0], .bool false]) w := by kernel_rfl
theorem as_load_load (v : Value) (w : World) : (Instr.typeAssert (.iface 81 v) 56 81 true).run Tryd.prog w = .ok (.tuple #[v, .bool true]) w := by kernel_rfl
set_option maxHeartbeats 1000000 in
theorem ins_store (a b n : Int) (w : World) :
    Calls Tryd.prog 117 #[.agg #[.int .i64 a, .int .i64 b, .int .i64 n]] w fun e w' => e = .returned (.agg #[.int .i64 11, .int .i64 0, .int .i64 a, .int .i64 b, .int .i64 n]) ∧ Below w.heap.size w w' := by
  go_enter Tryd.func117, Tryd.ntmps117
  go_wp2
  refine bodyPost_ret (v := .agg #[.int .i64 11, .int .i64 0, .int .i64 a, .int .i64 b, .int .i64 n]) (by simp [results, Tryd.results117, go_sem]) rfl ⟨rfl, ?_⟩
  repeat (first | exact Below.refl _ _ | refine Below.alloc ?_ (by simp; try omega) _ | refine Below.setCell ?_ (by simp; try omega) _)
theorem meth_store (v : Value) (w : World) : (Go.method 256 83 v "loop.example/g00249/impl.ins").run Tryd.prog w = .ok (117, v) w := by kernel_rfl
theorem as_store_number (v : Value) (w : World) : (Instr.typeAssert (.iface 83 v) 56 73 true).run Tryd.prog w = .ok (.tuple #[.agg #[.int .i64 0, .int .i64 0], .bool false]) w := by kernel_rfl
theorem as_store_one (v : Value) (w : World) : (Instr.typeAssert (.iface 83 v) 56 75 true).run Tryd.prog w = .ok (.tuple #[.agg #[.int .i64 0, .int .i64 0, .int .i64 0], .bool false]) w := by kernel_rfl
theorem as_store_two (v : Value) (w : World) : (Instr.typeAssert (.iface 83 v) 56 77 true).run Tryd.prog w = .ok (.tuple #[.agg #[.int .i64 0, .int .i64 0, .int .i64 0, .int .i64 0], .bool false]) w := by kernel_rfl
theorem as_store_point (v : Value) (w : World) : (Instr.typeAssert (.iface 83 v) 56 79 true).run Tryd.prog w = .ok (.tuple #[.agg #[.int .i64 0, .int .i64 0, .int .i64 0, .int .i64 0], .bool false]) w := by kernel_rfl
theorem as_store_load (v : Value) (w : World) : (Instr.typeAssert (.iface 83 v) 56 81 true).run Tryd.prog w = .ok (.tuple #[.agg #[.int .i64 0, .int .i64 0, .int .i64 0], .bool false]) w := by kernel_rfl
set_option maxHeartbeats 1000000 in
theorem ins_zero (a n : Int) (w : World) :
    Calls Tryd.prog 118 #[.agg #[.int .i64 a, .int .i64 n]] w fun e w' => e = .returned (.agg #[.int .i64 13, .int .i64 0, .int .i64 a, .int .i64 0, .int .i64 n]) ∧ Below w.heap.size w w' := by
  go_enter Tryd.func118, Tryd.ntmps118
  go_wp2
  refine bodyPost_ret (v := .agg #[.int .i64 13, .int .i64 0, .int .i64 a, .int .i64 0, .int .i64 n]) (by simp [results, Tryd.results118, go_sem]) rfl ⟨rfl, ?_⟩
  repeat (first | exact Below.refl _ _ | refine Below.alloc ?_ (by simp; try omega) _ | refine Below.setCell ?_ (by simp; try omega) _)
theorem meth_zero (v : Value) (w : World) : (Go.method 256 85 v "loop.example/g00249/impl.ins").run Tryd.prog w = .ok (118, v) w := by kernel_rfl
theorem as_zero_number (v : Value) (w : World) : (Instr.typeAssert (.iface 85 v) 56 73 true).run Tryd.prog w = .ok (.tuple #[.agg #[.int .i64 0, .int .i64 0], .bool false]) w := by kernel_rfl
theorem as_zero_one (v : Value) (w : World) : (Instr.typeAssert (.iface 85 v) 56 75 true).run Tryd.prog w = .ok (.tuple #[.agg #[.int .i64 0, .int .i64 0, .int .i64 0], .bool false]) w := by kernel_rfl
theorem as_zero_two (v : Value) (w : World) : (Instr.typeAssert (.iface 85 v) 56 77 true).run Tryd.prog w = .ok (.tuple #[.agg #[.int .i64 0, .int .i64 0, .int .i64 0, .int .i64 0], .bool false]) w := by kernel_rfl
theorem as_zero_point (v : Value) (w : World) : (Instr.typeAssert (.iface 85 v) 56 79 true).run Tryd.prog w = .ok (.tuple #[.agg #[.int .i64 0, .int .i64 0, .int .i64 0, .int .i64 0], .bool false]) w := by kernel_rfl
theorem as_zero_load (v : Value) (w : World) : (Instr.typeAssert (.iface 85 v) 56 81 true).run Tryd.prog w = .ok (.tuple #[.agg #[.int .i64 0, .int .i64 0, .int .i64 0], .bool false]) w := by kernel_rfl
set_option maxHeartbeats 1000000 in
theorem ins_gone (a : Int) (w : World) :
    Calls Tryd.prog 119 #[.agg #[.int .i64 a]] w fun e w' => e = .returned (.agg #[.int .i64 14, .int .i64 0, .int .i64 a, .int .i64 0, .int .i64 0]) ∧ Below w.heap.size w w' := by
  go_enter Tryd.func119, Tryd.ntmps119
  go_wp2
  refine bodyPost_ret (v := .agg #[.int .i64 14, .int .i64 0, .int .i64 a, .int .i64 0, .int .i64 0]) (by simp [results, Tryd.results119, go_sem]) rfl ⟨rfl, ?_⟩
  repeat (first | exact Below.refl _ _ | refine Below.alloc ?_ (by simp; try omega) _ | refine Below.setCell ?_ (by simp; try omega) _)
theorem meth_gone (v : Value) (w : World) : (Go.method 256 87 v "loop.example/g00249/impl.ins").run Tryd.prog w = .ok (119, v) w := by kernel_rfl
theorem as_gone_number (v : Value) (w : World) : (Instr.typeAssert (.iface 87 v) 56 73 true).run Tryd.prog w = .ok (.tuple #[.agg #[.int .i64 0, .int .i64 0], .bool false]) w := by kernel_rfl
theorem as_gone_one (v : Value) (w : World) : (Instr.typeAssert (.iface 87 v) 56 75 true).run Tryd.prog w = .ok (.tuple #[.agg #[.int .i64 0, .int .i64 0, .int .i64 0], .bool false]) w := by kernel_rfl
theorem as_gone_two (v : Value) (w : World) : (Instr.typeAssert (.iface 87 v) 56 77 true).run Tryd.prog w = .ok (.tuple #[.agg #[.int .i64 0, .int .i64 0, .int .i64 0, .int .i64 0], .bool false]) w := by kernel_rfl
theorem as_gone_point (v : Value) (w : World) : (Instr.typeAssert (.iface 87 v) 56 79 true).run Tryd.prog w = .ok (.tuple #[.agg #[.int .i64 0, .int .i64 0, .int .i64 0, .int .i64 0], .bool false]) w := by kernel_rfl
theorem as_gone_load (v : Value) (w : World) : (Instr.typeAssert (.iface 87 v) 56 81 true).run Tryd.prog w = .ok (.tuple #[.agg #[.int .i64 0, .int .i64 0, .int .i64 0], .bool false]) w := by kernel_rfl
set_option maxHeartbeats 1000000 in
theorem ins_halt (w : World) :
    Calls Tryd.prog 120 #[.agg #[]] w fun e w' => e = .returned (.agg #[.int .i64 15, .int .i64 0, .int .i64 0, .int .i64 0, .int .i64 0]) ∧ Below w.heap.size w w' := by
  go_enter Tryd.func120, Tryd.ntmps120
  go_wp2
  refine bodyPost_ret (v := .agg #[.int .i64 15, .int .i64 0, .int .i64 0, .int .i64 0, .int .i64 0]) (by simp [results, Tryd.results120, go_sem]) rfl ⟨rfl, ?_⟩
  repeat (first | exact Below.refl _ _ | refine Below.alloc ?_ (by simp; try omega) _ | refine Below.setCell ?_ (by simp; try omega) _)
theorem meth_halt (v : Value) (w : World) : (Go.method 256 91 v "loop.example/g00249/impl.ins").run Tryd.prog w = .ok (120, v) w := by kernel_rfl
theorem as_halt_number (v : Value) (w : World) : (Instr.typeAssert (.iface 91 v) 56 73 true).run Tryd.prog w = .ok (.tuple #[.agg #[.int .i64 0, .int .i64 0], .bool false]) w := by kernel_rfl
theorem as_halt_one (v : Value) (w : World) : (Instr.typeAssert (.iface 91 v) 56 75 true).run Tryd.prog w = .ok (.tuple #[.agg #[.int .i64 0, .int .i64 0, .int .i64 0], .bool false]) w := by kernel_rfl
theorem as_halt_two (v : Value) (w : World) : (Instr.typeAssert (.iface 91 v) 56 77 true).run Tryd.prog w = .ok (.tuple #[.agg #[.int .i64 0, .int .i64 0, .int .i64 0, .int .i64 0], .bool false]) w := by kernel_rfl
theorem as_halt_point (v : Value) (w : World) : (Instr.typeAssert (.iface 91 v) 56 79 true).run Tryd.prog w = .ok (.tuple #[.agg #[.int .i64 0, .int .i64 0, .int .i64 0, .int .i64 0], .bool false]) w := by kernel_rfl
theorem as_halt_load (v : Value) (w : World) : (Instr.typeAssert (.iface 91 v) 56 81 true).run Tryd.prog w = .ok (.tuple #[.agg #[.int .i64 0, .int .i64 0, .int .i64 0], .bool false]) w := by kernel_rfl
end Go.Proofs.YtdcghcbliajcpaaDoor
