/- fieldsOf of the program at each op. No condition. -/
import Derived.Test.YtdcghcbliajcpaaDoorLay7
import Derived.Test.YtdcghcbliajcpaaDoorInsP
namespace Go.Proofs.YtdcghcbliajcpaaDoor
open Go.ChangeShapes Go.WideShapes Go.ChangeAt Go.RowKit
set_option maxRecDepth 100000

theorem at_number_number (v : Value) (w : World) : (Instr.typeAssert (.iface 73 v) 56 73 true).run Tryd.prog w = .ok (.tuple #[v, .bool true]) w := by kernel_rfl
set_option maxHeartbeats 1000000 in
theorem fieldsOf_number (o r a b n : Int) (v : Value) (hp : ∀ w, Calls Tryd.prog 38 #[.agg #[.int .i64 o, .int .i64 r, .int .i64 a, .int .i64 b, .int .i64 n]] w fun e w' => e = .returned (.tuple #[.iface 73 v, .bool true]) ∧ Below w.heap.size w w') (w : World) :
    Calls Tryd.prog 32 #[.agg #[.int .i64 o, .int .i64 r, .int .i64 a, .int .i64 b, .int .i64 n]] w fun e w' => e = .returned (.string (bs [82, 78])) ∧ Below w.heap.size w w' := by
  have q0 := at_number_number
  have H := hid_mk hp
  clear hp
  have c : (ByteArray.mk #[82, 78]) = bs [82, 78] := rfl
  go_enter Tryd.func32, Tryd.ntmps32
  go_wp2_with (go_at_call 38; refine (H.out _).mono ?_; rintro e w1 ⟨rfl, hb⟩)
  go_wp2
  go_ret
  exact ⟨rfl, ((Below.refl _ _).alloc (Nat.le_refl _) _).trans (hb.mono (by simp))⟩
theorem at_one_number (v : Value) (w : World) : (Instr.typeAssert (.iface 75 v) 56 73 true).run Tryd.prog w = .ok (.tuple #[.agg #[.int .i64 0, .int .i64 0], .bool false]) w := by kernel_rfl
theorem at_one_one (v : Value) (w : World) : (Instr.typeAssert (.iface 75 v) 56 75 true).run Tryd.prog w = .ok (.tuple #[v, .bool true]) w := by kernel_rfl
set_option maxHeartbeats 1000000 in
theorem fieldsOf_one (o r a b n : Int) (v : Value) (hp : ∀ w, Calls Tryd.prog 38 #[.agg #[.int .i64 o, .int .i64 r, .int .i64 a, .int .i64 b, .int .i64 n]] w fun e w' => e = .returned (.tuple #[.iface 75 v, .bool true]) ∧ Below w.heap.size w w') (w : World) :
    Calls Tryd.prog 32 #[.agg #[.int .i64 o, .int .i64 r, .int .i64 a, .int .i64 b, .int .i64 n]] w fun e w' => e = .returned (.string (bs [82, 65])) ∧ Below w.heap.size w w' := by
  have q0 := at_one_number
  have q1 := at_one_one
  have H := hid_mk hp
  clear hp
  have c : (ByteArray.mk #[82, 65]) = bs [82, 65] := rfl
  go_enter Tryd.func32, Tryd.ntmps32
  go_wp2_with (go_at_call 38; refine (H.out _).mono ?_; rintro e w1 ⟨rfl, hb⟩)
  go_wp2
  go_ret
  exact ⟨rfl, ((Below.refl _ _).alloc (Nat.le_refl _) _).trans (hb.mono (by simp))⟩
theorem at_two_number (v : Value) (w : World) : (Instr.typeAssert (.iface 77 v) 56 73 true).run Tryd.prog w = .ok (.tuple #[.agg #[.int .i64 0, .int .i64 0], .bool false]) w := by kernel_rfl
theorem at_two_one (v : Value) (w : World) : (Instr.typeAssert (.iface 77 v) 56 75 true).run Tryd.prog w = .ok (.tuple #[.agg #[.int .i64 0, .int .i64 0, .int .i64 0], .bool false]) w := by kernel_rfl
theorem at_two_two (v : Value) (w : World) : (Instr.typeAssert (.iface 77 v) 56 77 true).run Tryd.prog w = .ok (.tuple #[v, .bool true]) w := by kernel_rfl
set_option maxHeartbeats 1000000 in
theorem fieldsOf_two (o r a b n : Int) (v : Value) (hp : ∀ w, Calls Tryd.prog 38 #[.agg #[.int .i64 o, .int .i64 r, .int .i64 a, .int .i64 b, .int .i64 n]] w fun e w' => e = .returned (.tuple #[.iface 77 v, .bool true]) ∧ Below w.heap.size w w') (w : World) :
    Calls Tryd.prog 32 #[.agg #[.int .i64 o, .int .i64 r, .int .i64 a, .int .i64 b, .int .i64 n]] w fun e w' => e = .returned (.string (bs [82, 65, 66])) ∧ Below w.heap.size w w' := by
  have q0 := at_two_number
  have q1 := at_two_one
  have q2 := at_two_two
  have H := hid_mk hp
  clear hp
  have c : (ByteArray.mk #[82, 65, 66]) = bs [82, 65, 66] := rfl
  go_enter Tryd.func32, Tryd.ntmps32
  go_wp2_with (go_at_call 38; refine (H.out _).mono ?_; rintro e w1 ⟨rfl, hb⟩)
  go_wp2
  go_ret
  exact ⟨rfl, ((Below.refl _ _).alloc (Nat.le_refl _) _).trans (hb.mono (by simp))⟩
theorem at_point_number (v : Value) (w : World) : (Instr.typeAssert (.iface 79 v) 56 73 true).run Tryd.prog w = .ok (.tuple #[.agg #[.int .i64 0, .int .i64 0], .bool false]) w := by kernel_rfl
theorem at_point_one (v : Value) (w : World) : (Instr.typeAssert (.iface 79 v) 56 75 true).run Tryd.prog w = .ok (.tuple #[.agg #[.int .i64 0, .int .i64 0, .int .i64 0], .bool false]) w := by kernel_rfl
theorem at_point_two (v : Value) (w : World) : (Instr.typeAssert (.iface 79 v) 56 77 true).run Tryd.prog w = .ok (.tuple #[.agg #[.int .i64 0, .int .i64 0, .int .i64 0, .int .i64 0], .bool false]) w := by kernel_rfl
theorem at_point_point (v : Value) (w : World) : (Instr.typeAssert (.iface 79 v) 56 79 true).run Tryd.prog w = .ok (.tuple #[v, .bool true]) w := by kernel_rfl
set_option maxHeartbeats 1000000 in
theorem fieldsOf_point (o r a b n : Int) (v : Value) (hp : ∀ w, Calls Tryd.prog 38 #[.agg #[.int .i64 o, .int .i64 r, .int .i64 a, .int .i64 b, .int .i64 n]] w fun e w' => e = .returned (.tuple #[.iface 79 v, .bool true]) ∧ Below w.heap.size w w') (w : World) :
    Calls Tryd.prog 32 #[.agg #[.int .i64 o, .int .i64 r, .int .i64 a, .int .i64 b, .int .i64 n]] w fun e w' => e = .returned (.string (bs [82, 65, 66, 78])) ∧ Below w.heap.size w w' := by
  have q0 := at_point_number
  have q1 := at_point_one
  have q2 := at_point_two
  have q3 := at_point_point
  have H := hid_mk hp
  clear hp
  have c : (ByteArray.mk #[82, 65, 66, 78]) = bs [82, 65, 66, 78] := rfl
  go_enter Tryd.func32, Tryd.ntmps32
  go_wp2_with (go_at_call 38; refine (H.out _).mono ?_; rintro e w1 ⟨rfl, hb⟩)
  go_wp2
  go_ret
  exact ⟨rfl, ((Below.refl _ _).alloc (Nat.le_refl _) _).trans (hb.mono (by simp))⟩
theorem at_load_number (v : Value) (w : World) : (Instr.typeAssert (.iface 81 v) 56 73 true).run Tryd.prog w = .ok (.tuple #[.agg #[.int .i64 0, .int .i64 0], .bool false]) w := by kernel_rfl
theorem at_load_one (v : Value) (w : World) : (Instr.typeAssert (.iface 81 v) 56 75 true).run Tryd.prog w = .ok (.tuple #[.agg #[.int .i64 0, .int .i64 0, .int .i64 0], .bool false]) w := by kernel_rfl
theorem at_load_two (v : Value) (w : World) : (Instr.typeAssert (.iface 81 v) 56 77 true).run Tryd.prog w = .ok (.tuple #[.agg #[.int .i64 0, .int .i64 0, .int .i64 0, .int .i64 0], .bool false]) w := by kernel_rfl
theorem at_load_point (v : Value) (w : World) : (Instr.typeAssert (.iface 81 v) 56 79 true).run Tryd.prog w = .ok (.tuple #[.agg #[.int .i64 0, .int .i64 0, .int .i64 0, .int .i64 0], .bool false]) w := by kernel_rfl
theorem at_load_load (v : Value) (w : World) : (Instr.typeAssert (.iface 81 v) 56 81 true).run Tryd.prog w = .ok (.tuple #[v, .bool true]) w := by kernel_rfl
set_option maxHeartbeats 1000000 in
theorem fieldsOf_load (o r a b n : Int) (v : Value) (hp : ∀ w, Calls Tryd.prog 38 #[.agg #[.int .i64 o, .int .i64 r, .int .i64 a, .int .i64 b, .int .i64 n]] w fun e w' => e = .returned (.tuple #[.iface 81 v, .bool true]) ∧ Below w.heap.size w w') (w : World) :
    Calls Tryd.prog 32 #[.agg #[.int .i64 o, .int .i64 r, .int .i64 a, .int .i64 b, .int .i64 n]] w fun e w' => e = .returned (.string (bs [82, 65, 78])) ∧ Below w.heap.size w w' := by
  have q0 := at_load_number
  have q1 := at_load_one
  have q2 := at_load_two
  have q3 := at_load_point
  have q4 := at_load_load
  have H := hid_mk hp
  clear hp
  have c : (ByteArray.mk #[82, 65, 78]) = bs [82, 65, 78] := rfl
  go_enter Tryd.func32, Tryd.ntmps32
  go_wp2_with (go_at_call 38; refine (H.out _).mono ?_; rintro e w1 ⟨rfl, hb⟩)
  go_wp2
  go_ret
  exact ⟨rfl, ((Below.refl _ _).alloc (Nat.le_refl _) _).trans (hb.mono (by simp))⟩
theorem at_store_number (v : Value) (w : World) : (Instr.typeAssert (.iface 83 v) 56 73 true).run Tryd.prog w = .ok (.tuple #[.agg #[.int .i64 0, .int .i64 0], .bool false]) w := by kernel_rfl
theorem at_store_one (v : Value) (w : World) : (Instr.typeAssert (.iface 83 v) 56 75 true).run Tryd.prog w = .ok (.tuple #[.agg #[.int .i64 0, .int .i64 0, .int .i64 0], .bool false]) w := by kernel_rfl
theorem at_store_two (v : Value) (w : World) : (Instr.typeAssert (.iface 83 v) 56 77 true).run Tryd.prog w = .ok (.tuple #[.agg #[.int .i64 0, .int .i64 0, .int .i64 0, .int .i64 0], .bool false]) w := by kernel_rfl
theorem at_store_point (v : Value) (w : World) : (Instr.typeAssert (.iface 83 v) 56 79 true).run Tryd.prog w = .ok (.tuple #[.agg #[.int .i64 0, .int .i64 0, .int .i64 0, .int .i64 0], .bool false]) w := by kernel_rfl
theorem at_store_load (v : Value) (w : World) : (Instr.typeAssert (.iface 83 v) 56 81 true).run Tryd.prog w = .ok (.tuple #[.agg #[.int .i64 0, .int .i64 0, .int .i64 0], .bool false]) w := by kernel_rfl
theorem at_store_store (v : Value) (w : World) : (Instr.typeAssert (.iface 83 v) 56 83 true).run Tryd.prog w = .ok (.tuple #[v, .bool true]) w := by kernel_rfl
set_option maxHeartbeats 1000000 in
theorem fieldsOf_store (o r a b n : Int) (v : Value) (hp : ∀ w, Calls Tryd.prog 38 #[.agg #[.int .i64 o, .int .i64 r, .int .i64 a, .int .i64 b, .int .i64 n]] w fun e w' => e = .returned (.tuple #[.iface 83 v, .bool true]) ∧ Below w.heap.size w w') (w : World) :
    Calls Tryd.prog 32 #[.agg #[.int .i64 o, .int .i64 r, .int .i64 a, .int .i64 b, .int .i64 n]] w fun e w' => e = .returned (.string (bs [65, 66, 78])) ∧ Below w.heap.size w w' := by
  have q0 := at_store_number
  have q1 := at_store_one
  have q2 := at_store_two
  have q3 := at_store_point
  have q4 := at_store_load
  have q5 := at_store_store
  have H := hid_mk hp
  clear hp
  have c : (ByteArray.mk #[65, 66, 78]) = bs [65, 66, 78] := rfl
  go_enter Tryd.func32, Tryd.ntmps32
  go_wp2_with (go_at_call 38; refine (H.out _).mono ?_; rintro e w1 ⟨rfl, hb⟩)
  go_wp2
  go_ret
  exact ⟨rfl, ((Below.refl _ _).alloc (Nat.le_refl _) _).trans (hb.mono (by simp))⟩
theorem at_zero_number (v : Value) (w : World) : (Instr.typeAssert (.iface 85 v) 56 73 true).run Tryd.prog w = .ok (.tuple #[.agg #[.int .i64 0, .int .i64 0], .bool false]) w := by kernel_rfl
theorem at_zero_one (v : Value) (w : World) : (Instr.typeAssert (.iface 85 v) 56 75 true).run Tryd.prog w = .ok (.tuple #[.agg #[.int .i64 0, .int .i64 0, .int .i64 0], .bool false]) w := by kernel_rfl
theorem at_zero_two (v : Value) (w : World) : (Instr.typeAssert (.iface 85 v) 56 77 true).run Tryd.prog w = .ok (.tuple #[.agg #[.int .i64 0, .int .i64 0, .int .i64 0, .int .i64 0], .bool false]) w := by kernel_rfl
theorem at_zero_point (v : Value) (w : World) : (Instr.typeAssert (.iface 85 v) 56 79 true).run Tryd.prog w = .ok (.tuple #[.agg #[.int .i64 0, .int .i64 0, .int .i64 0, .int .i64 0], .bool false]) w := by kernel_rfl
theorem at_zero_load (v : Value) (w : World) : (Instr.typeAssert (.iface 85 v) 56 81 true).run Tryd.prog w = .ok (.tuple #[.agg #[.int .i64 0, .int .i64 0, .int .i64 0], .bool false]) w := by kernel_rfl
theorem at_zero_store (v : Value) (w : World) : (Instr.typeAssert (.iface 85 v) 56 83 true).run Tryd.prog w = .ok (.tuple #[.agg #[.int .i64 0, .int .i64 0, .int .i64 0], .bool false]) w := by kernel_rfl
theorem at_zero_zero (v : Value) (w : World) : (Instr.typeAssert (.iface 85 v) 56 85 true).run Tryd.prog w = .ok (.tuple #[v, .bool true]) w := by kernel_rfl
set_option maxHeartbeats 1000000 in
theorem fieldsOf_zero (o r a b n : Int) (v : Value) (hp : ∀ w, Calls Tryd.prog 38 #[.agg #[.int .i64 o, .int .i64 r, .int .i64 a, .int .i64 b, .int .i64 n]] w fun e w' => e = .returned (.tuple #[.iface 85 v, .bool true]) ∧ Below w.heap.size w w') (w : World) :
    Calls Tryd.prog 32 #[.agg #[.int .i64 o, .int .i64 r, .int .i64 a, .int .i64 b, .int .i64 n]] w fun e w' => e = .returned (.string (bs [65, 78])) ∧ Below w.heap.size w w' := by
  have q0 := at_zero_number
  have q1 := at_zero_one
  have q2 := at_zero_two
  have q3 := at_zero_point
  have q4 := at_zero_load
  have q5 := at_zero_store
  have q6 := at_zero_zero
  have H := hid_mk hp
  clear hp
  have c : (ByteArray.mk #[65, 78]) = bs [65, 78] := rfl
  go_enter Tryd.func32, Tryd.ntmps32
  go_wp2_with (go_at_call 38; refine (H.out _).mono ?_; rintro e w1 ⟨rfl, hb⟩)
  go_wp2
  go_ret
  exact ⟨rfl, ((Below.refl _ _).alloc (Nat.le_refl _) _).trans (hb.mono (by simp))⟩
theorem at_gone_number (v : Value) (w : World) : (Instr.typeAssert (.iface 87 v) 56 73 true).run Tryd.prog w = .ok (.tuple #[.agg #[.int .i64 0, .int .i64 0], .bool false]) w := by kernel_rfl
theorem at_gone_one (v : Value) (w : World) : (Instr.typeAssert (.iface 87 v) 56 75 true).run Tryd.prog w = .ok (.tuple #[.agg #[.int .i64 0, .int .i64 0, .int .i64 0], .bool false]) w := by kernel_rfl
theorem at_gone_two (v : Value) (w : World) : (Instr.typeAssert (.iface 87 v) 56 77 true).run Tryd.prog w = .ok (.tuple #[.agg #[.int .i64 0, .int .i64 0, .int .i64 0, .int .i64 0], .bool false]) w := by kernel_rfl
theorem at_gone_point (v : Value) (w : World) : (Instr.typeAssert (.iface 87 v) 56 79 true).run Tryd.prog w = .ok (.tuple #[.agg #[.int .i64 0, .int .i64 0, .int .i64 0, .int .i64 0], .bool false]) w := by kernel_rfl
theorem at_gone_load (v : Value) (w : World) : (Instr.typeAssert (.iface 87 v) 56 81 true).run Tryd.prog w = .ok (.tuple #[.agg #[.int .i64 0, .int .i64 0, .int .i64 0], .bool false]) w := by kernel_rfl
theorem at_gone_store (v : Value) (w : World) : (Instr.typeAssert (.iface 87 v) 56 83 true).run Tryd.prog w = .ok (.tuple #[.agg #[.int .i64 0, .int .i64 0, .int .i64 0], .bool false]) w := by kernel_rfl
theorem at_gone_zero (v : Value) (w : World) : (Instr.typeAssert (.iface 87 v) 56 85 true).run Tryd.prog w = .ok (.tuple #[.agg #[.int .i64 0, .int .i64 0], .bool false]) w := by kernel_rfl
theorem at_gone_gone (v : Value) (w : World) : (Instr.typeAssert (.iface 87 v) 56 87 true).run Tryd.prog w = .ok (.tuple #[v, .bool true]) w := by kernel_rfl
set_option maxHeartbeats 1000000 in
theorem fieldsOf_gone (o r a b n : Int) (v : Value) (hp : ∀ w, Calls Tryd.prog 38 #[.agg #[.int .i64 o, .int .i64 r, .int .i64 a, .int .i64 b, .int .i64 n]] w fun e w' => e = .returned (.tuple #[.iface 87 v, .bool true]) ∧ Below w.heap.size w w') (w : World) :
    Calls Tryd.prog 32 #[.agg #[.int .i64 o, .int .i64 r, .int .i64 a, .int .i64 b, .int .i64 n]] w fun e w' => e = .returned (.string (bs [65])) ∧ Below w.heap.size w w' := by
  have q0 := at_gone_number
  have q1 := at_gone_one
  have q2 := at_gone_two
  have q3 := at_gone_point
  have q4 := at_gone_load
  have q5 := at_gone_store
  have q6 := at_gone_zero
  have q7 := at_gone_gone
  have H := hid_mk hp
  clear hp
  have c : (ByteArray.mk #[65]) = bs [65] := rfl
  go_enter Tryd.func32, Tryd.ntmps32
  go_wp2_with (go_at_call 38; refine (H.out _).mono ?_; rintro e w1 ⟨rfl, hb⟩)
  go_wp2
  go_ret
  exact ⟨rfl, ((Below.refl _ _).alloc (Nat.le_refl _) _).trans (hb.mono (by simp))⟩
theorem at_halt_number (v : Value) (w : World) : (Instr.typeAssert (.iface 91 v) 56 73 true).run Tryd.prog w = .ok (.tuple #[.agg #[.int .i64 0, .int .i64 0], .bool false]) w := by kernel_rfl
theorem at_halt_one (v : Value) (w : World) : (Instr.typeAssert (.iface 91 v) 56 75 true).run Tryd.prog w = .ok (.tuple #[.agg #[.int .i64 0, .int .i64 0, .int .i64 0], .bool false]) w := by kernel_rfl
theorem at_halt_two (v : Value) (w : World) : (Instr.typeAssert (.iface 91 v) 56 77 true).run Tryd.prog w = .ok (.tuple #[.agg #[.int .i64 0, .int .i64 0, .int .i64 0, .int .i64 0], .bool false]) w := by kernel_rfl
theorem at_halt_point (v : Value) (w : World) : (Instr.typeAssert (.iface 91 v) 56 79 true).run Tryd.prog w = .ok (.tuple #[.agg #[.int .i64 0, .int .i64 0, .int .i64 0, .int .i64 0], .bool false]) w := by kernel_rfl
theorem at_halt_load (v : Value) (w : World) : (Instr.typeAssert (.iface 91 v) 56 81 true).run Tryd.prog w = .ok (.tuple #[.agg #[.int .i64 0, .int .i64 0, .int .i64 0], .bool false]) w := by kernel_rfl
theorem at_halt_store (v : Value) (w : World) : (Instr.typeAssert (.iface 91 v) 56 83 true).run Tryd.prog w = .ok (.tuple #[.agg #[.int .i64 0, .int .i64 0, .int .i64 0], .bool false]) w := by kernel_rfl
theorem at_halt_zero (v : Value) (w : World) : (Instr.typeAssert (.iface 91 v) 56 85 true).run Tryd.prog w = .ok (.tuple #[.agg #[.int .i64 0, .int .i64 0], .bool false]) w := by kernel_rfl
theorem at_halt_gone (v : Value) (w : World) : (Instr.typeAssert (.iface 91 v) 56 87 true).run Tryd.prog w = .ok (.tuple #[.agg #[.int .i64 0], .bool false]) w := by kernel_rfl
set_option maxHeartbeats 1000000 in
theorem fieldsOf_halt (o r a b n : Int) (v : Value) (hp : ∀ w, Calls Tryd.prog 38 #[.agg #[.int .i64 o, .int .i64 r, .int .i64 a, .int .i64 b, .int .i64 n]] w fun e w' => e = .returned (.tuple #[.iface 91 v, .bool true]) ∧ Below w.heap.size w w') (w : World) :
    Calls Tryd.prog 32 #[.agg #[.int .i64 o, .int .i64 r, .int .i64 a, .int .i64 b, .int .i64 n]] w fun e w' => e = .returned (.string (bs [])) ∧ Below w.heap.size w w' := by
  have q0 := at_halt_number
  have q1 := at_halt_one
  have q2 := at_halt_two
  have q3 := at_halt_point
  have q4 := at_halt_load
  have q5 := at_halt_store
  have q6 := at_halt_zero
  have q7 := at_halt_gone
  have H := hid_mk hp
  clear hp
  have c : (ByteArray.mk #[]) = bs [] := rfl
  go_enter Tryd.func32, Tryd.ntmps32
  go_wp2_with (go_at_call 38; refine (H.out _).mono ?_; rintro e w1 ⟨rfl, hb⟩)
  go_wp2
  go_ret
  exact ⟨rfl, ((Below.refl _ _).alloc (Nat.le_refl _) _).trans (hb.mono (by simp))⟩

theorem fieldsOf_any (o r a b n : Int) (h : 1 ≤ o ∧ o ≤ 15) (w : World) :
    Calls Tryd.prog 32 #[.agg #[.int .i64 o, .int .i64 r, .int .i64 a, .int .i64 b, .int .i64 n]] w fun e w' => e = .returned (.string (bs (flL o))) ∧ Below w.heap.size w w' := by
  rcases op_cases h with rfl | rfl | rfl | rfl | rfl | rfl | rfl | rfl | rfl | rfl | rfl | rfl | rfl | rfl | rfl
  · exact fieldsOf_number 1 r a b n _ (fun w => placeOf_any 1 r a b n w) w
  · exact fieldsOf_two 2 r a b n _ (fun w => placeOf_any 2 r a b n w) w
  · exact fieldsOf_one 3 r a b n _ (fun w => placeOf_any 3 r a b n w) w
  · exact fieldsOf_two 4 r a b n _ (fun w => placeOf_any 4 r a b n w) w
  · exact fieldsOf_two 5 r a b n _ (fun w => placeOf_any 5 r a b n w) w
  · exact fieldsOf_point 6 r a b n _ (fun w => placeOf_any 6 r a b n w) w
  · exact fieldsOf_two 7 r a b n _ (fun w => placeOf_any 7 r a b n w) w
  · exact fieldsOf_two 8 r a b n _ (fun w => placeOf_any 8 r a b n w) w
  · exact fieldsOf_one 9 r a b n _ (fun w => placeOf_any 9 r a b n w) w
  · exact fieldsOf_load 10 r a b n _ (fun w => placeOf_any 10 r a b n w) w
  · exact fieldsOf_store 11 r a b n _ (fun w => placeOf_any 11 r a b n w) w
  · exact fieldsOf_one 12 r a b n _ (fun w => placeOf_any 12 r a b n w) w
  · exact fieldsOf_zero 13 r a b n _ (fun w => placeOf_any 13 r a b n w) w
  · exact fieldsOf_gone 14 r a b n _ (fun w => placeOf_any 14 r a b n w) w
  · exact fieldsOf_halt 15 r a b n _ (fun w => placeOf_any 15 r a b n w) w
end Go.Proofs.YtdcghcbliajcpaaDoor
