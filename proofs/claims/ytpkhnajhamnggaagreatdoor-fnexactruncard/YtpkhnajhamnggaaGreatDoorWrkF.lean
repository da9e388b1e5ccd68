/- stepOf of the program at the ops 1 to 15: the step's function. No condition beside. -/
import Derived.Test.YtpkhnajhamnggaaGreatDoorZL
import Derived.Test.YtpkhnajhamnggaaGreatDoorZH
namespace Go.Proofs.YtpkhnajhamnggaaGreatDoor
open Go.ChangeShapes Go.WideShapes Go.ChangeAt Go.RowKit
set_option maxRecDepth 100000

/-- The step of an op. -/
def stpF (o : Int) : Value :=
  if o = 1 then .func (.func 152) #[] #[] else if o = 2 then .func (.func 153) #[] #[] else if o = 3 then .func (.func 154) #[] #[] else if o = 4 then .func (.func 155) #[] #[] else if o = 5 then .func (.func 156) #[] #[] else if o = 6 then .func (.func 157) #[] #[] else if o = 7 then .func (.func 158) #[] #[] else if o = 8 then .func (.func 159) #[] #[] else if o = 9 then .func (.func 160) #[] #[] else if o = 10 then .func (.func 161) #[] #[] else if o = 11 then .func (.func 162) #[] #[] else if o = 12 then .func (.func 163) #[] #[] else if o = 13 then .func (.func 164) #[] #[] else if o = 14 then .func (.func 165) #[] #[] else .func (.func 166) #[] #[]

/-- The table of steps. -/
def stpL : List Value := [.nilFunc, .func (.func 152) #[] #[], .func (.func 153) #[] #[], .func (.func 154) #[] #[], .func (.func 155) #[] #[], .func (.func 156) #[] #[], .func (.func 157) #[] #[], .func (.func 158) #[] #[], .func (.func 159) #[] #[], .func (.func 160) #[] #[], .func (.func 161) #[] #[], .func (.func 162) #[] #[], .func (.func 163) #[] #[], .func (.func 164) #[] #[], .func (.func 165) #[] #[], .func (.func 166) #[] #[]]
theorem stpL_one : (stpL.toArray.all (·.oneCell')) = true := all_oneCell_toArray fun v hv => by
  simp only [stpL, List.mem_cons, List.not_mem_nil, or_false] at hv
  rcases hv with rfl | rfl | rfl | rfl | rfl | rfl | rfl | rfl | rfl | rfl | rfl | rfl | rfl | rfl | rfl | rfl <;> rfl
theorem sizeStp : (Tryz.prog.info? 180).map (·.size) = some 16 := by kernel_rfl


set_option maxHeartbeats 4000000 in
theorem stepOf_any (o : Int) (ho : 1 ≤ o ∧ o ≤ 15) (w : World) :
    Calls Tryz.prog 133 #[.int .i64 o] w fun e w' => e = .returned (stpF o) ∧ Below w.heap.size w w' := by
  obtain ⟨F, HF⟩ : ∃ F, Hid (F = stpF o) := ⟨_, rfl⟩
  rw [← HF.out]
  have C0 := hid_mk (Cel.new w [.nilFunc, .nilFunc, .nilFunc, .nilFunc, .nilFunc, .nilFunc, .nilFunc, .nilFunc, .nilFunc, .nilFunc, .nilFunc, .nilFunc, .nilFunc, .nilFunc, .nilFunc, .nilFunc] 180)
  have C1 := hid_mk (C0.out.sets (us := stpL) rfl)
  have B1 := hid_mk (below_sets stpL ((Below.refl w.heap.size w).alloc (Nat.le_refl _) (.cells ([.nilFunc, .nilFunc, .nilFunc, .nilFunc, .nilFunc, .nilFunc, .nilFunc, .nilFunc, .nilFunc, .nilFunc, .nilFunc, .nilFunc, .nilFunc, .nilFunc, .nilFunc, .nilFunc] : List Value).toArray 180)) (r := w.heap.size) (Nat.le_refl _))
  go_enter Tryz.func133, Tryz.ntmps133
  go_upto_region 2 with (refine wpList_store_mid (by rfl) 180 _ _ (by rfl) w.heap.size 0 stpL.toArray (by rfl) (by rfl) C0.out.there sizeStp stpL_one ?_)
  clear C0
  generalize hw2 : (w.alloc (.cells ([.nilFunc, .nilFunc, .nilFunc, .nilFunc, .nilFunc, .nilFunc, .nilFunc, .nilFunc, .nilFunc, .nilFunc, .nilFunc, .nilFunc, .nilFunc, .nilFunc, .nilFunc, .nilFunc] : List Value).toArray 180)).setCells w.heap.size 0 _ = w2 at C1 B1 ⊢
  clear hw2
  rcases op_cases ho with rfl | rfl | rfl | rfl | rfl | rfl | rfl | rfl | rfl | rfl | rfl | rfl | rfl | rfl | rfl

  · have hf : F = .func (.func 152) #[] #[] := HF.out
    subst hf
    have c := C1.out.c 1 _ rfl
    go_wp2
    go_ret
    exact ⟨rfl, B1.out⟩
  · have hf : F = .func (.func 153) #[] #[] := HF.out
    subst hf
    have c := C1.out.c 2 _ rfl
    go_wp2
    go_ret
    exact ⟨rfl, B1.out⟩
  · have hf : F = .func (.func 154) #[] #[] := HF.out
    subst hf
    have c := C1.out.c 3 _ rfl
    go_wp2
    go_ret
    exact ⟨rfl, B1.out⟩
  · have hf : F = .func (.func 155) #[] #[] := HF.out
    subst hf
    have c := C1.out.c 4 _ rfl
    go_wp2
    go_ret
    exact ⟨rfl, B1.out⟩
  · have hf : F = .func (.func 156) #[] #[] := HF.out
    subst hf
    have c := C1.out.c 5 _ rfl
    go_wp2
    go_ret
    exact ⟨rfl, B1.out⟩
  · have hf : F = .func (.func 157) #[] #[] := HF.out
    subst hf
    have c := C1.out.c 6 _ rfl
    go_wp2
    go_ret
    exact ⟨rfl, B1.out⟩
  · have hf : F = .func (.func 158) #[] #[] := HF.out
    subst hf
    have c := C1.out.c 7 _ rfl
    go_wp2
    go_ret
    exact ⟨rfl, B1.out⟩
  · have hf : F = .func (.func 159) #[] #[] := HF.out
    subst hf
    have c := C1.out.c 8 _ rfl
    go_wp2
    go_ret
    exact ⟨rfl, B1.out⟩
  · have hf : F = .func (.func 160) #[] #[] := HF.out
    subst hf
    have c := C1.out.c 9 _ rfl
    go_wp2
    go_ret
    exact ⟨rfl, B1.out⟩
  · have hf : F = .func (.func 161) #[] #[] := HF.out
    subst hf
    have c := C1.out.c 10 _ rfl
    go_wp2
    go_ret
    exact ⟨rfl, B1.out⟩
  · have hf : F = .func (.func 162) #[] #[] := HF.out
    subst hf
    have c := C1.out.c 11 _ rfl
    go_wp2
    go_ret
    exact ⟨rfl, B1.out⟩
  · have hf : F = .func (.func 163) #[] #[] := HF.out
    subst hf
    have c := C1.out.c 12 _ rfl
    go_wp2
    go_ret
    exact ⟨rfl, B1.out⟩
  · have hf : F = .func (.func 164) #[] #[] := HF.out
    subst hf
    have c := C1.out.c 13 _ rfl
    go_wp2
    go_ret
    exact ⟨rfl, B1.out⟩
  · have hf : F = .func (.func 165) #[] #[] := HF.out
    subst hf
    have c := C1.out.c 14 _ rfl
    go_wp2
    go_ret
    exact ⟨rfl, B1.out⟩
  · have hf : F = .func (.func 166) #[] #[] := HF.out
    subst hf
    have c := C1.out.c 15 _ rfl
    go_wp2
    go_ret
    exact ⟨rfl, B1.out⟩
end Go.Proofs.YtpkhnajhamnggaaGreatDoor
