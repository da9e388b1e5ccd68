/- stepOf of the program at the ops 1 to 15: the step's function. No condition beside. -/
import Derived.Test.YtfeoaegkhbjaeaaGreatDoorZL
import Derived.Test.YtfeoaegkhbjaeaaGreatDoorZH
namespace Go.Proofs.YtfeoaegkhbjaeaaGreatDoor
open Go.ChangeShapes Go.WideShapes Go.ChangeAt Go.RowKit
set_option maxRecDepth 100000

/-- The step of an op. -/
def stpF (o : Int) : Value :=
  if o = 1 then .func (.func 116) #[] #[] else if o = 2 then .func (.func 117) #[] #[] else if o = 3 then .func (.func 118) #[] #[] else if o = 4 then .func (.func 119) #[] #[] else if o = 5 then .func (.func 120) #[] #[] else if o = 6 then .func (.func 121) #[] #[] else if o = 7 then .func (.func 122) #[] #[] else if o = 8 then .func (.func 123) #[] #[] else if o = 9 then .func (.func 124) #[] #[] else if o = 10 then .func (.func 125) #[] #[] else if o = 11 then .func (.func 126) #[] #[] else if o = 12 then .func (.func 127) #[] #[] else if o = 13 then .func (.func 128) #[] #[] else if o = 14 then .func (.func 129) #[] #[] else .func (.func 130) #[] #[]

/-- The table of steps. -/
def stpL : List Value := [.nilFunc, .func (.func 116) #[] #[], .func (.func 117) #[] #[], .func (.func 118) #[] #[], .func (.func 119) #[] #[], .func (.func 120) #[] #[], .func (.func 121) #[] #[], .func (.func 122) #[] #[], .func (.func 123) #[] #[], .func (.func 124) #[] #[], .func (.func 125) #[] #[], .func (.func 126) #[] #[], .func (.func 127) #[] #[], .func (.func 128) #[] #[], .func (.func 129) #[] #[], .func (.func 130) #[] #[]]
theorem stpL_one : (stpL.toArray.all (·.oneCell')) = true := all_oneCell_toArray fun v hv => by
  simp only [stpL, List.mem_cons, List.not_mem_nil, or_false] at hv
  rcases hv with rfl | rfl | rfl | rfl | rfl | rfl | rfl | rfl | rfl | rfl | rfl | rfl | rfl | rfl | rfl | rfl <;> rfl
theorem sizeStp : (Tryz.prog.info? 138).map (·.size) = some 16 := by kernel_rfl


set_option maxHeartbeats 4000000 in
theorem stepOf_any (o : Int) (ho : 1 ≤ o ∧ o ≤ 15) (w : World) :
    Calls Tryz.prog 101 #[.int .i64 o] w fun e w' => e = .returned (stpF o) ∧ Below w.heap.size w w' := by
  obtain ⟨F, HF⟩ : ∃ F, Hid (F = stpF o) := ⟨_, rfl⟩
  rw [← HF.out]
  have C0 := hid_mk (Cel.new w [.nilFunc, .nilFunc, .nilFunc, .nilFunc, .nilFunc, .nilFunc, .nilFunc, .nilFunc, .nilFunc, .nilFunc, .nilFunc, .nilFunc, .nilFunc, .nilFunc, .nilFunc, .nilFunc] 138)
  have C1 := hid_mk (C0.out.sets (us := stpL) rfl)
  have B1 := hid_mk (below_sets stpL ((Below.refl w.heap.size w).alloc (Nat.le_refl _) (.cells ([.nilFunc, .nilFunc, .nilFunc, .nilFunc, .nilFunc, .nilFunc, .nilFunc, .nilFunc, .nilFunc, .nilFunc, .nilFunc, .nilFunc, .nilFunc, .nilFunc, .nilFunc, .nilFunc] : List Value).toArray 138)) (r := w.heap.size) (Nat.le_refl _))
  go_enter Tryz.func101, Tryz.ntmps101
  go_upto_region 2 with (refine wpList_store_mid (by rfl) 138 _ _ (by rfl) w.heap.size 0 stpL.toArray (by rfl) (by rfl) C0.out.there sizeStp stpL_one ?_)
  clear C0
  generalize hw2 : (w.alloc (.cells ([.nilFunc, .nilFunc, .nilFunc, .nilFunc, .nilFunc, .nilFunc, .nilFunc, .nilFunc, .nilFunc, .nilFunc, .nilFunc, .nilFunc, .nilFunc, .nilFunc, .nilFunc, .nilFunc] : List Value).toArray 138)).setCells w.heap.size 0 _ = w2 at C1 B1 ⊢
  clear hw2
  rcases op_cases ho with rfl | rfl | rfl | rfl | rfl | rfl | rfl | rfl | rfl | rfl | rfl | rfl | rfl | rfl | rfl

  · have hf : F = .func (.func 116) #[] #[] := HF.out
    subst hf
    have c := C1.out.c 1 _ rfl
    go_wp2
    go_ret
    exact ⟨rfl, B1.out⟩
  · have hf : F = .func (.func 117) #[] #[] := HF.out
    subst hf
    have c := C1.out.c 2 _ rfl
    go_wp2
    go_ret
    exact ⟨rfl, B1.out⟩
  · have hf : F = .func (.func 118) #[] #[] := HF.out
    subst hf
    have c := C1.out.c 3 _ rfl
    go_wp2
    go_ret
    exact ⟨rfl, B1.out⟩
  · have hf : F = .func (.func 119) #[] #[] := HF.out
    subst hf
    have c := C1.out.c 4 _ rfl
    go_wp2
    go_ret
    exact ⟨rfl, B1.out⟩
  · have hf : F = .func (.func 120) #[] #[] := HF.out
    subst hf
    have c := C1.out.c 5 _ rfl
    go_wp2
    go_ret
    exact ⟨rfl, B1.out⟩
  · have hf : F = .func (.func 121) #[] #[] := HF.out
    subst hf
    have c := C1.out.c 6 _ rfl
    go_wp2
    go_ret
    exact ⟨rfl, B1.out⟩
  · have hf : F = .func (.func 122) #[] #[] := HF.out
    subst hf
    have c := C1.out.c 7 _ rfl
    go_wp2
    go_ret
    exact ⟨rfl, B1.out⟩
  · have hf : F = .func (.func 123) #[] #[] := HF.out
    subst hf
    have c := C1.out.c 8 _ rfl
    go_wp2
    go_ret
    exact ⟨rfl, B1.out⟩
  · have hf : F = .func (.func 124) #[] #[] := HF.out
    subst hf
    have c := C1.out.c 9 _ rfl
    go_wp2
    go_ret
    exact ⟨rfl, B1.out⟩
  · have hf : F = .func (.func 125) #[] #[] := HF.out
    subst hf
    have c := C1.out.c 10 _ rfl
    go_wp2
    go_ret
    exact ⟨rfl, B1.out⟩
  · have hf : F = .func (.func 126) #[] #[] := HF.out
    subst hf
    have c := C1.out.c 11 _ rfl
    go_wp2
    go_ret
    exact ⟨rfl, B1.out⟩
  · have hf : F = .func (.func 127) #[] #[] := HF.out
    subst hf
    have c := C1.out.c 12 _ rfl
    go_wp2
    go_ret
    exact ⟨rfl, B1.out⟩
  · have hf : F = .func (.func 128) #[] #[] := HF.out
    subst hf
    have c := C1.out.c 13 _ rfl
    go_wp2
    go_ret
    exact ⟨rfl, B1.out⟩
  · have hf : F = .func (.func 129) #[] #[] := HF.out
    subst hf
    have c := C1.out.c 14 _ rfl
    go_wp2
    go_ret
    exact ⟨rfl, B1.out⟩
  · have hf : F = .func (.func 130) #[] #[] := HF.out
    subst hf
    have c := C1.out.c 15 _ rfl
    go_wp2
    go_ret
    exact ⟨rfl, B1.out⟩
end Go.Proofs.YtfeoaegkhbjaeaaGreatDoor
