/- For every list of ints and Word Guess of the program answers as the specification's Guess, field by field, leaves the list as it was, and the law returns true; lists of more than 2^20 elements the law passes by. -/
import Derived.Test.YtcokcfgagbahbaaRows
import Derived.Test.YtcokcfgagbahbaaGesJ
import Derived.Test.YtcokcfgagbahbaaIntI
import Derived.Test.YtcokcfgagbahbaaIntH
import Derived.Test.YtcokcfgagbahbaaHoldX
import Derived.Test.YtcokcfgagbahbaaTakeOn
import Derived.WalkKit
import Derived.ProofKit
import Derived.OpenShut
import Derived.Lib.SmallJoins
import Derived.ChangeOld
import Derived.Below
import Derived.Deep.Slices
import Derived.Deep.Strs
namespace Go.Proofs.Ytcokcfgagbahbaa.fnExactGuess
open Go.ChangeShapes Go.WideShapes Go.ChangeAt Go.RowKit Go.Joins Go.Deep

theorem own : ownKnob Try.prog.godebug = none := by kernel_rfl
theorem laidOut : laidOutB Try.prog = true := by kernel_rfl

set_option maxRecDepth 100000 in
set_option maxHeartbeats 20000000 in
theorem walk (ia0 : Option Addr) (im0 ic0 : Nat) (IL0 : List Int) (x0 : Int) (x1 : Bool) (x2 x3 x4 x5 : Int) (w : World)  (hS0 : SliceN w.heap.size w ia0 im0 IL0 ∧ ∀ x ∈ IL0, (Lit.int .i64 x).wf = true) (hS1 : (Lit.int .i64 x0).wf = true) :
    Calls Try.prog 6 #[.slice ia0 im0 ic0, .agg #[.int .i64 x0, .bool x1, .int .i64 x2, .int .i64 x3, .int .i64 x4, .int .i64 x5]] w fun e w' => e = .returned (.bool true) ∧ Below w.heap.size w w' := by
  obtain ⟨hS, hW⟩ := hS0
  have hml := hS.1
  have hIL := hid_mk hS.2.1
  unfold maxLen at hml
  have HW := hid_mk hW
  clear hW
  by_cases hl : im0 ≤ 1048576
  · have s1 := fun a c w hS => specGuess_any a im0 c IL0 x0 x1 x2 x3 x4 x5 w hl hS
    have s2 := fun a c w hS => implGuess_any a im0 c IL0 ⟨x0, x1, x2, x3, x4, x5⟩ w hl hS HW.out hS1
    dsimp only at s2
    obtain ⟨u0, u1, u2, u3, u4, u5, hV⟩ : ∃ (u0 : Int) (u1 : Bool) (u2 u3 u4 u5 : Int), madeV (gueN IL0 x0 % 65536) (openB x0 x1 x2 x3 x4 x5) x2 x3 x4 x5 = .agg #[.int .i64 u0, .bool u1, .int .i64 u2, .int .i64 u3, .int .i64 u4, .int .i64 u5] := ⟨_, _, _, _, _, _, rfl⟩
    rw [hV] at s1 s2
    have S1 := hid_mk s1
    have S2 := hid_mk s2
    have H := hid_mk ((((Hold.new w).push (sinF w.heap.size ia0 im0 IL0) ⟨hS, Nat.le_refl _⟩).alloc (.cells #[.int .i64 x0, .bool x1, .int .i64 x2, .int .i64 x3, .int .i64 x4, .int .i64 x5] 45)).push (celF w.heap.size [.int .i64 x0, .bool x1, .int .i64 x2, .int .i64 x3, .int .i64 x4, .int .i64 x5]) (Cel.new w _ _))
    clear s1 s2 hS hV hS1
    generalize hw1 : w.alloc (.cells #[.int .i64 x0, .bool x1, .int .i64 x2, .int .i64 x3, .int .i64 x4, .int .i64 x5] 45) = w1 at H
    go_enter Try.func6, Try.ntmps6
    go_upto_region 3 with fail
    clear hw1
    go_cut [5] (fun pa wx => ∃ r6, pa = .pointer (some ⟨r6, 0, none⟩) ∧ Hid (Hold w wx [celF r6 [.int .i64 u0, .bool u1, .int .i64 u2, .int .i64 u3, .int .i64 u4, .int .i64 u5], celF w.heap.size [.int .i64 x0, .bool x1, .int .i64 x2, .int .i64 x3, .int .i64 x4, .int .i64 x5], sinF w.heap.size ia0 im0 IL0]))
    case first =>
      have D0 := hid_mk H.out.drew
      refine wp_region_held_drew (S := fun w' => Hold w w' [celF w.heap.size [.int .i64 x0, .bool x1, .int .i64 x2, .int .i64 x3, .int .i64 x4, .int .i64 x5], sinF w.heap.size ia0 im0 IL0]) (by kernel_rfl) D0.out (fun hHeld => ?_)
      generalize w1.drew = wd at D0 hHeld ⊢
      clear H
      refine take_on (i := 0) (d := 11) (v := .slice ia0 im0 ic0) rfl rfl (by kernel_rfl) (by kernel_rfl) (by kernel_rfl) (fun _ _ _ h => h) (by rfl) ?_ hHeld ?_
      · (intro w' hSw; go_simp)
      (try simp only [Act.put]); (try simp only [List.setIfInBounds_toArray]); (try simp only [List.set_cons_succ]); (try simp only [List.set_cons_zero]); (try simp only [List.set_cons_succ]); (try simp only [List.set_cons_zero]); (try simp only [Nat.zero_add])
      refine take_on (i := 2) (d := 13) (v := .agg #[.int .i64 x0, .bool x1, .int .i64 x2, .int .i64 x3, .int .i64 x4, .int .i64 x5]) rfl rfl (by kernel_rfl) (by kernel_rfl) (by kernel_rfl) (fun _ _ _ h => h) (by rfl) ?_ hHeld ?_
      · (intro w' hSw; have hSx : Hold w w' [celF w.heap.size [.int .i64 x0, .bool x1, .int .i64 x2, .int .i64 x3, .int .i64 x4, .int .i64 x5], sinF w.heap.size ia0 im0 IL0] := hSw; obtain ⟨c0, c1, c2, c3, c4, c5⟩ := (hSx.cel (.head _)).c6; go_simp)
      (try simp only [Act.put]); (try simp only [List.setIfInBounds_toArray]); (try simp only [List.set_cons_succ]); (try simp only [List.set_cons_zero]); (try simp only [List.set_cons_succ]); (try simp only [List.set_cons_zero]); (try simp only [Nat.zero_add])
      have zw0 : w.heap.size ≤ wd.heap.size := D0.out.bel.size
      have DD : Hid (∀ f ∈ [celF w.heap.size [.int .i64 x0, .bool x1, .int .i64 x2, .int .i64 x3, .int .i64 x4, .int .i64 x5], sinF w.heap.size ia0 im0 IL0], ∀ r : Nat, wd.heap.size ≤ r → ¬ f.S r) := fun f hf r hr hs => by
        have hlt := (D0.out.cel (r := w.heap.size) (.head _)).lt
        simp only [List.mem_cons, List.not_mem_nil, or_false] at hf
        rcases hf with rfl | rfl
        · simp only [celF] at hs; omega
        · simp only [sinF] at hs; omega
      refine wpAnyH_ready (rs := [1, 5]) (by kernel_rfl) (by simp) ?_
      refine AllReadyH.cons rfl (fun K1 hK => ?_) (AllReadyH.cons rfl (fun K1 hK => ?_) AllReadyH.nil)
      · go_simp
        refine (toIntS_own _ _ _ IL0 _ hl (D0.out.sin (.tail _ (.head _)))).mono ?_
        rintro e v1 ⟨q1, rfl, _, hQ, hb⟩
        have J1 := hid_mk ((D0.out.next hb).push (intF q1 im0 IL0) ⟨hQ, hIL.out⟩)
        have zs1 := hb.size
        clear hb hQ
        refine hK.out _ _ J1.out.tail (fun hHeld => ?_)
        clear hK K1
        (try simp only [Act.put]); (try simp only [List.setIfInBounds_toArray]); (try simp only [List.set_cons_succ]); (try simp only [List.set_cons_zero]); (try simp only [List.set_cons_succ]); (try simp only [List.set_cons_zero]); (try simp only [Nat.zero_add])
        refine wpAnyH_ready (rs := [3, 5]) (by kernel_rfl) (by simp) ?_
        refine AllReadyH.cons rfl (fun K1 hK => ?_) (AllReadyH.cons rfl (fun K1 hK => ?_) AllReadyH.nil)
        · go_simp
          refine (toWord_any x0 x1 x2 x3 x4 x5 _).mono ?_
          rintro e v2 ⟨rfl, hb⟩
          have J2 := hid_mk (J1.out.next hb)
          have zs2 := hb.size
          clear hb
          refine hK.out _ _ J2.out.tail (fun hHeld => ?_)
          clear hK K1
          (try simp only [Act.put]); (try simp only [List.setIfInBounds_toArray]); (try simp only [List.set_cons_succ]); (try simp only [List.set_cons_zero]); (try simp only [List.set_cons_succ]); (try simp only [List.set_cons_zero]); (try simp only [Nat.zero_add])
          refine wpAnyH_ready (rs := [4, 5]) (by kernel_rfl) (by simp) ?_
          refine AllReadyH.cons rfl (fun K1 hK => ?_) (AllReadyH.cons rfl (fun K1 hK => ?_) AllReadyH.nil)
          · go_simp
            refine (S1.out _ _ _ (J2.out.isl (.head _) hl)).mono ?_
            rintro e v3 ⟨rfl, hb⟩
            have J3 := hid_mk (J2.out.next hb)
            have zs3 := hb.size
            clear hb
            refine hK.out _ _ J3.out.tail (fun hHeld => ?_)
            clear hK K1
            (try simp only [Act.put]); (try simp only [List.setIfInBounds_toArray]); (try simp only [List.set_cons_succ]); (try simp only [List.set_cons_zero]); (try simp only [List.set_cons_succ]); (try simp only [List.set_cons_zero]); (try simp only [Nat.zero_add])
            refine wpAnyH_ready (rs := [5]) (by kernel_rfl) (by simp) ?_
            refine AllReadyH.cons rfl (fun K1 hK => ?_) AllReadyH.nil
            go_simp
            have J4 := hid_mk (J3.out.boxG ([.int .i64 0, .bool false, .int .i64 0, .int .i64 0, .int .i64 0, .int .i64 0] : List Value) 28 v3.heap.size rfl)
            refine hK.out _ _ J4.out.tail.tail (fun hHeld => ?_)
            clear hK K1
            (try simp only [Act.put]); (try simp only [List.setIfInBounds_toArray]); (try simp only [List.set_cons_succ]); (try simp only [List.set_cons_zero]); (try simp only [List.set_cons_succ]); (try simp only [List.set_cons_zero]); (try simp only [Nat.zero_add])
            obtain ⟨r6, hr6⟩ : ∃ r, r = v3.heap.size := ⟨_, rfl⟩
            have zy : wd.heap.size ≤ r6 := by omega
            rw [← hr6] at J4 ⊢
            clear hr6
            generalize v3.alloc (.cells (([.int .i64 0, .bool false, .int .i64 0, .int .i64 0, .int .i64 0, .int .i64 0] : List Value) : List Value).toArray 28) = v4 at J4 hHeld ⊢
            have JQ := hid_mk (J4.out.sub (gs := [celF r6 ([.int .i64 0, .bool false, .int .i64 0, .int .i64 0, .int .i64 0, .int .i64 0] : List Value), celF w.heap.size [.int .i64 x0, .bool x1, .int .i64 x2, .int .i64 x3, .int .i64 x4, .int .i64 x5], sinF w.heap.size ia0 im0 IL0]) (fun f hf => by simp only [List.mem_cons, List.not_mem_nil, or_false] at hf ⊢; rcases hf with rfl | rfl | rfl; exact .inl rfl; exact .inr (.inr (.inl rfl)); exact .inr (.inr (.inr (rfl)))))
            refine wpAnyH_ready (rs := [6]) (by kernel_rfl) (by simp) ?_
            refine AllReadyH.cons rfl (fun K1 hK => ?_) AllReadyH.nil
            obtain ⟨d0, d1, d2, d3, d4, d5⟩ := (JQ.out.cel (.head _)).c6
            obtain ⟨f0, f1, f2, f3, f4, f5⟩ := (JQ.out.cel (.head _)).f6
            go_simp
            have JZ := hid_mk (JQ.out.set6 (by omega) (fun f hf => DD.out f hf _ zy) (.int .i64 u0) (.bool u1) (.int .i64 u2) (.int .i64 u3) (.int .i64 u4) (.int .i64 u5))
            clear d0 d1 d2 d3 d4 d5 f0 f1 f2 f3 f4 f5
            refine hK.out _ _ JZ.out.tail (fun hHeld => ?_)
            clear hK K1
            (try simp only [Act.put]); (try simp only [List.setIfInBounds_toArray]); (try simp only [List.set_cons_succ]); (try simp only [List.set_cons_zero]); (try simp only [List.set_cons_succ]); (try simp only [List.set_cons_zero]); (try simp only [Nat.zero_add])
            refine wpAnyH_done (by kernel_rfl) ?_ _
            clear hHeld
            try dsimp only
            go_wp2_with fail
            go_meet
            case rel => exact ⟨_, rfl, JZ.out⟩
          · go_simp
            have J3 := hid_mk (J2.out.boxG ([.int .i64 0, .bool false, .int .i64 0, .int .i64 0, .int .i64 0, .int .i64 0] : List Value) 28 v2.heap.size rfl)
            refine hK.out _ _ J3.out.tail.tail (fun hHeld => ?_)
            clear hK K1
            (try simp only [Act.put]); (try simp only [List.setIfInBounds_toArray]); (try simp only [List.set_cons_succ]); (try simp only [List.set_cons_zero]); (try simp only [List.set_cons_succ]); (try simp only [List.set_cons_zero]); (try simp only [Nat.zero_add])
            obtain ⟨r6, hr6⟩ : ∃ r, r = v2.heap.size := ⟨_, rfl⟩
            have zy : wd.heap.size ≤ r6 := by omega
            rw [← hr6] at J3 ⊢
            clear hr6
            generalize v2.alloc (.cells (([.int .i64 0, .bool false, .int .i64 0, .int .i64 0, .int .i64 0, .int .i64 0] : List Value) : List Value).toArray 28) = v3 at J3 hHeld ⊢
            refine wpAnyH_ready (rs := [4]) (by kernel_rfl) (by simp) ?_
            refine AllReadyH.cons rfl (fun K1 hK => ?_) AllReadyH.nil
            go_simp
            refine (S1.out _ _ _ (J3.out.isl (.tail _ (.head _)) hl)).mono ?_
            rintro e v4 ⟨rfl, hb⟩
            have J4 := hid_mk (J3.out.next hb)
            have zs4 := hb.size
            clear hb
            refine hK.out _ _ J4.out.tail.tail (fun hHeld => ?_)
            clear hK K1
            (try simp only [Act.put]); (try simp only [List.setIfInBounds_toArray]); (try simp only [List.set_cons_succ]); (try simp only [List.set_cons_zero]); (try simp only [List.set_cons_succ]); (try simp only [List.set_cons_zero]); (try simp only [Nat.zero_add])
            have JQ := hid_mk (J4.out.sub (gs := [celF r6 ([.int .i64 0, .bool false, .int .i64 0, .int .i64 0, .int .i64 0, .int .i64 0] : List Value), celF w.heap.size [.int .i64 x0, .bool x1, .int .i64 x2, .int .i64 x3, .int .i64 x4, .int .i64 x5], sinF w.heap.size ia0 im0 IL0]) (fun f hf => by simp only [List.mem_cons, List.not_mem_nil, or_false] at hf ⊢; rcases hf with rfl | rfl | rfl; exact .inl rfl; exact .inr (.inr (.inl rfl)); exact .inr (.inr (.inr (rfl)))))
            refine wpAnyH_ready (rs := [6]) (by kernel_rfl) (by simp) ?_
            refine AllReadyH.cons rfl (fun K1 hK => ?_) AllReadyH.nil
            obtain ⟨d0, d1, d2, d3, d4, d5⟩ := (JQ.out.cel (.head _)).c6
            obtain ⟨f0, f1, f2, f3, f4, f5⟩ := (JQ.out.cel (.head _)).f6
            go_simp
            have JZ := hid_mk (JQ.out.set6 (by omega) (fun f hf => DD.out f hf _ zy) (.int .i64 u0) (.bool u1) (.int .i64 u2) (.int .i64 u3) (.int .i64 u4) (.int .i64 u5))
            clear d0 d1 d2 d3 d4 d5 f0 f1 f2 f3 f4 f5
            refine hK.out _ _ JZ.out.tail (fun hHeld => ?_)
            clear hK K1
            (try simp only [Act.put]); (try simp only [List.setIfInBounds_toArray]); (try simp only [List.set_cons_succ]); (try simp only [List.set_cons_zero]); (try simp only [List.set_cons_succ]); (try simp only [List.set_cons_zero]); (try simp only [Nat.zero_add])
            refine wpAnyH_done (by kernel_rfl) ?_ _
            clear hHeld
            try dsimp only
            go_wp2_with fail
            go_meet
            case rel => exact ⟨_, rfl, JZ.out⟩
        · go_simp
          have J2 := hid_mk (J1.out.boxG ([.int .i64 0, .bool false, .int .i64 0, .int .i64 0, .int .i64 0, .int .i64 0] : List Value) 28 v1.heap.size rfl)
          refine hK.out _ _ J2.out.tail.tail (fun hHeld => ?_)
          clear hK K1
          (try simp only [Act.put]); (try simp only [List.setIfInBounds_toArray]); (try simp only [List.set_cons_succ]); (try simp only [List.set_cons_zero]); (try simp only [List.set_cons_succ]); (try simp only [List.set_cons_zero]); (try simp only [Nat.zero_add])
          obtain ⟨r6, hr6⟩ : ∃ r, r = v1.heap.size := ⟨_, rfl⟩
          have zy : wd.heap.size ≤ r6 := by omega
          rw [← hr6] at J2 ⊢
          clear hr6
          generalize v1.alloc (.cells (([.int .i64 0, .bool false, .int .i64 0, .int .i64 0, .int .i64 0, .int .i64 0] : List Value) : List Value).toArray 28) = v2 at J2 hHeld ⊢
          refine wpAnyH_ready (rs := [3]) (by kernel_rfl) (by simp) ?_
          refine AllReadyH.cons rfl (fun K1 hK => ?_) AllReadyH.nil
          go_simp
          refine (toWord_any x0 x1 x2 x3 x4 x5 _).mono ?_
          rintro e v3 ⟨rfl, hb⟩
          have J3 := hid_mk (J2.out.next hb)
          have zs3 := hb.size
          clear hb
          refine hK.out _ _ J3.out.tail.tail (fun hHeld => ?_)
          clear hK K1
          (try simp only [Act.put]); (try simp only [List.setIfInBounds_toArray]); (try simp only [List.set_cons_succ]); (try simp only [List.set_cons_zero]); (try simp only [List.set_cons_succ]); (try simp only [List.set_cons_zero]); (try simp only [Nat.zero_add])
          refine wpAnyH_ready (rs := [4]) (by kernel_rfl) (by simp) ?_
          refine AllReadyH.cons rfl (fun K1 hK => ?_) AllReadyH.nil
          go_simp
          refine (S1.out _ _ _ (J3.out.isl (.tail _ (.head _)) hl)).mono ?_
          rintro e v4 ⟨rfl, hb⟩
          have J4 := hid_mk (J3.out.next hb)
          have zs4 := hb.size
          clear hb
          refine hK.out _ _ J4.out.tail.tail (fun hHeld => ?_)
          clear hK K1
          (try simp only [Act.put]); (try simp only [List.setIfInBounds_toArray]); (try simp only [List.set_cons_succ]); (try simp only [List.set_cons_zero]); (try simp only [List.set_cons_succ]); (try simp only [List.set_cons_zero]); (try simp only [Nat.zero_add])
          have JQ := hid_mk (J4.out.sub (gs := [celF r6 ([.int .i64 0, .bool false, .int .i64 0, .int .i64 0, .int .i64 0, .int .i64 0] : List Value), celF w.heap.size [.int .i64 x0, .bool x1, .int .i64 x2, .int .i64 x3, .int .i64 x4, .int .i64 x5], sinF w.heap.size ia0 im0 IL0]) (fun f hf => by simp only [List.mem_cons, List.not_mem_nil, or_false] at hf ⊢; rcases hf with rfl | rfl | rfl; exact .inl rfl; exact .inr (.inr (.inl rfl)); exact .inr (.inr (.inr (rfl)))))
          refine wpAnyH_ready (rs := [6]) (by kernel_rfl) (by simp) ?_
          refine AllReadyH.cons rfl (fun K1 hK => ?_) AllReadyH.nil
          obtain ⟨d0, d1, d2, d3, d4, d5⟩ := (JQ.out.cel (.head _)).c6
          obtain ⟨f0, f1, f2, f3, f4, f5⟩ := (JQ.out.cel (.head _)).f6
          go_simp
          have JZ := hid_mk (JQ.out.set6 (by omega) (fun f hf => DD.out f hf _ zy) (.int .i64 u0) (.bool u1) (.int .i64 u2) (.int .i64 u3) (.int .i64 u4) (.int .i64 u5))
          clear d0 d1 d2 d3 d4 d5 f0 f1 f2 f3 f4 f5
          refine hK.out _ _ JZ.out.tail (fun hHeld => ?_)
          clear hK K1
          (try simp only [Act.put]); (try simp only [List.setIfInBounds_toArray]); (try simp only [List.set_cons_succ]); (try simp only [List.set_cons_zero]); (try simp only [List.set_cons_succ]); (try simp only [List.set_cons_zero]); (try simp only [Nat.zero_add])
          refine wpAnyH_done (by kernel_rfl) ?_ _
          clear hHeld
          try dsimp only
          go_wp2_with fail
          go_meet
          case rel => exact ⟨_, rfl, JZ.out⟩
      · go_simp
        have J1 := hid_mk (D0.out.boxG ([.int .i64 0, .bool false, .int .i64 0, .int .i64 0, .int .i64 0, .int .i64 0] : List Value) 28 wd.heap.size rfl)
        refine hK.out _ _ J1.out.tail (fun hHeld => ?_)
        clear hK K1
        (try simp only [Act.put]); (try simp only [List.setIfInBounds_toArray]); (try simp only [List.set_cons_succ]); (try simp only [List.set_cons_zero]); (try simp only [List.set_cons_succ]); (try simp only [List.set_cons_zero]); (try simp only [Nat.zero_add])
        obtain ⟨r6, hr6⟩ : ∃ r, r = wd.heap.size := ⟨_, rfl⟩
        have zy : wd.heap.size ≤ r6 := by omega
        rw [← hr6] at J1 ⊢
        clear hr6
        generalize wd.alloc (.cells (([.int .i64 0, .bool false, .int .i64 0, .int .i64 0, .int .i64 0, .int .i64 0] : List Value) : List Value).toArray 28) = v1 at J1 hHeld ⊢
        refine wpAnyH_ready (rs := [1]) (by kernel_rfl) (by simp) ?_
        refine AllReadyH.cons rfl (fun K1 hK => ?_) AllReadyH.nil
        go_simp
        refine (toIntS_own _ _ _ IL0 _ hl (J1.out.sin (.tail _ (.tail _ (.head _))))).mono ?_
        rintro e v2 ⟨q1, rfl, _, hQ, hb⟩
        have J2 := hid_mk ((J1.out.next hb).push (intF q1 im0 IL0) ⟨hQ, hIL.out⟩)
        have zs2 := hb.size
        clear hb hQ
        refine hK.out _ _ J2.out.tail.tail (fun hHeld => ?_)
        clear hK K1
        (try simp only [Act.put]); (try simp only [List.setIfInBounds_toArray]); (try simp only [List.set_cons_succ]); (try simp only [List.set_cons_zero]); (try simp only [List.set_cons_succ]); (try simp only [List.set_cons_zero]); (try simp only [Nat.zero_add])
        refine wpAnyH_ready (rs := [3]) (by kernel_rfl) (by simp) ?_
        refine AllReadyH.cons rfl (fun K1 hK => ?_) AllReadyH.nil
        go_simp
        refine (toWord_any x0 x1 x2 x3 x4 x5 _).mono ?_
        rintro e v3 ⟨rfl, hb⟩
        have J3 := hid_mk (J2.out.next hb)
        have zs3 := hb.size
        clear hb
        refine hK.out _ _ J3.out.tail.tail (fun hHeld => ?_)
        clear hK K1
        (try simp only [Act.put]); (try simp only [List.setIfInBounds_toArray]); (try simp only [List.set_cons_succ]); (try simp only [List.set_cons_zero]); (try simp only [List.set_cons_succ]); (try simp only [List.set_cons_zero]); (try simp only [Nat.zero_add])
        refine wpAnyH_ready (rs := [4]) (by kernel_rfl) (by simp) ?_
        refine AllReadyH.cons rfl (fun K1 hK => ?_) AllReadyH.nil
        go_simp
        refine (S1.out _ _ _ (J3.out.isl (.head _) hl)).mono ?_
        rintro e v4 ⟨rfl, hb⟩
        have J4 := hid_mk (J3.out.next hb)
        have zs4 := hb.size
        clear hb
        refine hK.out _ _ J4.out.tail.tail (fun hHeld => ?_)
        clear hK K1
        (try simp only [Act.put]); (try simp only [List.setIfInBounds_toArray]); (try simp only [List.set_cons_succ]); (try simp only [List.set_cons_zero]); (try simp only [List.set_cons_succ]); (try simp only [List.set_cons_zero]); (try simp only [Nat.zero_add])
        have JQ := hid_mk (J4.out.sub (gs := [celF r6 ([.int .i64 0, .bool false, .int .i64 0, .int .i64 0, .int .i64 0, .int .i64 0] : List Value), celF w.heap.size [.int .i64 x0, .bool x1, .int .i64 x2, .int .i64 x3, .int .i64 x4, .int .i64 x5], sinF w.heap.size ia0 im0 IL0]) (fun f hf => by simp only [List.mem_cons, List.not_mem_nil, or_false] at hf ⊢; rcases hf with rfl | rfl | rfl; exact .inr (.inl rfl); exact .inr (.inr (.inl rfl)); exact .inr (.inr (.inr (rfl)))))
        refine wpAnyH_ready (rs := [6]) (by kernel_rfl) (by simp) ?_
        refine AllReadyH.cons rfl (fun K1 hK => ?_) AllReadyH.nil
        obtain ⟨d0, d1, d2, d3, d4, d5⟩ := (JQ.out.cel (.head _)).c6
        obtain ⟨f0, f1, f2, f3, f4, f5⟩ := (JQ.out.cel (.head _)).f6
        go_simp
        have JZ := hid_mk (JQ.out.set6 (by omega) (fun f hf => DD.out f hf _ zy) (.int .i64 u0) (.bool u1) (.int .i64 u2) (.int .i64 u3) (.int .i64 u4) (.int .i64 u5))
        clear d0 d1 d2 d3 d4 d5 f0 f1 f2 f3 f4 f5
        refine hK.out _ _ JZ.out.tail (fun hHeld => ?_)
        clear hK K1
        (try simp only [Act.put]); (try simp only [List.setIfInBounds_toArray]); (try simp only [List.set_cons_succ]); (try simp only [List.set_cons_zero]); (try simp only [List.set_cons_succ]); (try simp only [List.set_cons_zero]); (try simp only [Nat.zero_add])
        refine wpAnyH_done (by kernel_rfl) ?_ _
        clear hHeld
        try dsimp only
        go_wp2_with fail
        go_meet
        case rel => exact ⟨_, rfl, JZ.out⟩
    case' rest =>
      obtain ⟨r6, rfl, H⟩ := hcut
      have hz1 : r6 < wc.heap.size := (H.out.cel (.head _)).lt
      go_wp2_with fail
      refine (toIntS_own _ _ _ IL0 _ hl (H.out.sin (.tail _ (.tail _ (.head _))))).mono ?_
      rintro e w2 ⟨q2, rfl, _, hQ, hb⟩
      have hz2 := hb.size
      replace H := hid_mk ((H.out.next hb).push (intF q2 im0 IL0) ⟨hQ, hIL.out⟩)
      clear hb hQ
      obtain ⟨c0, c1, c2, c3, c4, c5⟩ := (H.out.cel (.tail _ (.tail _ (.head _)))).c6
      go_wp2_with fail
      refine (toWord_any _ _ _ _ _ _ _).mono ?_
      rintro e w3 ⟨rfl, hb⟩
      have hz3 := hb.size
      replace H := hid_mk (H.out.next hb)
      clear hb c0 c1 c2 c3 c4 c5
      go_wp2_with fail
      refine (S2.out _ _ _ (H.out.isl (.head _) hl)).mono ?_
      rintro e w4 ⟨rfl, hb⟩
      have hz4 := hb.size
      replace H := hid_mk (((H.out.next hb).alloc (.cells #[.int .i64 u0, .bool u1, .int .i64 u2, .int .i64 u3, .int .i64 u4, .int .i64 u5] 28)).push (celF w4.heap.size [.int .i64 u0, .bool u1, .int .i64 u2, .int .i64 u3, .int .i64 u4, .int .i64 u5]) (Cel.new w4 _ _))
      clear hb
      go_upto_region 6 with fail
      generalize w4.alloc (.cells #[.int .i64 u0, .bool u1, .int .i64 u2, .int .i64 u3, .int .i64 u4, .int .i64 u5] 28) = w5 at H ⊢
      obtain ⟨r7, hr7⟩ : ∃ r, r = w4.heap.size := ⟨_, rfl⟩
      rw [← hr7] at H ⊢
      clear hr7
      obtain ⟨c0, c1, c2, c3, c4, c5⟩ := (H.out.cel (.head _)).c6
      obtain ⟨d0, d1, d2, d3, d4, d5⟩ := (H.out.cel (.tail _ (.tail _ (.head _)))).c6
      go_wp2_with fail
      refine (eqWord_same _ _ _ _ _ _ _).mono ?_
      rintro e w6 ⟨rfl, hb⟩
      replace H := hid_mk (H.out.next hb)
      clear hb c0 c1 c2 c3 c4 c5 d0 d1 d2 d3 d4 d5
      go_wp2_with fail
      refine (toIntS_own _ _ _ IL0 _ hl (H.out.sin (.tail _ (.tail _ (.tail _ (.tail _ (.head _))))))).mono ?_
      rintro e w7 ⟨q3, rfl, _, hQ, hb⟩
      replace H := hid_mk ((H.out.next hb).push (intF q3 im0 IL0) ⟨hQ, hIL.out⟩)
      clear hb hQ
      go_wp2_with fail
      refine (eqIntS_same _ _ _ _ _ IL0 _ (H.out.isl (.tail _ (.tail _ (.head _))) hl) (H.out.isl (.head _) hl)).mono ?_
      rintro e w8 ⟨rfl, hb⟩
      replace H := hid_mk (H.out.next hb)
      clear hb
      go_wp2
      go_ret
      exact ⟨rfl, H.out.bel⟩
  · have B := hid_mk ((Below.refl w.heap.size w).alloc (Nat.le_refl _) (.cells #[.int .i64 x0, .bool x1, .int .i64 x2, .int .i64 x3, .int .i64 x4, .int .i64 x5] 45))
    clear hS hS1 HW hIL
    go_enter Try.func6, Try.ntmps6
    go_wp2
    go_ret
    exact ⟨rfl, B.out⟩

set_option maxRecDepth 100000 in
theorem lifted (os : Os) (started : os.Started) (H : Type) (enc : TypeId × Value → H) :
    ReturnsInHanded {} Try.checked os 6 .any (Rows.fnExactGuessSpec.pre6 enc Try.prog Try.f6 Rows.fnExactGuessRow.domain false) (Rows.fnExactGuessSpec.post enc Try.prog Try.f6 false true false false) := by
  refine returnsInHanded_of_change (C := Try.checked) own started (by kernel_rfl) Try.func6
    (ChangeSpec.witness6 (enc := enc) (C := Try.checked) false ⟨#[], #[.slice none 0 0, .agg #[.int .i64 0, .bool false, .int .i64 0, .int .i64 0, .int .i64 0, .int .i64 0]], []⟩ 8 (by kernel_rfl) (by kernel_rfl) (by kernel_rfl) (by kernel_rfl)) ?_
  intro W base args ds gs before hval0 hW hcnd _
  have hval : ∀ (j : Nat) t v, Try.f6.params[j]? = some t → args[j]? = some v → Value.okWide Try.prog W .any base t v := hval0
  have hW' := hW
  obtain ⟨p, q, hA0, hV, rfl, hfz, hnd⟩ := hW
  have hA : DataW.TrodAll enc Try.prog W 0 (fun _ => true) true Try.f6.params.toList args.toList ds p := hA0
  rw [Try.params6] at hA hval
  obtain ⟨v0, vs0, d0, ds0, p0, q0, hargs, rfl, rfl, h0, r0⟩ := trodAll_cons hA
  obtain ⟨v1, vs1, d1, ds1, p1, q1, rfl, rfl, rfl, h1, r1⟩ := trodAll_cons r0
  obtain ⟨rfl, rfl, rfl⟩ := trodAll_nil r1
  obtain rfl : args = #[v0, v1] := by cases args; simp_all
  obtain ⟨rfl, rfl⟩ := trodVars_none hV
  have k0 := h0
  have lt0 : ∀ x ∈ p0, x.block < W.heap.size := by obtain ⟨m, hm⟩ := k0; exact DataW.trod_lt m _ _ _ hm
  have k1 := h1
  have lt1 : ∀ x ∈ p1, x.block < W.heap.size := by obtain ⟨m, hm⟩ := k1; exact DataW.trod_lt m _ _ _ hm
  obtain ⟨ia0, im0, ic0, rfl⟩ := okWide_slice Try.underlying24 (hval 0 24 v0 rfl rfl)
  obtain ⟨IL0, hS0⟩ : ∃ L, SliceN W.heap.size W ia0 im0 L ∧ ∀ x ∈ L, (Lit.int .i64 x).wf = true := by
    obtain ⟨fuel, hf⟩ := h0
    exact ints_wf (by simpa [Value.cells] using hf)
  obtain ⟨x0, x1, x2, x3, x4, x5, rfl, _, _, hS1, _, _, _, _⟩ := open_word (hval 1 45 v1 rfl rfl) h1
  clear hA0 hval0
  refine (walk ia0 im0 ic0 IL0 x0 x1 x2 x3 x4 x5 W  hS0 hS1).mono fun e W' ⟨he, bel⟩ => ?_
  subst he
  exact ⟨_, rfl, _, _, _, [], _, [], hW', trodAll_mk1 (shut_bool Try.underlying4 _), (trodAll_cons_mk (Below.trod laidOut (by kernel_rfl) (of_decide_eq_true (by kernel_rfl)) k0 bel lt0) (trodAll_cons_mk (Below.trod laidOut (by kernel_rfl) (of_decide_eq_true (by kernel_rfl)) k1 bel lt1) trodAll_mk0)), rfl, bel.frame _, fun h => by cases h⟩

theorem proved : Rows.FnExactGuessSaid :=
  OpenClaim.holds_of_wide 6 Try.f6 rfl rfl rfl rfl rfl rfl rfl ⟨rfl, rfl, rfl, rfl, rfl⟩ rfl rfl rfl rfl rfl (by kernel_rfl) Try.func6 (by kernel_rfl)
    (of_decide_eq_true (by kernel_rfl)) (by unfold Func.isWrapper; first | (rw [if_pos (by decide +kernel)]; kernel_rfl) | (rw [if_neg (by decide +kernel)]; exact ⟨rfl, rfl⟩))
    (fun os started H enc _ => lifted os started H enc)
end Go.Proofs.Ytcokcfgagbahbaa.fnExactGuess

namespace Go.Proofs.Ytcokcfgagbahbaa
/-- For every list of ints and Word Guess of the program answers as the specification's Guess, field by field, leaves the list as it was, and the law returns true; lists of more than 2^20 elements the law passes by. -/
theorem fnExactGuess_holds : Rows.FnExactGuessSaid := fnExactGuess.proved
#print axioms fnExactGuess_holds
end Go.Proofs.Ytcokcfgagbahbaa
