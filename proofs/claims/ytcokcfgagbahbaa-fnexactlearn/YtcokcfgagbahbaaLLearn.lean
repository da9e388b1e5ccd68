/- For every list of ints and two Words Learn of the program answers as the specification's Learn, number for number, in memory of its own, behind another call too; it leaves the list as it was and keeps nothing of it, and the law returns true; lists of more than 2^20 elements the law passes by. -/
import Derived.Test.YtcokcfgagbahbaaRows
import Derived.Test.YtcokcfgagbahbaaGesK
import Derived.Test.YtcokcfgagbahbaaIntI
import Derived.Test.YtcokcfgagbahbaaIntH
import Derived.Test.YtcokcfgagbahbaaHoldX
import Derived.Test.YtcokcfgagbahbaaTakeOn
import Derived.WalkKit
import Derived.ProofKit
import Derived.OpenShut
import Derived.Lib.SmallJoins
import Derived.ChangeOld
import Derived.Below
import Derived.Deep.Slices
import Derived.Deep.Strs
namespace Go.Proofs.Ytcokcfgagbahbaa.fnExactLearn
open Go.ChangeShapes Go.WideShapes Go.ChangeAt Go.RowKit Go.Joins Go.Deep

theorem own : ownKnob Try.prog.godebug = none := by kernel_rfl
theorem laidOut : laidOutB Try.prog = true := by kernel_rfl

set_option maxRecDepth 100000 in
set_option maxHeartbeats 20000000 in
theorem walk (ia0 : Option Addr) (im0 ic0 : Nat) (IL0 : List Int) (x0 : Int) (x1 : Bool) (x2 x3 x4 x5 : Int) (x6 : Int) (x7 : Bool) (x8 x9 x10 x11 : Int) (w : World)  (hS0 : SliceN w.heap.size w ia0 im0 IL0 ∧ ∀ x ∈ IL0, (Lit.int .i64 x).wf = true) :
    Calls Try.prog 7 #[.slice ia0 im0 ic0, .agg #[.int .i64 x0, .bool x1, .int .i64 x2, .int .i64 x3, .int .i64 x4, .int .i64 x5], .agg #[.int .i64 x6, .bool x7, .int .i64 x8, .int .i64 x9, .int .i64 x10, .int .i64 x11]] w fun e w' => e = .returned (.bool true) ∧ Below w.heap.size w w' := by
  obtain ⟨hS, hW⟩ := hS0
  have hml := hS.1
  have hIL := hid_mk hS.2.1
  unfold maxLen at hml
  have HW := hid_mk hW
  clear hW
  by_cases hl : im0 ≤ 1048576
  · obtain ⟨LR, hLR⟩ : ∃ LR, LR = lrnL IL0 x0 x6 := ⟨_, rfl⟩
    have hlr : LR.length = im0 := by rw [hLR]; unfold lrnL; split <;> simp [hIL.out]
    have s1 := fun kb o c w hS => specLearn_any kb o im0 c IL0 x0 x1 x2 x3 x4 x5 x6 x7 x8 x9 x10 x11 w hl hS
    have s2 := fun a c w hS => implLearn_any a im0 c IL0 ⟨x0, x1, x2, x3, x4, x5⟩ ⟨x6, x7, x8, x9, x10, x11⟩ w hl hS HW.out
    dsimp only at s2
    rw [← hLR] at s2
    simp only [← hLR] at s1
    have HLR := hid_mk hlr
    have S1 := hid_mk s1
    have S2 := hid_mk s2
    obtain ⟨mg, hmg⟩ : ∃ mg : Int, mg = 1 + (im0 : Int) := ⟨_, rfl⟩
    have hmg0 : 0 ≤ mg := by omega
    have hmgn : (mg != mg) = false := by simp
    have HMG := hid_mk hmg
    have H := hid_mk (((((Hold.new w).push (sinF w.heap.size ia0 im0 IL0) ⟨hS, Nat.le_refl _⟩).alloc (.cells #[.int .i64 x0, .bool x1, .int .i64 x2, .int .i64 x3, .int .i64 x4, .int .i64 x5] 45)).push (celF w.heap.size [.int .i64 x0, .bool x1, .int .i64 x2, .int .i64 x3, .int .i64 x4, .int .i64 x5]) (Cel.new w _ _)).alloc (.cells #[.int .i64 x6, .bool x7, .int .i64 x8, .int .i64 x9, .int .i64 x10, .int .i64 x11] 45))
    have HC := Cel.new (w.alloc (.cells #[.int .i64 x0, .bool x1, .int .i64 x2, .int .i64 x3, .int .i64 x4, .int .i64 x5] 45)) [.int .i64 x6, .bool x7, .int .i64 x8, .int .i64 x9, .int .i64 x10, .int .i64 x11] 45
    rw [World.size_alloc] at HC
    replace H := hid_mk (H.out.push (celF (w.heap.size + 1) [.int .i64 x6, .bool x7, .int .i64 x8, .int .i64 x9, .int .i64 x10, .int .i64 x11]) HC)
    clear s1 s2 hS hLR hlr hmg HC
    generalize hw1 : (w.alloc (.cells #[.int .i64 x0, .bool x1, .int .i64 x2, .int .i64 x3, .int .i64 x4, .int .i64 x5] 45)).alloc (.cells #[.int .i64 x6, .bool x7, .int .i64 x8, .int .i64 x9, .int .i64 x10, .int .i64 x11] 45) = w1 at H
    go_enter Try.func7, Try.ntmps7
    go_upto_region 3 with fail
    clear hw1
    have hz1 := (H.out.cel (.head _)).lt
    have D0 := hid_mk H.out.drew
    have hzda : w1.heap.size ≤ w1.drew.heap.size := by simp
    refine wp_region_held_drew (S := fun w' => Hold w w' [celF (w.heap.size + 1) [.int .i64 x6, .bool x7, .int .i64 x8, .int .i64 x9, .int .i64 x10, .int .i64 x11], celF w.heap.size [.int .i64 x0, .bool x1, .int .i64 x2, .int .i64 x3, .int .i64 x4, .int .i64 x5], sinF w.heap.size ia0 im0 IL0]) (by kernel_rfl) D0.out (fun hHeld => ?_)
    generalize w1.drew = wda at D0 hHeld hzda ⊢
    clear H
    have H := D0
    clear D0
    refine take_on (i := 0) (d := 17) (v := .slice ia0 im0 ic0) rfl rfl (by kernel_rfl) (by kernel_rfl) (by kernel_rfl) (fun _ _ _ h => h) (by rfl) ?_ hHeld ?_
    · (intro w' hSw; go_simp)
    (try simp only [Act.put]); (try simp only [List.setIfInBounds_toArray]); (try simp only [List.set_cons_succ]); (try simp only [List.set_cons_zero]); (try simp only [List.set_cons_succ]); (try simp only [List.set_cons_zero]); (try simp only [Nat.zero_add])
    refine take_on (i := 2) (d := 19) (v := .agg #[.int .i64 x0, .bool x1, .int .i64 x2, .int .i64 x3, .int .i64 x4, .int .i64 x5]) rfl rfl (by kernel_rfl) (by kernel_rfl) (by kernel_rfl) (fun _ _ _ h => h) (by rfl) ?_ hHeld ?_
    · (intro w' hSw; have hSx : Hold w w' [celF (w.heap.size + 1) [.int .i64 x6, .bool x7, .int .i64 x8, .int .i64 x9, .int .i64 x10, .int .i64 x11], celF w.heap.size [.int .i64 x0, .bool x1, .int .i64 x2, .int .i64 x3, .int .i64 x4, .int .i64 x5], sinF w.heap.size ia0 im0 IL0] := hSw; obtain ⟨c0, c1, c2, c3, c4, c5⟩ := (hSx.cel (.tail _ (.head _))).c6; go_simp)
    (try simp only [Act.put]); (try simp only [List.setIfInBounds_toArray]); (try simp only [List.set_cons_succ]); (try simp only [List.set_cons_zero]); (try simp only [List.set_cons_succ]); (try simp only [List.set_cons_zero]); (try simp only [Nat.zero_add])
    refine take_on (i := 4) (d := 21) (v := .agg #[.int .i64 x6, .bool x7, .int .i64 x8, .int .i64 x9, .int .i64 x10, .int .i64 x11]) rfl rfl (by kernel_rfl) (by kernel_rfl) (by kernel_rfl) (fun _ _ _ h => h) (by rfl) ?_ hHeld ?_
    · (intro w' hSw; have hSx : Hold w w' [celF (w.heap.size + 1) [.int .i64 x6, .bool x7, .int .i64 x8, .int .i64 x9, .int .i64 x10, .int .i64 x11], celF w.heap.size [.int .i64 x0, .bool x1, .int .i64 x2, .int .i64 x3, .int .i64 x4, .int .i64 x5], sinF w.heap.size ia0 im0 IL0] := hSw; obtain ⟨c0, c1, c2, c3, c4, c5⟩ := (hSx.cel (.head _)).c6; go_simp)
    (try simp only [Act.put]); (try simp only [List.setIfInBounds_toArray]); (try simp only [List.set_cons_succ]); (try simp only [List.set_cons_zero]); (try simp only [List.set_cons_succ]); (try simp only [List.set_cons_zero]); (try simp only [Nat.zero_add])
    refine wpAnyH_ready (rs := [1]) (by kernel_rfl) (by simp) ?_
    refine AllReadyH.cons rfl (fun K1 hK => ?_) AllReadyH.nil
    go_simp
    refine (toIntS_own _ _ _ IL0 _ hl (H.out.sin (.tail _ (.tail _ (.head _))))).mono ?_
    rintro e va0 ⟨q1, rfl, hq_q1, hQ, hb⟩
    have zsa0 := hb.size
    replace H := hid_mk ((H.out.next hb).push (intF q1 im0 IL0) ⟨hQ, hIL.out⟩)
    have hp_q1 : q1 < _ := hQ.lt
    clear hb hQ
    refine hK.out _ _ H.out.tail (fun hHeld => ?_)
    clear hK K1
    (try simp only [Act.put]); (try simp only [List.setIfInBounds_toArray]); (try simp only [List.set_cons_succ]); (try simp only [List.set_cons_zero]); (try simp only [List.set_cons_succ]); (try simp only [List.set_cons_zero]); (try simp only [Nat.zero_add])
    refine wpAnyH_ready (rs := [3]) (by kernel_rfl) (by simp) ?_
    refine AllReadyH.cons rfl (fun K1 hK => ?_) AllReadyH.nil
    go_simp
    refine (toWord_any x0 x1 x2 x3 x4 x5 _).mono ?_
    rintro e va1 ⟨rfl, hb⟩
    have zsa1 := hb.size
    replace H := hid_mk (H.out.next hb)
    clear hb
    refine hK.out _ _ H.out.tail (fun hHeld => ?_)
    clear hK K1
    (try simp only [Act.put]); (try simp only [List.setIfInBounds_toArray]); (try simp only [List.set_cons_succ]); (try simp only [List.set_cons_zero]); (try simp only [List.set_cons_succ]); (try simp only [List.set_cons_zero]); (try simp only [Nat.zero_add])
    refine wpAnyH_ready (rs := [5]) (by kernel_rfl) (by simp) ?_
    refine AllReadyH.cons rfl (fun K1 hK => ?_) AllReadyH.nil
    go_simp
    refine (toWord_any x6 x7 x8 x9 x10 x11 _).mono ?_
    rintro e va2 ⟨rfl, hb⟩
    have zsa2 := hb.size
    replace H := hid_mk (H.out.next hb)
    clear hb
    refine hK.out _ _ H.out.tail (fun hHeld => ?_)
    clear hK K1
    (try simp only [Act.put]); (try simp only [List.setIfInBounds_toArray]); (try simp only [List.set_cons_succ]); (try simp only [List.set_cons_zero]); (try simp only [List.set_cons_succ]); (try simp only [List.set_cons_zero]); (try simp only [Nat.zero_add])
    refine wpAnyH_ready (rs := [6]) (by kernel_rfl) (by simp) ?_
    refine AllReadyH.cons rfl (fun K1 hK => ?_) AllReadyH.nil
    go_simp
    refine (S1.out _ _ _ _ (H.out.isl (.head _) hl)).mono ?_
    rintro e va3 ⟨qw, cw, rfl, hq_qw, hQ, hb⟩
    have zsa3 := hb.size
    replace H := hid_mk ((H.out.next hb).push (intF qw im0 LR) hQ)
    have hp_qw : qw < _ := (show OutN _ qw im0 im0 LR ∧ LR.length = im0 from hQ).1.lt
    clear hb hQ
    refine hK.out _ _ H.out.tail.tail (fun hHeld => ?_)
    clear hK K1
    (try simp only [Act.put]); (try simp only [List.setIfInBounds_toArray]); (try simp only [List.set_cons_succ]); (try simp only [List.set_cons_zero]); (try simp only [List.set_cons_succ]); (try simp only [List.set_cons_zero]); (try simp only [Nat.zero_add])
    refine take_on (i := 7) (d := 7) (v := .slice (some ⟨qw, 0, none⟩) im0 cw) rfl rfl (by kernel_rfl) (by kernel_rfl) (by kernel_rfl) (fun _ _ _ h => h) (by rfl) ?_ hHeld ?_
    · (intro w' hSw; go_simp)
    (try simp only [Act.put]); (try simp only [List.setIfInBounds_toArray]); (try simp only [List.set_cons_succ]); (try simp only [List.set_cons_zero]); (try simp only [List.set_cons_succ]); (try simp only [List.set_cons_zero]); (try simp only [Nat.zero_add])
    refine wpAnyH_done (by kernel_rfl) ?_ _
    clear hHeld
    try dsimp only
    replace H := hid_mk (H.out.sub (gs := [intF qw im0 LR, celF (w.heap.size + 1) [.int .i64 x6, .bool x7, .int .i64 x8, .int .i64 x9, .int .i64 x10, .int .i64 x11], celF w.heap.size [.int .i64 x0, .bool x1, .int .i64 x2, .int .i64 x3, .int .i64 x4, .int .i64 x5], sinF w.heap.size ia0 im0 IL0]) (fun f hf => by simp only [List.mem_cons, List.not_mem_nil, or_false] at hf ⊢; rcases hf with rfl | rfl | rfl | rfl; exact .inl rfl; exact .inr (.inr (.inl rfl)); exact .inr (.inr (.inr (.inl rfl))); exact .inr (.inr (.inr (.inr (rfl))))))
    go_wp2_with fail
    refine (toIntS_own _ _ _ IL0 _ hl (H.out.sin (.tail _ (.tail _ (.tail _ (.head _)))))).mono ?_
    rintro e w2 ⟨q2, rfl, hq_q2, hQ, hb⟩
    have zs_w2 := hb.size
    replace H := hid_mk ((H.out.next hb).push (intF q2 im0 IL0) ⟨hQ, hIL.out⟩)
    have hp_q2 : q2 < _ := hQ.lt
    clear hb hQ
    go_upto_region 5 with fail
    have D0 := hid_mk H.out.drew
    have hzdb : w2.heap.size ≤ w2.drew.heap.size := by simp
    refine wp_region_held_drew (S := fun w' => Hold w w' [celF (w.heap.size + 1) [.int .i64 x6, .bool x7, .int .i64 x8, .int .i64 x9, .int .i64 x10, .int .i64 x11], celF w.heap.size [.int .i64 x0, .bool x1, .int .i64 x2, .int .i64 x3, .int .i64 x4, .int .i64 x5], sinF w.heap.size ia0 im0 IL0]) (by kernel_rfl) D0.out.tail.tail (fun hHeld => ?_)
    generalize w2.drew = wdb at D0 hHeld hzdb ⊢
    clear H
    have H := D0
    clear D0
    refine take_on (i := 0) (d := 26) (v := .slice (some ⟨q2, 0, none⟩) im0 im0) rfl rfl (by kernel_rfl) (by kernel_rfl) (by kernel_rfl) (fun _ _ _ h => h) (by rfl) ?_ hHeld ?_
    · (intro w' hSw; go_simp)
    (try simp only [Act.put]); (try simp only [List.setIfInBounds_toArray]); (try simp only [List.set_cons_succ]); (try simp only [List.set_cons_zero]); (try simp only [List.set_cons_succ]); (try simp only [List.set_cons_zero]); (try simp only [Nat.zero_add])
    refine take_on (i := 1) (d := 27) (v := .agg #[.int .i64 x0, .bool x1, .int .i64 x2, .int .i64 x3, .int .i64 x4, .int .i64 x5]) rfl rfl (by kernel_rfl) (by kernel_rfl) (by kernel_rfl) (fun _ _ _ h => h) (by rfl) ?_ hHeld ?_
    · (intro w' hSw; have hSx : Hold w w' [celF (w.heap.size + 1) [.int .i64 x6, .bool x7, .int .i64 x8, .int .i64 x9, .int .i64 x10, .int .i64 x11], celF w.heap.size [.int .i64 x0, .bool x1, .int .i64 x2, .int .i64 x3, .int .i64 x4, .int .i64 x5], sinF w.heap.size ia0 im0 IL0] := hSw; obtain ⟨c0, c1, c2, c3, c4, c5⟩ := (hSx.cel (.tail _ (.head _))).c6; go_simp)
    (try simp only [Act.put]); (try simp only [List.setIfInBounds_toArray]); (try simp only [List.set_cons_succ]); (try simp only [List.set_cons_zero]); (try simp only [List.set_cons_succ]); (try simp only [List.set_cons_zero]); (try simp only [Nat.zero_add])
    refine take_on (i := 3) (d := 29) (v := .agg #[.int .i64 x6, .bool x7, .int .i64 x8, .int .i64 x9, .int .i64 x10, .int .i64 x11]) rfl rfl (by kernel_rfl) (by kernel_rfl) (by kernel_rfl) (fun _ _ _ h => h) (by rfl) ?_ hHeld ?_
    · (intro w' hSw; have hSx : Hold w w' [celF (w.heap.size + 1) [.int .i64 x6, .bool x7, .int .i64 x8, .int .i64 x9, .int .i64 x10, .int .i64 x11], celF w.heap.size [.int .i64 x0, .bool x1, .int .i64 x2, .int .i64 x3, .int .i64 x4, .int .i64 x5], sinF w.heap.size ia0 im0 IL0] := hSw; obtain ⟨c0, c1, c2, c3, c4, c5⟩ := (hSx.cel (.head _)).c6; go_simp)
    (try simp only [Act.put]); (try simp only [List.setIfInBounds_toArray]); (try simp only [List.set_cons_succ]); (try simp only [List.set_cons_zero]); (try simp only [List.set_cons_succ]); (try simp only [List.set_cons_zero]); (try simp only [Nat.zero_add])
    refine wpAnyH_ready (rs := [2]) (by kernel_rfl) (by simp) ?_
    refine AllReadyH.cons rfl (fun K1 hK => ?_) AllReadyH.nil
    go_simp
    refine (toWord_any x0 x1 x2 x3 x4 x5 _).mono ?_
    rintro e vb0 ⟨rfl, hb⟩
    have zsb0 := hb.size
    replace H := hid_mk (H.out.next hb)
    clear hb
    refine hK.out _ _ H.out.tail.tail (fun hHeld => ?_)
    clear hK K1
    (try simp only [Act.put]); (try simp only [List.setIfInBounds_toArray]); (try simp only [List.set_cons_succ]); (try simp only [List.set_cons_zero]); (try simp only [List.set_cons_succ]); (try simp only [List.set_cons_zero]); (try simp only [Nat.zero_add])
    refine wpAnyH_ready (rs := [4]) (by kernel_rfl) (by simp) ?_
    refine AllReadyH.cons rfl (fun K1 hK => ?_) AllReadyH.nil
    go_simp
    refine (toWord_any x6 x7 x8 x9 x10 x11 _).mono ?_
    rintro e vb1 ⟨rfl, hb⟩
    have zsb1 := hb.size
    replace H := hid_mk (H.out.next hb)
    clear hb
    refine hK.out _ _ H.out.tail.tail (fun hHeld => ?_)
    clear hK K1
    (try simp only [Act.put]); (try simp only [List.setIfInBounds_toArray]); (try simp only [List.set_cons_succ]); (try simp only [List.set_cons_zero]); (try simp only [List.set_cons_succ]); (try simp only [List.set_cons_zero]); (try simp only [Nat.zero_add])
    refine wpAnyH_ready (rs := [5]) (by kernel_rfl) (by simp) ?_
    refine AllReadyH.cons rfl (fun K1 hK => ?_) AllReadyH.nil
    go_simp
    refine (S2.out _ _ _ (H.out.isl (.head _) hl)).mono ?_
    rintro e vb2 ⟨qg, rfl, hq_qg, hR, hb⟩
    have zsb2 := hb.size
    replace H := hid_mk ((H.out.next hb).push (intF qg im0 LR) ⟨hR.out, HLR.out⟩)
    have hp_qg : qg < _ := hR.lt
    clear hb hR
    refine hK.out _ _ H.out.tail.tail.tail (fun hHeld => ?_)
    clear hK K1
    (try simp only [Act.put]); (try simp only [List.setIfInBounds_toArray]); (try simp only [List.set_cons_succ]); (try simp only [List.set_cons_zero]); (try simp only [List.set_cons_succ]); (try simp only [List.set_cons_zero]); (try simp only [Nat.zero_add])
    refine take_on (i := 6) (d := 9) (v := .slice (some ⟨qg, 0, none⟩) im0 im0) rfl rfl (by kernel_rfl) (by kernel_rfl) (by kernel_rfl) (fun _ _ _ h => h) (by rfl) ?_ hHeld ?_
    · (intro w' hSw; go_simp)
    (try simp only [Act.put]); (try simp only [List.setIfInBounds_toArray]); (try simp only [List.set_cons_succ]); (try simp only [List.set_cons_zero]); (try simp only [List.set_cons_succ]); (try simp only [List.set_cons_zero]); (try simp only [Nat.zero_add])
    refine wpAnyH_done (by kernel_rfl) ?_ _
    clear hHeld
    try dsimp only
    go_wp2_with fail
    refine (eqIntS_same _ _ _ _ _ LR _ (H.out.isl (.head _) hl) (H.out.isl (.tail _ (.tail _ (.head _))) hl)).mono ?_
    rintro e w4 ⟨rfl, hb⟩
    have zs_w4 := hb.size
    replace H := hid_mk (H.out.next hb)
    clear hb
    go_wp2_with fail
    refine (toIntS_own _ _ _ IL0 _ hl (H.out.sin (.tail _ (.tail _ (.tail _ (.tail _ (.tail _ (.head _)))))))).mono ?_
    rintro e w5 ⟨q3, rfl, hq_q3, hQ, hb⟩
    have zs_w5 := hb.size
    replace H := hid_mk ((H.out.next hb).push (intF q3 im0 IL0) ⟨hQ, hIL.out⟩)
    have hp_q3 : q3 < _ := hQ.lt
    clear hb hQ
    go_wp2_with fail
    refine (eqIntS_same _ _ _ _ _ IL0 _ (H.out.isl (.tail _ (.tail _ (.head _))) hl) (H.out.isl (.head _) hl)).mono ?_
    rintro e w6 ⟨rfl, hb⟩
    have zs_w6 := hb.size
    replace H := hid_mk (H.out.next hb)
    clear hb
    replace H := hid_mk (H.out.sub (gs := [intF qg im0 LR, intF q2 im0 IL0, intF qw im0 LR, celF (w.heap.size + 1) [.int .i64 x6, .bool x7, .int .i64 x8, .int .i64 x9, .int .i64 x10, .int .i64 x11], celF w.heap.size [.int .i64 x0, .bool x1, .int .i64 x2, .int .i64 x3, .int .i64 x4, .int .i64 x5], sinF w.heap.size ia0 im0 IL0]) (fun f hf => by simp only [List.mem_cons, List.not_mem_nil, or_false] at hf ⊢; rcases hf with rfl | rfl | rfl | rfl | rfl | rfl; exact .inr (.inl rfl); exact .inr (.inr (.inl rfl)); exact .inr (.inr (.inr (.inl rfl))); exact .inr (.inr (.inr (.inr (.inl rfl)))); exact .inr (.inr (.inr (.inr (.inr (.inl rfl))))); exact .inr (.inr (.inr (.inr (.inr (.inr (rfl))))))))
    replace H := hid_mk (H.out.sub (gs := [intF q2 im0 IL0, intF qg im0 LR, intF qw im0 LR, celF (w.heap.size + 1) [.int .i64 x6, .bool x7, .int .i64 x8, .int .i64 x9, .int .i64 x10, .int .i64 x11], celF w.heap.size [.int .i64 x0, .bool x1, .int .i64 x2, .int .i64 x3, .int .i64 x4, .int .i64 x5], sinF w.heap.size ia0 im0 IL0]) (fun f hf => by simp only [List.mem_cons, List.not_mem_nil, or_false] at hf ⊢; rcases hf with rfl | rfl | rfl | rfl | rfl | rfl; exact .inr (.inl rfl); exact .inl rfl; exact .inr (.inr (.inl rfl)); exact .inr (.inr (.inr (.inl rfl))); exact .inr (.inr (.inr (.inr (.inl rfl)))); exact .inr (.inr (.inr (.inr (.inr (rfl)))))))
    go_wp2_with fail
    refine (markN_own _ _ _ IL0 1 (by omega) (by omega) _ hl (H.out.at (.head _))).mono ?_
    rintro e w7 ⟨rfl, hM, hk⟩
    rw [← HMG.out]
    have zs_w7 := hk.size
    replace H := hid_mk (H.out.mark hk hM (by omega) (fun f hf hs => by
      simp only [List.mem_cons, List.not_mem_nil, or_false] at hf
      rcases hf with rfl | rfl | rfl | rfl | rfl
      · simp only [intF] at hs; omega
      · simp only [intF] at hs; omega
      · simp only [celF] at hs; omega
      · simp only [celF] at hs; omega
      · simp only [sinF] at hs; omega))
    clear hM hk
    go_wp2_with fail
    refine (eqIntS_same _ _ _ _ _ LR _ (H.out.isl (.tail _ (.head _)) hl) (H.out.isl (.tail _ (.tail _ (.head _))) hl)).mono ?_
    rintro e w8 ⟨rfl, hb⟩
    have zs_w8 := hb.size
    replace H := hid_mk (H.out.next hb)
    clear hb
    replace H := hid_mk (H.out.sub (gs := [intF qg im0 LR, intF q2 im0 (marksN 1 im0), intF qw im0 LR, celF (w.heap.size + 1) [.int .i64 x6, .bool x7, .int .i64 x8, .int .i64 x9, .int .i64 x10, .int .i64 x11], celF w.heap.size [.int .i64 x0, .bool x1, .int .i64 x2, .int .i64 x3, .int .i64 x4, .int .i64 x5], sinF w.heap.size ia0 im0 IL0]) (fun f hf => by simp only [List.mem_cons, List.not_mem_nil, or_false] at hf ⊢; rcases hf with rfl | rfl | rfl | rfl | rfl | rfl; exact .inr (.inl rfl); exact .inl rfl; exact .inr (.inr (.inl rfl)); exact .inr (.inr (.inr (.inl rfl))); exact .inr (.inr (.inr (.inr (.inl rfl)))); exact .inr (.inr (.inr (.inr (.inr (rfl)))))))
    go_wp2_with fail
    refine (markN_own _ _ _ LR 1 (by omega) (by omega) _ hl (H.out.at (.head _))).mono ?_
    rintro e w9 ⟨rfl, hM, hk⟩
    rw [← HMG.out]
    have zs_w9 := hk.size
    replace H := hid_mk (H.out.mark hk hM (by omega) (fun f hf hs => by
      simp only [List.mem_cons, List.not_mem_nil, or_false] at hf
      rcases hf with rfl | rfl | rfl | rfl | rfl
      · simp only [intF] at hs; omega
      · simp only [intF] at hs; omega
      · simp only [celF] at hs; omega
      · simp only [celF] at hs; omega
      · simp only [sinF] at hs; omega))
    clear hM hk
    go_wp2_with fail
    refine (heldN_own _ _ _ 1 (by omega) (by omega) _ hl (H.out.at (.head _))).mono ?_
    rintro e w10 ⟨rfl, hb⟩
    have zs_w10 := hb.size
    replace H := hid_mk (H.out.next hb)
    clear hb
    rw [← HMG.out]
    go_upto_region 22 with fail
    have D0 := hid_mk H.out.drew
    have hzdc : w10.heap.size ≤ w10.drew.heap.size := by simp
    refine wp_region_held_drew (S := fun w' => Hold w w' [celF (w.heap.size + 1) [.int .i64 x6, .bool x7, .int .i64 x8, .int .i64 x9, .int .i64 x10, .int .i64 x11], celF w.heap.size [.int .i64 x0, .bool x1, .int .i64 x2, .int .i64 x3, .int .i64 x4, .int .i64 x5], sinF w.heap.size ia0 im0 IL0]) (by kernel_rfl) D0.out.tail.tail.tail (fun hHeld => ?_)
    generalize w10.drew = wdc at D0 hHeld hzdc ⊢
    clear H
    have H := D0
    clear D0
    refine take_on (i := 0) (d := 63) (v := .slice ia0 im0 ic0) rfl rfl (by kernel_rfl) (by kernel_rfl) (by kernel_rfl) (fun _ _ _ h => h) (by rfl) ?_ hHeld ?_
    · (intro w' hSw; go_simp)
    (try simp only [Act.put]); (try simp only [List.setIfInBounds_toArray]); (try simp only [List.set_cons_succ]); (try simp only [List.set_cons_zero]); (try simp only [List.set_cons_succ]); (try simp only [List.set_cons_zero]); (try simp only [Nat.zero_add])
    refine take_on (i := 2) (d := 65) (v := .agg #[.int .i64 x0, .bool x1, .int .i64 x2, .int .i64 x3, .int .i64 x4, .int .i64 x5]) rfl rfl (by kernel_rfl) (by kernel_rfl) (by kernel_rfl) (fun _ _ _ h => h) (by rfl) ?_ hHeld ?_
    · (intro w' hSw; have hSx : Hold w w' [celF (w.heap.size + 1) [.int .i64 x6, .bool x7, .int .i64 x8, .int .i64 x9, .int .i64 x10, .int .i64 x11], celF w.heap.size [.int .i64 x0, .bool x1, .int .i64 x2, .int .i64 x3, .int .i64 x4, .int .i64 x5], sinF w.heap.size ia0 im0 IL0] := hSw; obtain ⟨c0, c1, c2, c3, c4, c5⟩ := (hSx.cel (.tail _ (.head _))).c6; go_simp)
    (try simp only [Act.put]); (try simp only [List.setIfInBounds_toArray]); (try simp only [List.set_cons_succ]); (try simp only [List.set_cons_zero]); (try simp only [List.set_cons_succ]); (try simp only [List.set_cons_zero]); (try simp only [Nat.zero_add])
    refine take_on (i := 4) (d := 67) (v := .agg #[.int .i64 x6, .bool x7, .int .i64 x8, .int .i64 x9, .int .i64 x10, .int .i64 x11]) rfl rfl (by kernel_rfl) (by kernel_rfl) (by kernel_rfl) (fun _ _ _ h => h) (by rfl) ?_ hHeld ?_
    · (intro w' hSw; have hSx : Hold w w' [celF (w.heap.size + 1) [.int .i64 x6, .bool x7, .int .i64 x8, .int .i64 x9, .int .i64 x10, .int .i64 x11], celF w.heap.size [.int .i64 x0, .bool x1, .int .i64 x2, .int .i64 x3, .int .i64 x4, .int .i64 x5], sinF w.heap.size ia0 im0 IL0] := hSw; obtain ⟨c0, c1, c2, c3, c4, c5⟩ := (hSx.cel (.head _)).c6; go_simp)
    (try simp only [Act.put]); (try simp only [List.setIfInBounds_toArray]); (try simp only [List.set_cons_succ]); (try simp only [List.set_cons_zero]); (try simp only [List.set_cons_succ]); (try simp only [List.set_cons_zero]); (try simp only [Nat.zero_add])
    refine wpAnyH_ready (rs := [1]) (by kernel_rfl) (by simp) ?_
    refine AllReadyH.cons rfl (fun K1 hK => ?_) AllReadyH.nil
    go_simp
    refine (toIntS_own _ _ _ IL0 _ hl (H.out.sin (.tail _ (.tail _ (.tail _ (.tail _ (.tail _ (.head _)))))))).mono ?_
    rintro e vc0 ⟨q5, rfl, hq_q5, hQ, hb⟩
    have zsc0 := hb.size
    replace H := hid_mk ((H.out.next hb).push (intF q5 im0 IL0) ⟨hQ, hIL.out⟩)
    have hp_q5 : q5 < _ := hQ.lt
    clear hb hQ
    refine hK.out _ _ H.out.tail.tail.tail.tail (fun hHeld => ?_)
    clear hK K1
    (try simp only [Act.put]); (try simp only [List.setIfInBounds_toArray]); (try simp only [List.set_cons_succ]); (try simp only [List.set_cons_zero]); (try simp only [List.set_cons_succ]); (try simp only [List.set_cons_zero]); (try simp only [Nat.zero_add])
    refine wpAnyH_ready (rs := [3]) (by kernel_rfl) (by simp) ?_
    refine AllReadyH.cons rfl (fun K1 hK => ?_) AllReadyH.nil
    go_simp
    refine (toWord_any x0 x1 x2 x3 x4 x5 _).mono ?_
    rintro e vc1 ⟨rfl, hb⟩
    have zsc1 := hb.size
    replace H := hid_mk (H.out.next hb)
    clear hb
    refine hK.out _ _ H.out.tail.tail.tail.tail (fun hHeld => ?_)
    clear hK K1
    (try simp only [Act.put]); (try simp only [List.setIfInBounds_toArray]); (try simp only [List.set_cons_succ]); (try simp only [List.set_cons_zero]); (try simp only [List.set_cons_succ]); (try simp only [List.set_cons_zero]); (try simp only [Nat.zero_add])
    refine wpAnyH_ready (rs := [5]) (by kernel_rfl) (by simp) ?_
    refine AllReadyH.cons rfl (fun K1 hK => ?_) AllReadyH.nil
    go_simp
    refine (toWord_any x6 x7 x8 x9 x10 x11 _).mono ?_
    rintro e vc2 ⟨rfl, hb⟩
    have zsc2 := hb.size
    replace H := hid_mk (H.out.next hb)
    clear hb
    refine hK.out _ _ H.out.tail.tail.tail.tail (fun hHeld => ?_)
    clear hK K1
    (try simp only [Act.put]); (try simp only [List.setIfInBounds_toArray]); (try simp only [List.set_cons_succ]); (try simp only [List.set_cons_zero]); (try simp only [List.set_cons_succ]); (try simp only [List.set_cons_zero]); (try simp only [Nat.zero_add])
    refine wpAnyH_ready (rs := [6]) (by kernel_rfl) (by simp) ?_
    refine AllReadyH.cons rfl (fun K1 hK => ?_) AllReadyH.nil
    go_simp
    refine (S2.out _ _ _ (H.out.isl (.head _) hl)).mono ?_
    rintro e vc3 ⟨qh, rfl, hq_qh, hR, hb⟩
    have zsc3 := hb.size
    replace H := hid_mk ((H.out.next hb).push (intF qh im0 LR) ⟨hR.out, HLR.out⟩)
    clear hb hR
    refine hK.out _ _ H.out.tail.tail.tail.tail.tail (fun hHeld => ?_)
    clear hK K1
    (try simp only [Act.put]); (try simp only [List.setIfInBounds_toArray]); (try simp only [List.set_cons_succ]); (try simp only [List.set_cons_zero]); (try simp only [List.set_cons_succ]); (try simp only [List.set_cons_zero]); (try simp only [Nat.zero_add])
    refine take_on (i := 7) (d := 13) (v := .slice (some ⟨qh, 0, none⟩) im0 im0) rfl rfl (by kernel_rfl) (by kernel_rfl) (by kernel_rfl) (fun _ _ _ h => h) (by rfl) ?_ hHeld ?_
    · (intro w' hSw; go_simp)
    (try simp only [Act.put]); (try simp only [List.setIfInBounds_toArray]); (try simp only [List.set_cons_succ]); (try simp only [List.set_cons_zero]); (try simp only [List.set_cons_succ]); (try simp only [List.set_cons_zero]); (try simp only [Nat.zero_add])
    refine wpAnyH_done (by kernel_rfl) ?_ _
    clear hHeld
    try dsimp only
    go_wp2_with fail
    refine (eqIntS_same _ _ _ _ _ LR _ (H.out.isl (.head _) hl) (H.out.isl (.tail _ (.tail _ (.tail _ (.tail _ (.head _))))) hl)).mono ?_
    rintro e w11 ⟨rfl, hb⟩
    have zs_w11 := hb.size
    replace H := hid_mk (H.out.next hb)
    clear hb
    go_wp2_with fail
    refine (heldN_own _ _ _ 1 (by omega) (by omega) _ hl (H.out.at (.tail _ (.tail _ (.head _))))).mono ?_
    rintro e w12 ⟨rfl, hb⟩
    have zs_w12 := hb.size
    replace H := hid_mk (H.out.next hb)
    clear hb
    rw [← HMG.out]
    go_wp2
    go_ret
    exact ⟨rfl, H.out.bel⟩
  · have B := hid_mk (((Below.refl w.heap.size w).alloc (Nat.le_refl _) (.cells #[.int .i64 x0, .bool x1, .int .i64 x2, .int .i64 x3, .int .i64 x4, .int .i64 x5] 45)).alloc (by simp) (.cells #[.int .i64 x6, .bool x7, .int .i64 x8, .int .i64 x9, .int .i64 x10, .int .i64 x11] 45))
    clear hS HW hIL
    go_enter Try.func7, Try.ntmps7
    go_wp2
    go_ret
    exact ⟨rfl, B.out⟩

set_option maxRecDepth 100000 in
theorem lifted (os : Os) (started : os.Started) (H : Type) (enc : TypeId × Value → H) :
    ReturnsInHanded {} Try.checked os 7 .any (Rows.fnExactLearnSpec.pre6 enc Try.prog Try.f7 Rows.fnExactLearnRow.domain false) (Rows.fnExactLearnSpec.post enc Try.prog Try.f7 false true false false) := by
  refine returnsInHanded_of_change (C := Try.checked) own started (by kernel_rfl) Try.func7
    (ChangeSpec.witness6 (enc := enc) (C := Try.checked) false ⟨#[], #[.slice none 0 0, .agg #[.int .i64 0, .bool false, .int .i64 0, .int .i64 0, .int .i64 0, .int .i64 0], .agg #[.int .i64 0, .bool false, .int .i64 0, .int .i64 0, .int .i64 0, .int .i64 0]], []⟩ 8 (by kernel_rfl) (by kernel_rfl) (by kernel_rfl) (by kernel_rfl)) ?_
  intro W base args ds gs before hval0 hW hcnd _
  have hval : ∀ (j : Nat) t v, Try.f7.params[j]? = some t → args[j]? = some v → Value.okWide Try.prog W .any base t v := hval0
  have hW' := hW
  obtain ⟨p, q, hA0, hV, rfl, hfz, hnd⟩ := hW
  have hA : DataW.TrodAll enc Try.prog W 0 (fun _ => true) true Try.f7.params.toList args.toList ds p := hA0
  rw [Try.params7] at hA hval
  obtain ⟨v0, vs0, d0, ds0, p0, q0, hargs, rfl, rfl, h0, r0⟩ := trodAll_cons hA
  obtain ⟨v1, vs1, d1, ds1, p1, q1, rfl, rfl, rfl, h1, r1⟩ := trodAll_cons r0
  obtain ⟨v2, vs2, d2, ds2, p2, q2, rfl, rfl, rfl, h2, r2⟩ := trodAll_cons r1
  obtain ⟨rfl, rfl, rfl⟩ := trodAll_nil r2
  obtain rfl : args = #[v0, v1, v2] := by cases args; simp_all
  obtain ⟨rfl, rfl⟩ := trodVars_none hV
  have k0 := h0
  have lt0 : ∀ x ∈ p0, x.block < W.heap.size := by obtain ⟨m, hm⟩ := k0; exact DataW.trod_lt m _ _ _ hm
  have k1 := h1
  have lt1 : ∀ x ∈ p1, x.block < W.heap.size := by obtain ⟨m, hm⟩ := k1; exact DataW.trod_lt m _ _ _ hm
  have k2 := h2
  have lt2 : ∀ x ∈ p2, x.block < W.heap.size := by obtain ⟨m, hm⟩ := k2; exact DataW.trod_lt m _ _ _ hm
  obtain ⟨ia0, im0, ic0, rfl⟩ := okWide_slice Try.underlying24 (hval 0 24 v0 rfl rfl)
  obtain ⟨IL0, hS0⟩ : ∃ L, SliceN W.heap.size W ia0 im0 L ∧ ∀ x ∈ L, (Lit.int .i64 x).wf = true := by
    obtain ⟨fuel, hf⟩ := h0
    exact ints_wf (by simpa [Value.cells] using hf)
  obtain ⟨x0, x1, x2, x3, x4, x5, rfl, _, _, _, _, _, _, _⟩ := open_word (hval 1 45 v1 rfl rfl) h1
  obtain ⟨x6, x7, x8, x9, x10, x11, rfl, _, _, _, _, _, _, _⟩ := open_word (hval 2 45 v2 rfl rfl) h2
  clear hA0 hval0
  refine (walk ia0 im0 ic0 IL0 x0 x1 x2 x3 x4 x5 x6 x7 x8 x9 x10 x11 W  hS0).mono fun e W' ⟨he, bel⟩ => ?_
  subst he
  exact ⟨_, rfl, _, _, _, [], _, [], hW', trodAll_mk1 (shut_bool Try.underlying4 _), (trodAll_cons_mk (Below.trod laidOut (by kernel_rfl) (of_decide_eq_true (by kernel_rfl)) k0 bel lt0) (trodAll_cons_mk (Below.trod laidOut (by kernel_rfl) (of_decide_eq_true (by kernel_rfl)) k1 bel lt1) (trodAll_cons_mk (Below.trod laidOut (by kernel_rfl) (of_decide_eq_true (by kernel_rfl)) k2 bel lt2) trodAll_mk0))), rfl, bel.frame _, fun h => by cases h⟩

theorem proved : Rows.FnExactLearnSaid :=
  OpenClaim.holds_of_wide 7 Try.f7 rfl rfl rfl rfl rfl rfl rfl ⟨rfl, rfl, rfl, rfl, rfl⟩ rfl rfl rfl rfl rfl (by kernel_rfl) Try.func7 (by kernel_rfl)
    (of_decide_eq_true (by kernel_rfl)) (by unfold Func.isWrapper; first | (rw [if_pos (by decide +kernel)]; kernel_rfl) | (rw [if_neg (by decide +kernel)]; exact ⟨rfl, rfl⟩))
    (fun os started H enc _ => lifted os started H enc)
end Go.Proofs.Ytcokcfgagbahbaa.fnExactLearn

namespace Go.Proofs.Ytcokcfgagbahbaa
/-- For every list of ints and two Words Learn of the program answers as the specification's Learn, number for number, in memory of its own, behind another call too; it leaves the list as it was and keeps nothing of it, and the law returns true; lists of more than 2^20 elements the law passes by. -/
theorem fnExactLearn_holds : Rows.FnExactLearnSaid := fnExactLearn.proved
#print axioms fnExactLearn_holds
end Go.Proofs.Ytcokcfgagbahbaa
