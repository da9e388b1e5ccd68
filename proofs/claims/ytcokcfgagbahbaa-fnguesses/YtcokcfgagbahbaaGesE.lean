/- The list that told makes of no map; GuessNew, Learn and Guess of the program. No condition but that there are no more places than a list of the laws may have, and that the numbers are ints. -/
import Derived.Test.YtcokcfgagbahbaaGesD
import Derived.Test.YtcokcfgagbahbaaIFive
namespace Go.Proofs.Ytcokcfgagbahbaa
open Go.ChangeShapes Go.WideShapes Go.ChangeAt Go.RowKit Go.Maps Go.Sort Go.Shelf
set_option maxRecDepth 100000

set_option maxHeartbeats 4000000 in
theorem told_none (count : Nat) (w : World) (hc : count ≤ 1048576) :
    Calls Try.prog 34 #[.map none, .int .i64 (count : Int)] w fun e w' => ∃ q, e = .returned (.slice (some ⟨q, 0, none⟩) count count) ∧ w.heap.size ≤ q ∧ RoomN w' q count count (List.replicate count (-1)) ∧ Below w.heap.size w w' := by
  obtain ⟨i0, hi, hz0, hz1, hz2⟩ := info_parts infoN
  go_enter Try.func34, Try.ntmps34
  go_wp2_with (at_make; refine wpList_make_own _ rfl _ _ 24 rfl 0 3 i0 _ 1 Try.underlying24 hi hz0 hz1 _ _ _ count rfl rfl (by rfl) (by rw [hz2]; omega) (by unfold maxLen; omega) (Nat.zero_le _) ?_; intro w1 hown1 hgrow1)
  obtain ⟨q, hq⟩ : ∃ q, q = w.heap.size := ⟨_, rfl⟩
  rw [← hq] at hown1 ⊢
  have H := hid_mk (((Hold.new w).next (⟨hgrow1.os, hgrow1.tape, hgrow1.output, hgrow1.size, fun k hk => hgrow1.block k hk (by simp)⟩ : Below w.heap.size w w1)).push (roomF q 0 count []) ⟨hown1⟩)
  clear hown1 hgrow1
  have hq0 : w.heap.size ≤ q := by omega
  clear hq
  have S1 := hid_mk (sorted_nil w1)
  go_wp2_with fail
  refine (keys_call _ _).mono ?_
  rintro e w2 ⟨rfl, rfl⟩
  go_wp2_with fail
  refine S1.out.mono ?_
  rintro e w3 ⟨rfl, hb⟩
  replace H := hid_mk ((H.out.alloc (.cells #[.map none] 54)).next (hb.mono (by simp)))
  clear hb S1
  generalize w3 = w4 at H
  go_wp2
  refine wp_loop_rounds 1 ?_
  rw [rounds_succ]
  have U := hid_mk (unlearnt_any q 0 count count [] w4 (Nat.zero_le _) (Nat.le_refl _) hc (H.out.room (.head _)))
  go_wp2_with fail
  refine U.out.mono ?_
  rintro e w5 ⟨rfl, hR, hgr⟩
  rw [Nat.sub_zero, List.nil_append] at hR
  have H2 := hid_mk (H.out.grow hgr hR hq0 (fun f hf => by cases hf))
  clear hR hgr
  go_wp2
  go_ret
  exact ⟨q, rfl, hq0, H2.out.room (.head _), H2.out.bel⟩

set_option maxHeartbeats 1000000 in
theorem implGuessNew_any (w : World) :
    Calls Try.prog 19 #[] w fun e w' => ∃ q, e = .returned (.slice (some ⟨q, 0, none⟩) 48 48) ∧ w.heap.size ≤ q ∧ RoomN w' q 48 48 (List.replicate 48 (-1)) ∧ Below w.heap.size w w' := by
  have U := hid_mk (told_none 48 w (by omega))
  go_enter Try.func19, Try.ntmps19
  go_wp2_with fail
  refine U.out.mono ?_
  rintro e w5 ⟨q, rfl, hq, hR, hb⟩
  have R := hid_mk hR
  clear hR U
  go_wp2
  go_ret
  exact ⟨q, rfl, hq, R.out, hb⟩
end Go.Proofs.Ytcokcfgagbahbaa
