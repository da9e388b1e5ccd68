/- Sites of the program: 29 cells as one list; onBy, pass and sets: what they answer. No condition. · The program's steps that set a register by a value: what they answer. No condition. · The program's steps is, halt, zero, store and gone: what they answer. gone: the four errors of the program hold what its text lays. · The program's step jump: what it answers. The four errors of the program hold what its text lays. -/
import Derived.Test.YtpkhnajhamnggaaGreatDoorZK
import Derived.Test.YtpkhnajhamnggaaGreatDoorIFive
import Derived.Test.YtpkhnajhamnggaaGreatDoorZA
import Derived.Deep.RegionHeld3
import Derived.Deep.CutBlock
namespace Go.Proofs.YtpkhnajhamnggaaGreatDoor
open Go.ChangeShapes Go.WideShapes Go.ChangeAt Go.RowKit
set_option maxRecDepth 100000

/-- The cells of a site. -/
def sitl (o r ra rb n : Int) (pc a b got : Wd) : List Value := [.int .i64 o, .int .i64 r, .int .i64 ra, .int .i64 rb, .int .i64 n, .int .i64 pc.n, .bool pc.i, .int .i64 pc.b, .int .i64 pc.t, .int .i64 pc.p, .int .i64 pc.s, .int .i64 a.n, .bool a.i, .int .i64 a.b, .int .i64 a.t, .int .i64 a.p, .int .i64 a.s, .int .i64 b.n, .bool b.i, .int .i64 b.b, .int .i64 b.t, .int .i64 b.p, .int .i64 b.s, .int .i64 got.n, .bool got.i, .int .i64 got.b, .int .i64 got.t, .int .i64 got.p, .int .i64 got.s]
theorem sitl_len (o r ra rb n : Int) (pc a b got : Wd) : (sitl o r ra rb n pc a b got).length = 29 := rfl
theorem sizeSite : (Tryz.prog.info? 160).map (·.size) = some 29 := by kernel_rfl

set_option maxHeartbeats 4000000 in
theorem onBy_any (o r ra rb n : Int) (pc a b got : Wd) (m : Int) (w : World) :
    Calls Tryz.prog 185 #[.agg (sitl o r ra rb n pc a b got).toArray, .int .i64 m] w fun e w' => e = .returned (wdV (pntW pc (wrap64 (pc.n + m)))) ∧ Below w.heap.size w w' := by
  have H : Hid (Hold w ((w.alloc (.cells (sitl o r ra rb n pc a b got : List Value).toArray 160)).alloc (.cells ([.int .i64 0, .bool false, .int .i64 0, .int .i64 0, .int .i64 0, .int .i64 0] : List Value).toArray 38)) [celF (w.heap.size + 1) ([.int .i64 0, .bool false, .int .i64 0, .int .i64 0, .int .i64 0, .int .i64 0]), celF (w.heap.size) (sitl o r ra rb n pc a b got)]) := (((Hold.new w).box (sitl o r ra rb n pc a b got : List Value) 160 (w.heap.size) (by simp)).box ([.int .i64 0, .bool false, .int .i64 0, .int .i64 0, .int .i64 0, .int .i64 0] : List Value) 38 (w.heap.size + 1) (by simp))
  obtain ⟨y, Y⟩ : ∃ y, Hid (y = pntW pc (wrap64 (pc.n + m))) := ⟨_, rfl⟩
  have S1 : Hid (∀ w, Calls Tryz.prog 114 #[.agg #[.int .i64 pc.n, .bool pc.i, .int .i64 pc.b, .int .i64 pc.t, .int .i64 pc.p, .int .i64 pc.s], .int .i64 (wrap64 (pc.n + m))] w fun e w' => e = .returned (.agg #[.int .i64 y.n, .bool y.i, .int .i64 y.b, .int .i64 y.t, .int .i64 y.p, .int .i64 y.s]) ∧ Below w.heap.size w w') := by
    rw [Y.out]
    exact fun w => implPoint_any pc.n pc.i pc.b pc.t pc.p pc.s _ w
  rw [← Y.out]
  generalize hw1 : ((w.alloc (.cells (sitl o r ra rb n pc a b got : List Value).toArray 160)).alloc (.cells ([.int .i64 0, .bool false, .int .i64 0, .int .i64 0, .int .i64 0, .int .i64 0] : List Value).toArray 38)) = w1 at H
  go_enter Tryz.func185, Tryz.ntmps185
  go_upto_region 1 with fail
  clear hw1
  have c0 := (H.out.cel (.tail _ (.head _))).c 5 _ rfl
  have c1 := (H.out.cel (.tail _ (.head _))).c 6 _ rfl
  have c2 := (H.out.cel (.tail _ (.head _))).c 7 _ rfl
  have c3 := (H.out.cel (.tail _ (.head _))).c 8 _ rfl
  have c4 := (H.out.cel (.tail _ (.head _))).c 9 _ rfl
  have c5 := (H.out.cel (.tail _ (.head _))).c 10 _ rfl
  obtain ⟨z0, z1, z2, z3, z4, z5⟩ := (H.out.cel (.head _)).c6
  obtain ⟨f0, f1, f2, f3, f4, f5⟩ := (H.out.cel (.head _)).f6
  go_wp2_with (go_at_call 114; refine (S1.out _).mono ?_; rintro e w2 ⟨rfl, hb⟩; refine Hid.out ?_)
  refine Lib.hid ?_
  replace H := hid_mk (H.out.next hb)
  clear hb c0 c1 c2 c3 c4 c5 z0 z1 z2 z3 z4 z5 f0 f1 f2 f3 f4 f5
  obtain ⟨z0, z1, z2, z3, z4, z5⟩ := (H.out.cel (.head _)).c6
  obtain ⟨f0, f1, f2, f3, f4, f5⟩ := (H.out.cel (.head _)).f6
  go_wp2
  refine bodyPost_ret (v := .agg #[.int .i64 y.n, .bool y.i, .int .i64 y.b, .int .i64 y.t, .int .i64 y.p, .int .i64 y.s]) (by simp [results, Tryz.results185, go_sem, z0, z1, z2, z3, z4, z5]) rfl ⟨by rw [Y.out]; rfl, ?_⟩
  exact six_done H.out.bel _ (by omega) _ _ _ _ _ _

set_option maxHeartbeats 4000000 in
theorem pass_any (o r ra rb n : Int) (pc a b got : Wd) (w : World) :
    Calls Tryz.prog 167 #[.agg (sitl o r ra rb n pc a b got).toArray] w fun e w' => e = .returned (.agg (effl ⟨0, -1, wd0, pntW pc (wrap64 (pc.n + 1)), -1, wd0, -1⟩).toArray) ∧ Below w.heap.size w w' := by
  have H : Hid (Hold w ((w.alloc (.cells (sitl o r ra rb n pc a b got : List Value).toArray 160)).alloc (.cells ([.int .i64 0, .int .i64 0, .int .i64 0, .bool false, .int .i64 0, .int .i64 0, .int .i64 0, .int .i64 0, .int .i64 0, .bool false, .int .i64 0, .int .i64 0, .int .i64 0, .int .i64 0, .int .i64 0, .int .i64 0, .bool false, .int .i64 0, .int .i64 0, .int .i64 0, .int .i64 0, .int .i64 0] : List Value).toArray 82)) [celF (w.heap.size + 1) ([.int .i64 0, .int .i64 0, .int .i64 0, .bool false, .int .i64 0, .int .i64 0, .int .i64 0, .int .i64 0, .int .i64 0, .bool false, .int .i64 0, .int .i64 0, .int .i64 0, .int .i64 0, .int .i64 0, .int .i64 0, .bool false, .int .i64 0, .int .i64 0, .int .i64 0, .int .i64 0, .int .i64 0]), celF (w.heap.size) (sitl o r ra rb n pc a b got)]) := (((Hold.new w).box (sitl o r ra rb n pc a b got : List Value) 160 (w.heap.size) (by simp)).box ([.int .i64 0, .int .i64 0, .int .i64 0, .bool false, .int .i64 0, .int .i64 0, .int .i64 0, .int .i64 0, .int .i64 0, .bool false, .int .i64 0, .int .i64 0, .int .i64 0, .int .i64 0, .int .i64 0, .int .i64 0, .bool false, .int .i64 0, .int .i64 0, .int .i64 0, .int .i64 0, .int .i64 0] : List Value) 82 (w.heap.size + 1) (by simp))
  obtain ⟨q, Q⟩ : ∃ y, Hid (y = pntW pc (wrap64 (pc.n + 1))) := ⟨_, rfl⟩
  have S1 : Hid (∀ w, Calls Tryz.prog 185 #[.agg (sitl o r ra rb n pc a b got).toArray, .int .i64 1] w fun e w' => e = .returned (.agg #[.int .i64 q.n, .bool q.i, .int .i64 q.b, .int .i64 q.t, .int .i64 q.p, .int .i64 q.s]) ∧ Below w.heap.size w w') := by
    rw [Q.out]
    exact fun w => onBy_any o r ra rb n pc a b got 1 w
  rw [← Q.out]
  generalize hw1 : ((w.alloc (.cells (sitl o r ra rb n pc a b got : List Value).toArray 160)).alloc (.cells ([.int .i64 0, .int .i64 0, .int .i64 0, .bool false, .int .i64 0, .int .i64 0, .int .i64 0, .int .i64 0, .int .i64 0, .bool false, .int .i64 0, .int .i64 0, .int .i64 0, .int .i64 0, .int .i64 0, .int .i64 0, .bool false, .int .i64 0, .int .i64 0, .int .i64 0, .int .i64 0, .int .i64 0] : List Value).toArray 82)) = w1 at H
  go_enter Tryz.func167, Tryz.ntmps167
  go_upto_region 1 with fail
  clear hw1
  have CS := hid_mk (H.out.cel (.tail _ (.head _)))
  go_wp2_with (first | (refine wpList_load_mid (by rfl) 160 _ (by rfl) (w.heap.size) 0 (by rfl) (sitl o r ra rb n pc a b got) _ CS.out.range Tryz.underlying160 rfl sizeSite ?_) | (go_at_call 185; refine (S1.out _).mono ?_; rintro e w2 ⟨rfl, hb⟩; refine Hid.out ?_))
  refine Lib.hid ?_
  replace H := hid_mk (H.out.next hb)
  clear hb CS
  have CZ := hid_mk (H.out.cel (.head _))
  have C2 := hid_mk (CZ.out.sets (us := effl ⟨0, -1, wd0, q, -1, wd0, -1⟩) rfl)
  have B2 := hid_mk (below_sets (effl ⟨0, -1, wd0, q, -1, wd0, -1⟩) H.out.bel (r := w.heap.size + 1) (by omega))
  have hlv := hid_mk (lv_eff C2.out)
  go_wp2_with (refine wpList_store_mid (by rfl) 82 _ _ (by rfl) (w.heap.size + 1) 0 (effl ⟨0, -1, wd0, q, -1, wd0, -1⟩).toArray (by rfl) (by rfl) CZ.out.there sizeEff (effl_one _) ?_)
  refine bodyPost_ret (v := .agg (effl ⟨0, -1, wd0, q, -1, wd0, -1⟩).toArray) (results_cell1 Tryz.results167 (by rfl) hlv.out) rfl ⟨rfl, B2.out⟩

set_option maxHeartbeats 8000000 in
theorem sets_any (o r ra rb n : Int) (pc a b got : Wd) (v : Wd) (w : World) :
    Calls Tryz.prog 180 #[.agg (sitl o r ra rb n pc a b got).toArray, .agg #[.int .i64 v.n, .bool v.i, .int .i64 v.b, .int .i64 v.t, .int .i64 v.p, .int .i64 v.s]] w fun e w' => e = .returned (.agg (effl ⟨0, r, v, pntW pc (wrap64 (pc.n + 1)), -1, wd0, -1⟩).toArray) ∧ Below w.heap.size w w' := by
  have H : Hid (Hold w (((w.alloc (.cells (sitl o r ra rb n pc a b got : List Value).toArray 160)).alloc (.cells (wl v : List Value).toArray 38)).alloc (.cells ([.int .i64 0, .int .i64 0, .int .i64 0, .bool false, .int .i64 0, .int .i64 0, .int .i64 0, .int .i64 0, .int .i64 0, .bool false, .int .i64 0, .int .i64 0, .int .i64 0, .int .i64 0, .int .i64 0, .int .i64 0, .bool false, .int .i64 0, .int .i64 0, .int .i64 0, .int .i64 0, .int .i64 0] : List Value).toArray 82)) [celF (w.heap.size + 1 + 1) ([.int .i64 0, .int .i64 0, .int .i64 0, .bool false, .int .i64 0, .int .i64 0, .int .i64 0, .int .i64 0, .int .i64 0, .bool false, .int .i64 0, .int .i64 0, .int .i64 0, .int .i64 0, .int .i64 0, .int .i64 0, .bool false, .int .i64 0, .int .i64 0, .int .i64 0, .int .i64 0, .int .i64 0]), celF (w.heap.size + 1) (wl v), celF (w.heap.size) (sitl o r ra rb n pc a b got)]) := ((((Hold.new w).box (sitl o r ra rb n pc a b got : List Value) 160 (w.heap.size) (by simp)).box (wl v : List Value) 38 (w.heap.size + 1) (by simp)).box ([.int .i64 0, .int .i64 0, .int .i64 0, .bool false, .int .i64 0, .int .i64 0, .int .i64 0, .int .i64 0, .int .i64 0, .bool false, .int .i64 0, .int .i64 0, .int .i64 0, .int .i64 0, .int .i64 0, .int .i64 0, .bool false, .int .i64 0, .int .i64 0, .int .i64 0, .int .i64 0, .int .i64 0] : List Value) 82 (w.heap.size + 1 + 1) (by simp))
  obtain ⟨q, Q⟩ : ∃ y, Hid (y = pntW pc (wrap64 (pc.n + 1))) := ⟨_, rfl⟩
  have S1 : Hid (∀ w, Calls Tryz.prog 167 #[.agg (sitl o r ra rb n pc a b got).toArray] w fun e w' => e = .returned (.agg (effl ⟨0, -1, wd0, q, -1, wd0, -1⟩).toArray) ∧ Below w.heap.size w w') := by
    rw [Q.out]
    exact fun w => pass_any o r ra rb n pc a b got w
  rw [← Q.out]
  generalize hw1 : (((w.alloc (.cells (sitl o r ra rb n pc a b got : List Value).toArray 160)).alloc (.cells (wl v : List Value).toArray 38)).alloc (.cells ([.int .i64 0, .int .i64 0, .int .i64 0, .bool false, .int .i64 0, .int .i64 0, .int .i64 0, .int .i64 0, .int .i64 0, .bool false, .int .i64 0, .int .i64 0, .int .i64 0, .int .i64 0, .int .i64 0, .int .i64 0, .bool false, .int .i64 0, .int .i64 0, .int .i64 0, .int .i64 0, .int .i64 0] : List Value).toArray 82)) = w1 at H
  go_enter Tryz.func180, Tryz.ntmps180
  go_upto_region 1 with fail
  clear hw1
  have CS := hid_mk (H.out.cel (.tail _ (.tail _ (.head _))))
  go_wp2_with (first | (refine wpList_load_mid (by rfl) 160 _ (by rfl) (w.heap.size) 0 (by rfl) (sitl o r ra rb n pc a b got) _ CS.out.range Tryz.underlying160 rfl sizeSite ?_) | (go_at_call 167; refine (S1.out _).mono ?_; rintro e w2 ⟨rfl, hb⟩; refine Hid.out ?_))
  refine Lib.hid ?_
  replace H := hid_mk (H.out.next hb)
  have hz2 : w.heap.size + 1 + 1 < w2.heap.size := (H.out.cel (.head _)).lt
  have C0 := hid_mk (Cel.new w2 [.int .i64 0, .int .i64 0, .int .i64 0, .bool false, .int .i64 0, .int .i64 0, .int .i64 0, .int .i64 0, .int .i64 0, .bool false, .int .i64 0, .int .i64 0, .int .i64 0, .int .i64 0, .int .i64 0, .int .i64 0, .bool false, .int .i64 0, .int .i64 0, .int .i64 0, .int .i64 0, .int .i64 0] 82)
  replace H := hid_mk (H.out.box ([.int .i64 0, .int .i64 0, .int .i64 0, .bool false, .int .i64 0, .int .i64 0, .int .i64 0, .int .i64 0, .int .i64 0, .bool false, .int .i64 0, .int .i64 0, .int .i64 0, .int .i64 0, .int .i64 0, .int .i64 0, .bool false, .int .i64 0, .int .i64 0, .int .i64 0, .int .i64 0, .int .i64 0] : List Value) 82 w2.heap.size rfl)
  clear hb CS S1
  go_upto_region 2 with (refine wpList_store_mid (by rfl) 82 _ _ (by rfl) w2.heap.size 0 (effl ⟨0, -1, wd0, q, -1, wd0, -1⟩).toArray (by rfl) (by rfl) C0.out.there sizeEff (effl_one _) ?_)
  clear C0
  generalize w2.alloc (.cells ([.int .i64 0, .int .i64 0, .int .i64 0, .bool false, .int .i64 0, .int .i64 0, .int .i64 0, .int .i64 0, .int .i64 0, .bool false, .int .i64 0, .int .i64 0, .int .i64 0, .int .i64 0, .int .i64 0, .int .i64 0, .bool false, .int .i64 0, .int .i64 0, .int .i64 0, .int .i64 0, .int .i64 0] : List Value).toArray 82) = w2' at H ⊢
  generalize w2.heap.size = re at H hz2 ⊢
  have DD : Hid (∀ f ∈ [celF (w.heap.size + 1 + 1) ([.int .i64 0, .int .i64 0, .int .i64 0, .bool false, .int .i64 0, .int .i64 0, .int .i64 0, .int .i64 0, .int .i64 0, .bool false, .int .i64 0, .int .i64 0, .int .i64 0, .int .i64 0, .int .i64 0, .int .i64 0, .bool false, .int .i64 0, .int .i64 0, .int .i64 0, .int .i64 0, .int .i64 0]), celF (w.heap.size + 1) (wl v), celF (w.heap.size) (sitl o r ra rb n pc a b got)], ∀ k, f.S k → k ≠ re) := fun f hf k hk => by
    simp only [List.mem_cons, List.not_mem_nil, or_false] at hf
    rcases hf with rfl | rfl | rfl
    all_goals
      simp only [celF] at hk
      omega
  replace H : Hid (Hold w (w2'.setCells re 0 (effl ⟨0, -1, wd0, q, -1, wd0, -1⟩)) [celF re [.int .i64 0, .int .i64 (-1), .int .i64 0, .bool false, .int .i64 0, .int .i64 0, .int .i64 0, .int .i64 0, .int .i64 q.n, .bool q.i, .int .i64 q.b, .int .i64 q.t, .int .i64 q.p, .int .i64 q.s, .int .i64 (-1), .int .i64 0, .bool false, .int .i64 0, .int .i64 0, .int .i64 0, .int .i64 0, .int .i64 (-1)], celF (w.heap.size + 1 + 1) ([.int .i64 0, .int .i64 0, .int .i64 0, .bool false, .int .i64 0, .int .i64 0, .int .i64 0, .int .i64 0, .int .i64 0, .bool false, .int .i64 0, .int .i64 0, .int .i64 0, .int .i64 0, .int .i64 0, .int .i64 0, .bool false, .int .i64 0, .int .i64 0, .int .i64 0, .int .i64 0, .int .i64 0]), celF (w.heap.size + 1) (wl v), celF (w.heap.size) (sitl o r ra rb n pc a b got)]) := H.out.sets (effl ⟨0, -1, wd0, q, -1, wd0, -1⟩) (by omega) DD.out rfl
  generalize hw3 : w2'.setCells re 0 _ = w3 at H ⊢
  clear hw3
  have c1 := (H.out.cel (.tail _ (.tail _ (.tail _ (.head _))))).c 1 _ rfl
  obtain ⟨v0, v1, v2, v3, v4, v5⟩ := (H.out.cel (.tail _ (.tail _ (.head _)))).c6
  have e1 := (H.out.cel (.head _)).c 1 _ rfl
  have g1 := (H.out.cel (.head _)).f 1 (by simp)
  have e2 := (H.out.cel (.head _)).c 2 _ rfl
  have g2 := (H.out.cel (.head _)).f 2 (by simp)
  have e3 := (H.out.cel (.head _)).c 3 _ rfl
  have g3 := (H.out.cel (.head _)).f 3 (by simp)
  have e4 := (H.out.cel (.head _)).c 4 _ rfl
  have g4 := (H.out.cel (.head _)).f 4 (by simp)
  have e5 := (H.out.cel (.head _)).c 5 _ rfl
  have g5 := (H.out.cel (.head _)).f 5 (by simp)
  have e6 := (H.out.cel (.head _)).c 6 _ rfl
  have g6 := (H.out.cel (.head _)).f 6 (by simp)
  have e7 := (H.out.cel (.head _)).c 7 _ rfl
  have g7 := (H.out.cel (.head _)).f 7 (by simp)
  go_region
  all_goals
    go_upto_region 3 with fail
    replace H : Hid (Hold w (((((((w3.setCell ⟨re, 1, none⟩ (.int .i64 r)).setCell ⟨re, 2, none⟩ (.int .i64 v.n)).setCell ⟨re, 3, none⟩ (.bool v.i)).setCell ⟨re, 4, none⟩ (.int .i64 v.b)).setCell ⟨re, 5, none⟩ (.int .i64 v.t)).setCell ⟨re, 6, none⟩ (.int .i64 v.p)).setCell ⟨re, 7, none⟩ (.int .i64 v.s)).drew [celF re [.int .i64 0, .int .i64 r, .int .i64 v.n, .bool v.i, .int .i64 v.b, .int .i64 v.t, .int .i64 v.p, .int .i64 v.s, .int .i64 q.n, .bool q.i, .int .i64 q.b, .int .i64 q.t, .int .i64 q.p, .int .i64 q.s, .int .i64 (-1), .int .i64 0, .bool false, .int .i64 0, .int .i64 0, .int .i64 0, .int .i64 0, .int .i64 (-1)], celF (w.heap.size + 1 + 1) ([.int .i64 0, .int .i64 0, .int .i64 0, .bool false, .int .i64 0, .int .i64 0, .int .i64 0, .int .i64 0, .int .i64 0, .bool false, .int .i64 0, .int .i64 0, .int .i64 0, .int .i64 0, .int .i64 0, .int .i64 0, .bool false, .int .i64 0, .int .i64 0, .int .i64 0, .int .i64 0, .int .i64 0]), celF (w.heap.size + 1) (wl v), celF (w.heap.size) (sitl o r ra rb n pc a b got)]) := ((((((((H.out.setd (by omega) DD.out 1 (.int .i64 r)).setd (by omega) DD.out 2 (.int .i64 v.n)).setd (by omega) DD.out 3 (.bool v.i)).setd (by omega) DD.out 4 (.int .i64 v.b)).setd (by omega) DD.out 5 (.int .i64 v.t)).setd (by omega) DD.out 6 (.int .i64 v.p)).setd (by omega) DD.out 7 (.int .i64 v.s))).drew
    generalize (((((((w3.setCell ⟨re, 1, none⟩ (.int .i64 r)).setCell ⟨re, 2, none⟩ (.int .i64 v.n)).setCell ⟨re, 3, none⟩ (.bool v.i)).setCell ⟨re, 4, none⟩ (.int .i64 v.b)).setCell ⟨re, 5, none⟩ (.int .i64 v.t)).setCell ⟨re, 6, none⟩ (.int .i64 v.p)).setCell ⟨re, 7, none⟩ (.int .i64 v.s)).drew = w4 at H ⊢
    clear c1 v0 v1 v2 v3 v4 v5 e1 g1 e2 g2 e3 g3 e4 g4 e5 g5 e6 g6 e7 g7
    have CE : Hid (Cel _ re (effl ⟨0, r, v, q, -1, wd0, -1⟩)) := H.out.cel (.head _)
    have CZ := hid_mk (H.out.cel (.tail _ (.head _)))
    have C2 := hid_mk (CZ.out.sets (us := effl ⟨0, r, v, q, -1, wd0, -1⟩) rfl)
    have B2 := hid_mk (below_sets (effl ⟨0, r, v, q, -1, wd0, -1⟩) H.out.bel (r := w.heap.size + 1 + 1) (by omega))
    have hlv := hid_mk (lv_eff C2.out)
    go_wp2_with (first | (refine wpList_load_mid (by rfl) 82 _ (by rfl) re 0 (by rfl) (effl ⟨0, r, v, q, -1, wd0, -1⟩) _ CE.out.range Tryz.underlying82 rfl sizeEff ?_) | (refine wpList_store_mid (by rfl) 82 _ _ (by rfl) (w.heap.size + 1 + 1) 0 (effl ⟨0, r, v, q, -1, wd0, -1⟩).toArray (by rfl) (by rfl) CZ.out.there sizeEff (effl_one _) ?_))
    refine bodyPost_ret (v := .agg (effl ⟨0, r, v, q, -1, wd0, -1⟩).toArray) (results_cell1 Tryz.results180 (by rfl) hlv.out) rfl ⟨rfl, B2.out⟩

end Go.Proofs.YtpkhnajhamnggaaGreatDoor

namespace Go.Proofs.YtpkhnajhamnggaaGreatDoor
open Go.ChangeShapes Go.WideShapes Go.ChangeAt Go.RowKit
set_option maxRecDepth 100000

/-- An answer's block, whatever it holds. -/
def resF (r : Nat) : Fct where
  S := fun k => k = r
  p := fun w => ∃ vs : List Value, vs.length = 22 ∧ Cel w r vs
  keep := fun _ _ ⟨vs, hl, h⟩ hs hb => ⟨vs, hl, h.ofBlock hs (hb r h.lt rfl)⟩
theorem Hold.res {w0 w : World} {fs : List Fct} (h : Hold w0 w fs) {r : Nat} (hm : resF r ∈ fs) : ∃ vs : List Value, vs.length = 22 ∧ Cel w r vs := h.at hm
theorem Hold.sets_res {w0 w : World} {fs : List Fct} {r : Nat} (us : List Value) (h : Hold w0 w (resF r :: fs)) (h0 : w0.heap.size ≤ r) (hd : ∀ f ∈ fs, ∀ k, f.S k → k ≠ r) (hl : us.length = 22) : Hold w0 (w.setCells r 0 us) (resF r :: fs) := by
  have kb : ∀ (us : List Value) (o : Nat) (w : World), KeepBut r w (w.setCells r o us) := fun us => by
    induction us with
    | nil => intro o w; exact KeepBut.refl _ _
    | cons u us ih => intro o w; rw [World.setCells]; exact ((KeepBut.refl r w).setCell o u).trans (ih _ _)
  obtain ⟨vs, hv, hC⟩ := h.res (.head _)
  exact ((h.tail).wrote (T := fun k => k = r) (KeptS.ofBut (kb us 0 w) rfl) (fun k e => by omega) hd).push (resF r) ⟨us, hl, hC.sets (by rw [hl, hv])⟩

set_option maxHeartbeats 8000000 in
theorem site_set (o r ra rb n : Int) (pc a b got : Wd) (w : World) :
    Calls Tryz.prog 152 #[.agg (sitl o r ra rb n pc a b got).toArray] w fun e w' => e = .returned (.agg (effl ⟨0, r, plnW n, pntW pc (wrap64 (pc.n + 1)), -1, wd0, -1⟩).toArray) ∧ Below w.heap.size w w' := by
  have H0 : Hid (Hold w ((w.alloc (.cells (sitl o r ra rb n pc a b got : List Value).toArray 160)).alloc (.cells ([.int .i64 0, .int .i64 0, .int .i64 0, .bool false, .int .i64 0, .int .i64 0, .int .i64 0, .int .i64 0, .int .i64 0, .bool false, .int .i64 0, .int .i64 0, .int .i64 0, .int .i64 0, .int .i64 0, .int .i64 0, .bool false, .int .i64 0, .int .i64 0, .int .i64 0, .int .i64 0, .int .i64 0] : List Value).toArray 82)) [celF (w.heap.size + 1) ([.int .i64 0, .int .i64 0, .int .i64 0, .bool false, .int .i64 0, .int .i64 0, .int .i64 0, .int .i64 0, .int .i64 0, .bool false, .int .i64 0, .int .i64 0, .int .i64 0, .int .i64 0, .int .i64 0, .int .i64 0, .bool false, .int .i64 0, .int .i64 0, .int .i64 0, .int .i64 0, .int .i64 0]), celF (w.heap.size) (sitl o r ra rb n pc a b got)]) := (((Hold.new w).box (sitl o r ra rb n pc a b got : List Value) 160 (w.heap.size) (by simp)).box ([.int .i64 0, .int .i64 0, .int .i64 0, .bool false, .int .i64 0, .int .i64 0, .int .i64 0, .int .i64 0, .int .i64 0, .bool false, .int .i64 0, .int .i64 0, .int .i64 0, .int .i64 0, .int .i64 0, .int .i64 0, .bool false, .int .i64 0, .int .i64 0, .int .i64 0, .int .i64 0, .int .i64 0] : List Value) 82 (w.heap.size + 1) (by simp))
  obtain ⟨q, Q⟩ : ∃ y, Hid (y = pntW pc (wrap64 (pc.n + 1))) := ⟨_, rfl⟩
  obtain ⟨y, Y⟩ : ∃ y, Hid (y = plnW n) := ⟨_, rfl⟩
  rw [← Q.out, ← Y.out]
  have S2 : Hid (∀ w, Calls Tryz.prog 180 #[.agg (sitl o r ra rb n pc a b got).toArray, .agg #[.int .i64 y.n, .bool y.i, .int .i64 y.b, .int .i64 y.t, .int .i64 y.p, .int .i64 y.s]] w fun e w' => e = .returned (.agg (effl ⟨0, r, y, q, -1, wd0, -1⟩).toArray) ∧ Below w.heap.size w w') := by
    rw [Q.out]
    exact fun w => sets_any o r ra rb n pc a b got y w
  have S1 : Hid (∀ w, Calls Tryz.prog 142 #[.int .i64 n] w fun e w' => e = .returned (.agg #[.int .i64 y.n, .bool y.i, .int .i64 y.b, .int .i64 y.t, .int .i64 y.p, .int .i64 y.s]) ∧ Below w.heap.size w w') := by
    rw [Y.out]
    exact fun w => implPlain_any n w
  generalize hw1 : ((w.alloc (.cells (sitl o r ra rb n pc a b got : List Value).toArray 160)).alloc (.cells ([.int .i64 0, .int .i64 0, .int .i64 0, .bool false, .int .i64 0, .int .i64 0, .int .i64 0, .int .i64 0, .int .i64 0, .bool false, .int .i64 0, .int .i64 0, .int .i64 0, .int .i64 0, .int .i64 0, .int .i64 0, .bool false, .int .i64 0, .int .i64 0, .int .i64 0, .int .i64 0, .int .i64 0] : List Value).toArray 82)) = w1 at H0
  go_enter Tryz.func152, Tryz.ntmps152
  go_upto_region 1 with fail
  clear hw1
  have H := hid_mk (H0.out.tail.push (resF (w.heap.size + 1)) ⟨_, rfl, H0.out.cel (.head _)⟩)
  have RZ : Hid (∀ (us : List Value) (w1 : World), us.length = 22 → Hold w w1 [resF (w.heap.size + 1), celF w.heap.size (sitl o r ra rb n pc a b got)] → Hold w (w1.setCells (w.heap.size + 1) 0 us) [resF (w.heap.size + 1), celF w.heap.size (sitl o r ra rb n pc a b got)]) := fun us w1 hl h => h.sets_res us (by omega) (fun f hf k hk => by
    simp only [List.mem_cons, List.not_mem_nil, or_false] at hf
    subst hf
    simp only [celF] at hk
    omega) hl
  clear H0 Q Y
  have D0 := hid_mk H.out.drew
  refine wp_region_held_drew (S := fun w' => Hold w w' [resF (w.heap.size + 1), celF w.heap.size (sitl o r ra rb n pc a b got)]) (by kernel_rfl) D0.out (fun hHeld => ?_)
  refine take_on (i := 0) (d := 3) (v := .agg (sitl o r ra rb n pc a b got).toArray) rfl rfl (by kernel_rfl) (by kernel_rfl) (by kernel_rfl) (fun _ _ _ h => h) (by rfl) ?_ hHeld ?_
  · exact fun w' hSw => exec_ldm (by rfl) (by rfl) ((show Hold w w' [resF (w.heap.size + 1), celF w.heap.size (sitl o r ra rb n pc a b got)] from hSw).cel (.tail _ (.head _))).range Tryz.underlying160 rfl sizeSite
  simp only [Act.put, List.setIfInBounds_toArray, List.set_cons_zero, List.set_cons_succ]
  refine take_on (i := 1) (d := 4) (v := .pointer (some ⟨w.heap.size, 0, none⟩)) rfl rfl (by kernel_rfl) (by kernel_rfl) (by kernel_rfl) (fun _ _ _ h => h) (by rfl) ?_ hHeld ?_
  · (intro w' hSw; go_simp)
  simp only [Act.put, List.setIfInBounds_toArray, List.set_cons_zero, List.set_cons_succ]
  refine take_on (i := 2) (d := 5) (v := .pointer (some ⟨w.heap.size, 4, none⟩)) rfl rfl (by kernel_rfl) (by kernel_rfl) (by kernel_rfl) (fun _ _ _ h => h) (by rfl) ?_ hHeld ?_
  · (intro w' hSw; go_simp)
  simp only [Act.put, List.setIfInBounds_toArray, List.set_cons_zero, List.set_cons_succ]
  refine take_on (i := 3) (d := 6) (v := .int .i64 n) rfl rfl (by kernel_rfl) (by kernel_rfl) (by kernel_rfl) (fun _ _ _ h => h) (by rfl) ?_ hHeld ?_
  · (intro w' hSw; have hSx : Hold w w' [resF (w.heap.size + 1), celF w.heap.size (sitl o r ra rb n pc a b got)] := hSw; have c0 := (hSx.cel (.tail _ (.head _))).c 4 _ rfl; go_simp)
  simp only [Act.put, List.setIfInBounds_toArray, List.set_cons_zero, List.set_cons_succ]
  refine wpAnyH_ready (rs := [4]) (by kernel_rfl) (by simp) ?_
  refine AllReadyH.cons rfl (fun K hK => ?_) AllReadyH.nil
  go_simp
  refine (S1.out _).mono ?_
  rintro e w5 ⟨rfl, hb⟩
  have H1 := hid_mk (D0.out.next hb)
  clear hb
  refine hK.out _ _ H1.out (fun hHeld => ?_)
  clear hK K
  try simp only [Act.put, List.setIfInBounds_toArray, List.set_cons_zero, List.set_cons_succ]
  refine wpAnyH_ready (rs := [5]) (by kernel_rfl) (by simp) ?_
  refine AllReadyH.cons rfl (fun K hK => ?_) AllReadyH.nil
  go_simp
  refine (S2.out _).mono ?_
  rintro e w6 ⟨rfl, hb⟩
  have H2 := hid_mk (H1.out.next hb)
  clear hb
  obtain ⟨vs, hvl, CZ⟩ := H2.out.res (.head _)
  have TH := hid_mk (by have h := CZ.there; rw [hvl] at h; exact h)
  have hlv := hid_mk (lv_eff (CZ.sets (us := effl ⟨0, r, y, q, -1, wd0, -1⟩) (by rw [hvl]; rfl)))
  have B2 := hid_mk (below_sets (effl ⟨0, r, y, q, -1, wd0, -1⟩) H2.out.bel (r := w.heap.size + 1) (by omega))
  clear CZ
  refine hK.out _ _ H2.out (fun hHeld => ?_)
  clear hK K
  try simp only [Act.put, List.setIfInBounds_toArray, List.set_cons_zero, List.set_cons_succ]
  refine wpAnyH_ready (rs := [6]) (by kernel_rfl) (by simp) ?_
  refine AllReadyH.cons rfl (fun K hK => ?_) AllReadyH.nil
  refine step_stm (by rfl) 82 _ _ (by rfl) (w.heap.size + 1) 0 (effl ⟨0, r, y, q, -1, wd0, -1⟩).toArray (by rfl) (by rfl) TH.out sizeEff (effl_one _) ?_
  refine hK.out _ _ (RZ.out (effl ⟨0, r, y, q, -1, wd0, -1⟩) _ rfl H2.out) (fun hHeld => ?_)
  clear hK K
  refine wpAnyH_done (by kernel_rfl) ?_ _
  go_wp2
  refine bodyPost_ret (v := .agg (effl ⟨0, r, y, q, -1, wd0, -1⟩).toArray) (results_cell1 Tryz.results152 (by rfl) hlv.out) rfl ⟨rfl, B2.out⟩

set_option maxHeartbeats 8000000 in
theorem site_add (o r ra rb n : Int) (pc a b got : Wd) (w : World) :
    Calls Tryz.prog 153 #[.agg (sitl o r ra rb n pc a b got).toArray] w fun e w' => e = .returned (.agg (effl ⟨0, r, plnW (wrap64 (a.n + b.n)), pntW pc (wrap64 (pc.n + 1)), -1, wd0, -1⟩).toArray) ∧ Below w.heap.size w w' := by
  have H0 : Hid (Hold w ((w.alloc (.cells (sitl o r ra rb n pc a b got : List Value).toArray 160)).alloc (.cells ([.int .i64 0, .int .i64 0, .int .i64 0, .bool false, .int .i64 0, .int .i64 0, .int .i64 0, .int .i64 0, .int .i64 0, .bool false, .int .i64 0, .int .i64 0, .int .i64 0, .int .i64 0, .int .i64 0, .int .i64 0, .bool false, .int .i64 0, .int .i64 0, .int .i64 0, .int .i64 0, .int .i64 0] : List Value).toArray 82)) [celF (w.heap.size + 1) ([.int .i64 0, .int .i64 0, .int .i64 0, .bool false, .int .i64 0, .int .i64 0, .int .i64 0, .int .i64 0, .int .i64 0, .bool false, .int .i64 0, .int .i64 0, .int .i64 0, .int .i64 0, .int .i64 0, .int .i64 0, .bool false, .int .i64 0, .int .i64 0, .int .i64 0, .int .i64 0, .int .i64 0]), celF (w.heap.size) (sitl o r ra rb n pc a b got)]) := (((Hold.new w).box (sitl o r ra rb n pc a b got : List Value) 160 (w.heap.size) (by simp)).box ([.int .i64 0, .int .i64 0, .int .i64 0, .bool false, .int .i64 0, .int .i64 0, .int .i64 0, .int .i64 0, .int .i64 0, .bool false, .int .i64 0, .int .i64 0, .int .i64 0, .int .i64 0, .int .i64 0, .int .i64 0, .bool false, .int .i64 0, .int .i64 0, .int .i64 0, .int .i64 0, .int .i64 0] : List Value) 82 (w.heap.size + 1) (by simp))
  obtain ⟨q, Q⟩ : ∃ y, Hid (y = pntW pc (wrap64 (pc.n + 1))) := ⟨_, rfl⟩
  obtain ⟨y, Y⟩ : ∃ y, Hid (y = plnW (wrap64 (a.n + b.n))) := ⟨_, rfl⟩
  rw [← Q.out, ← Y.out]
  have S2 : Hid (∀ w, Calls Tryz.prog 180 #[.agg (sitl o r ra rb n pc a b got).toArray, .agg #[.int .i64 y.n, .bool y.i, .int .i64 y.b, .int .i64 y.t, .int .i64 y.p, .int .i64 y.s]] w fun e w' => e = .returned (.agg (effl ⟨0, r, y, q, -1, wd0, -1⟩).toArray) ∧ Below w.heap.size w w') := by
    rw [Q.out]
    exact fun w => sets_any o r ra rb n pc a b got y w
  have S1 : Hid (∀ w, Calls Tryz.prog 142 #[.int .i64 (wrap64 (a.n + b.n))] w fun e w' => e = .returned (.agg #[.int .i64 y.n, .bool y.i, .int .i64 y.b, .int .i64 y.t, .int .i64 y.p, .int .i64 y.s]) ∧ Below w.heap.size w w') := by
    rw [Y.out]
    exact fun w => implPlain_any (wrap64 (a.n + b.n)) w
  generalize hw1 : ((w.alloc (.cells (sitl o r ra rb n pc a b got : List Value).toArray 160)).alloc (.cells ([.int .i64 0, .int .i64 0, .int .i64 0, .bool false, .int .i64 0, .int .i64 0, .int .i64 0, .int .i64 0, .int .i64 0, .bool false, .int .i64 0, .int .i64 0, .int .i64 0, .int .i64 0, .int .i64 0, .int .i64 0, .bool false, .int .i64 0, .int .i64 0, .int .i64 0, .int .i64 0, .int .i64 0] : List Value).toArray 82)) = w1 at H0
  go_enter Tryz.func153, Tryz.ntmps153
  go_upto_region 1 with fail
  clear hw1
  have H := hid_mk (H0.out.tail.push (resF (w.heap.size + 1)) ⟨_, rfl, H0.out.cel (.head _)⟩)
  have RZ : Hid (∀ (us : List Value) (w1 : World), us.length = 22 → Hold w w1 [resF (w.heap.size + 1), celF w.heap.size (sitl o r ra rb n pc a b got)] → Hold w (w1.setCells (w.heap.size + 1) 0 us) [resF (w.heap.size + 1), celF w.heap.size (sitl o r ra rb n pc a b got)]) := fun us w1 hl h => h.sets_res us (by omega) (fun f hf k hk => by
    simp only [List.mem_cons, List.not_mem_nil, or_false] at hf
    subst hf
    simp only [celF] at hk
    omega) hl
  clear H0 Q Y
  have D0 := hid_mk H.out.drew
  refine wp_region_held_drew (S := fun w' => Hold w w' [resF (w.heap.size + 1), celF w.heap.size (sitl o r ra rb n pc a b got)]) (by kernel_rfl) D0.out (fun hHeld => ?_)
  refine take_on (i := 0) (d := 3) (v := .agg (sitl o r ra rb n pc a b got).toArray) rfl rfl (by kernel_rfl) (by kernel_rfl) (by kernel_rfl) (fun _ _ _ h => h) (by rfl) ?_ hHeld ?_
  · exact fun w' hSw => exec_ldm (by rfl) (by rfl) ((show Hold w w' [resF (w.heap.size + 1), celF w.heap.size (sitl o r ra rb n pc a b got)] from hSw).cel (.tail _ (.head _))).range Tryz.underlying160 rfl sizeSite
  simp only [Act.put, List.setIfInBounds_toArray, List.set_cons_zero, List.set_cons_succ]
  refine take_on (i := 1) (d := 4) (v := .pointer (some ⟨w.heap.size, 11, none⟩)) rfl rfl (by kernel_rfl) (by kernel_rfl) (by kernel_rfl) (fun _ _ _ h => h) (by rfl) ?_ hHeld ?_
  · (intro w' hSw; go_simp)
  simp only [Act.put, List.setIfInBounds_toArray, List.set_cons_zero, List.set_cons_succ]
  refine take_on (i := 2) (d := 5) (v := .pointer (some ⟨w.heap.size, 11, none⟩)) rfl rfl (by kernel_rfl) (by kernel_rfl) (by kernel_rfl) (fun _ _ _ h => h) (by rfl) ?_ hHeld ?_
  · (intro w' hSw; go_simp)
  simp only [Act.put, List.setIfInBounds_toArray, List.set_cons_zero, List.set_cons_succ]
  refine take_on (i := 3) (d := 6) (v := .int .i64 a.n) rfl rfl (by kernel_rfl) (by kernel_rfl) (by kernel_rfl) (fun _ _ _ h => h) (by rfl) ?_ hHeld ?_
  · (intro w' hSw; have hSx : Hold w w' [resF (w.heap.size + 1), celF w.heap.size (sitl o r ra rb n pc a b got)] := hSw; have c0 := (hSx.cel (.tail _ (.head _))).c 11 _ rfl; go_simp)
  simp only [Act.put, List.setIfInBounds_toArray, List.set_cons_zero, List.set_cons_succ]
  refine take_on (i := 4) (d := 7) (v := .pointer (some ⟨w.heap.size, 17, none⟩)) rfl rfl (by kernel_rfl) (by kernel_rfl) (by kernel_rfl) (fun _ _ _ h => h) (by rfl) ?_ hHeld ?_
  · (intro w' hSw; go_simp)
  simp only [Act.put, List.setIfInBounds_toArray, List.set_cons_zero, List.set_cons_succ]
  refine take_on (i := 5) (d := 8) (v := .pointer (some ⟨w.heap.size, 17, none⟩)) rfl rfl (by kernel_rfl) (by kernel_rfl) (by kernel_rfl) (fun _ _ _ h => h) (by rfl) ?_ hHeld ?_
  · (intro w' hSw; go_simp)
  simp only [Act.put, List.setIfInBounds_toArray, List.set_cons_zero, List.set_cons_succ]
  refine take_on (i := 6) (d := 9) (v := .int .i64 b.n) rfl rfl (by kernel_rfl) (by kernel_rfl) (by kernel_rfl) (fun _ _ _ h => h) (by rfl) ?_ hHeld ?_
  · (intro w' hSw; have hSx : Hold w w' [resF (w.heap.size + 1), celF w.heap.size (sitl o r ra rb n pc a b got)] := hSw; have c0 := (hSx.cel (.tail _ (.head _))).c 17 _ rfl; go_simp)
  simp only [Act.put, List.setIfInBounds_toArray, List.set_cons_zero, List.set_cons_succ]
  refine take_on (i := 7) (d := 10) (v := .int .i64 (wrap64 (a.n + b.n))) rfl rfl (by kernel_rfl) (by kernel_rfl) (by kernel_rfl) (fun _ _ _ h => h) (by rfl) ?_ hHeld ?_
  · (intro w' hSw; go_simp; first | rfl | simp [wrap64, IntKind.wrap_i64])
  simp only [Act.put, List.setIfInBounds_toArray, List.set_cons_zero, List.set_cons_succ]
  refine wpAnyH_ready (rs := [8]) (by kernel_rfl) (by simp) ?_
  refine AllReadyH.cons rfl (fun K hK => ?_) AllReadyH.nil
  go_simp
  refine (S1.out _).mono ?_
  rintro e w5 ⟨rfl, hb⟩
  have H1 := hid_mk (D0.out.next hb)
  clear hb
  refine hK.out _ _ H1.out (fun hHeld => ?_)
  clear hK K
  try simp only [Act.put, List.setIfInBounds_toArray, List.set_cons_zero, List.set_cons_succ]
  refine wpAnyH_ready (rs := [9]) (by kernel_rfl) (by simp) ?_
  refine AllReadyH.cons rfl (fun K hK => ?_) AllReadyH.nil
  go_simp
  refine (S2.out _).mono ?_
  rintro e w6 ⟨rfl, hb⟩
  have H2 := hid_mk (H1.out.next hb)
  clear hb
  obtain ⟨vs, hvl, CZ⟩ := H2.out.res (.head _)
  have TH := hid_mk (by have h := CZ.there; rw [hvl] at h; exact h)
  have hlv := hid_mk (lv_eff (CZ.sets (us := effl ⟨0, r, y, q, -1, wd0, -1⟩) (by rw [hvl]; rfl)))
  have B2 := hid_mk (below_sets (effl ⟨0, r, y, q, -1, wd0, -1⟩) H2.out.bel (r := w.heap.size + 1) (by omega))
  clear CZ
  refine hK.out _ _ H2.out (fun hHeld => ?_)
  clear hK K
  try simp only [Act.put, List.setIfInBounds_toArray, List.set_cons_zero, List.set_cons_succ]
  refine wpAnyH_ready (rs := [10]) (by kernel_rfl) (by simp) ?_
  refine AllReadyH.cons rfl (fun K hK => ?_) AllReadyH.nil
  refine step_stm (by rfl) 82 _ _ (by rfl) (w.heap.size + 1) 0 (effl ⟨0, r, y, q, -1, wd0, -1⟩).toArray (by rfl) (by rfl) TH.out sizeEff (effl_one _) ?_
  refine hK.out _ _ (RZ.out (effl ⟨0, r, y, q, -1, wd0, -1⟩) _ rfl H2.out) (fun hHeld => ?_)
  clear hK K
  refine wpAnyH_done (by kernel_rfl) ?_ _
  go_wp2
  refine bodyPost_ret (v := .agg (effl ⟨0, r, y, q, -1, wd0, -1⟩).toArray) (results_cell1 Tryz.results153 (by rfl) hlv.out) rfl ⟨rfl, B2.out⟩

set_option maxHeartbeats 8000000 in
theorem site_weak (o r ra rb n : Int) (pc a b got : Wd) (w : World) :
    Calls Tryz.prog 155 #[.agg (sitl o r ra rb n pc a b got).toArray] w fun e w' => e = .returned (.agg (effl ⟨0, r, weaW a b.n, pntW pc (wrap64 (pc.n + 1)), -1, wd0, -1⟩).toArray) ∧ Below w.heap.size w w' := by
  have H0 : Hid (Hold w ((w.alloc (.cells (sitl o r ra rb n pc a b got : List Value).toArray 160)).alloc (.cells ([.int .i64 0, .int .i64 0, .int .i64 0, .bool false, .int .i64 0, .int .i64 0, .int .i64 0, .int .i64 0, .int .i64 0, .bool false, .int .i64 0, .int .i64 0, .int .i64 0, .int .i64 0, .int .i64 0, .int .i64 0, .bool false, .int .i64 0, .int .i64 0, .int .i64 0, .int .i64 0, .int .i64 0] : List Value).toArray 82)) [celF (w.heap.size + 1) ([.int .i64 0, .int .i64 0, .int .i64 0, .bool false, .int .i64 0, .int .i64 0, .int .i64 0, .int .i64 0, .int .i64 0, .bool false, .int .i64 0, .int .i64 0, .int .i64 0, .int .i64 0, .int .i64 0, .int .i64 0, .bool false, .int .i64 0, .int .i64 0, .int .i64 0, .int .i64 0, .int .i64 0]), celF (w.heap.size) (sitl o r ra rb n pc a b got)]) := (((Hold.new w).box (sitl o r ra rb n pc a b got : List Value) 160 (w.heap.size) (by simp)).box ([.int .i64 0, .int .i64 0, .int .i64 0, .bool false, .int .i64 0, .int .i64 0, .int .i64 0, .int .i64 0, .int .i64 0, .bool false, .int .i64 0, .int .i64 0, .int .i64 0, .int .i64 0, .int .i64 0, .int .i64 0, .bool false, .int .i64 0, .int .i64 0, .int .i64 0, .int .i64 0, .int .i64 0] : List Value) 82 (w.heap.size + 1) (by simp))
  obtain ⟨q, Q⟩ : ∃ y, Hid (y = pntW pc (wrap64 (pc.n + 1))) := ⟨_, rfl⟩
  obtain ⟨y, Y⟩ : ∃ y, Hid (y = weaW a b.n) := ⟨_, rfl⟩
  rw [← Q.out, ← Y.out]
  have S2 : Hid (∀ w, Calls Tryz.prog 180 #[.agg (sitl o r ra rb n pc a b got).toArray, .agg #[.int .i64 y.n, .bool y.i, .int .i64 y.b, .int .i64 y.t, .int .i64 y.p, .int .i64 y.s]] w fun e w' => e = .returned (.agg (effl ⟨0, r, y, q, -1, wd0, -1⟩).toArray) ∧ Below w.heap.size w w') := by
    rw [Q.out]
    exact fun w => sets_any o r ra rb n pc a b got y w
  have S1 : Hid (∀ w, Calls Tryz.prog 181 #[.agg #[.int .i64 a.n, .bool a.i, .int .i64 a.b, .int .i64 a.t, .int .i64 a.p, .int .i64 a.s], .int .i64 b.n] w fun e w' => e = .returned (.agg #[.int .i64 y.n, .bool y.i, .int .i64 y.b, .int .i64 y.t, .int .i64 y.p, .int .i64 y.s]) ∧ Below w.heap.size w w') := by
    rw [Y.out]
    exact fun w => implWeaken_any a.n a.i a.b a.t a.p a.s b.n w
  generalize hw1 : ((w.alloc (.cells (sitl o r ra rb n pc a b got : List Value).toArray 160)).alloc (.cells ([.int .i64 0, .int .i64 0, .int .i64 0, .bool false, .int .i64 0, .int .i64 0, .int .i64 0, .int .i64 0, .int .i64 0, .bool false, .int .i64 0, .int .i64 0, .int .i64 0, .int .i64 0, .int .i64 0, .int .i64 0, .bool false, .int .i64 0, .int .i64 0, .int .i64 0, .int .i64 0, .int .i64 0] : List Value).toArray 82)) = w1 at H0
  go_enter Tryz.func155, Tryz.ntmps155
  go_upto_region 1 with fail
  clear hw1
  have H := hid_mk (H0.out.tail.push (resF (w.heap.size + 1)) ⟨_, rfl, H0.out.cel (.head _)⟩)
  have RZ : Hid (∀ (us : List Value) (w1 : World), us.length = 22 → Hold w w1 [resF (w.heap.size + 1), celF w.heap.size (sitl o r ra rb n pc a b got)] → Hold w (w1.setCells (w.heap.size + 1) 0 us) [resF (w.heap.size + 1), celF w.heap.size (sitl o r ra rb n pc a b got)]) := fun us w1 hl h => h.sets_res us (by omega) (fun f hf k hk => by
    simp only [List.mem_cons, List.not_mem_nil, or_false] at hf
    subst hf
    simp only [celF] at hk
    omega) hl
  clear H0 Q Y
  have D0 := hid_mk H.out.drew
  refine wp_region_held_drew (S := fun w' => Hold w w' [resF (w.heap.size + 1), celF w.heap.size (sitl o r ra rb n pc a b got)]) (by kernel_rfl) D0.out (fun hHeld => ?_)
  refine take_on (i := 0) (d := 3) (v := .agg (sitl o r ra rb n pc a b got).toArray) rfl rfl (by kernel_rfl) (by kernel_rfl) (by kernel_rfl) (fun _ _ _ h => h) (by rfl) ?_ hHeld ?_
  · exact fun w' hSw => exec_ldm (by rfl) (by rfl) ((show Hold w w' [resF (w.heap.size + 1), celF w.heap.size (sitl o r ra rb n pc a b got)] from hSw).cel (.tail _ (.head _))).range Tryz.underlying160 rfl sizeSite
  simp only [Act.put, List.setIfInBounds_toArray, List.set_cons_zero, List.set_cons_succ]
  refine take_on (i := 1) (d := 4) (v := .pointer (some ⟨w.heap.size, 11, none⟩)) rfl rfl (by kernel_rfl) (by kernel_rfl) (by kernel_rfl) (fun _ _ _ h => h) (by rfl) ?_ hHeld ?_
  · (intro w' hSw; go_simp)
  simp only [Act.put, List.setIfInBounds_toArray, List.set_cons_zero, List.set_cons_succ]
  refine take_on (i := 2) (d := 5) (v := .agg #[.int .i64 a.n, .bool a.i, .int .i64 a.b, .int .i64 a.t, .int .i64 a.p, .int .i64 a.s]) rfl rfl (by kernel_rfl) (by kernel_rfl) (by kernel_rfl) (fun _ _ _ h => h) (by rfl) ?_ hHeld ?_
  · (intro w' hSw; have hSx : Hold w w' [resF (w.heap.size + 1), celF w.heap.size (sitl o r ra rb n pc a b got)] := hSw; have c0 := (hSx.cel (.tail _ (.head _))).c 11 _ rfl; have c1 := (hSx.cel (.tail _ (.head _))).c 12 _ rfl; have c2 := (hSx.cel (.tail _ (.head _))).c 13 _ rfl; have c3 := (hSx.cel (.tail _ (.head _))).c 14 _ rfl; have c4 := (hSx.cel (.tail _ (.head _))).c 15 _ rfl; have c5 := (hSx.cel (.tail _ (.head _))).c 16 _ rfl; go_simp)
  simp only [Act.put, List.setIfInBounds_toArray, List.set_cons_zero, List.set_cons_succ]
  refine take_on (i := 3) (d := 6) (v := .pointer (some ⟨w.heap.size, 17, none⟩)) rfl rfl (by kernel_rfl) (by kernel_rfl) (by kernel_rfl) (fun _ _ _ h => h) (by rfl) ?_ hHeld ?_
  · (intro w' hSw; go_simp)
  simp only [Act.put, List.setIfInBounds_toArray, List.set_cons_zero, List.set_cons_succ]
  refine take_on (i := 4) (d := 7) (v := .pointer (some ⟨w.heap.size, 17, none⟩)) rfl rfl (by kernel_rfl) (by kernel_rfl) (by kernel_rfl) (fun _ _ _ h => h) (by rfl) ?_ hHeld ?_
  · (intro w' hSw; go_simp)
  simp only [Act.put, List.setIfInBounds_toArray, List.set_cons_zero, List.set_cons_succ]
  refine take_on (i := 5) (d := 8) (v := .int .i64 b.n) rfl rfl (by kernel_rfl) (by kernel_rfl) (by kernel_rfl) (fun _ _ _ h => h) (by rfl) ?_ hHeld ?_
  · (intro w' hSw; have hSx : Hold w w' [resF (w.heap.size + 1), celF w.heap.size (sitl o r ra rb n pc a b got)] := hSw; have c0 := (hSx.cel (.tail _ (.head _))).c 17 _ rfl; go_simp)
  simp only [Act.put, List.setIfInBounds_toArray, List.set_cons_zero, List.set_cons_succ]
  refine wpAnyH_ready (rs := [6]) (by kernel_rfl) (by simp) ?_
  refine AllReadyH.cons rfl (fun K hK => ?_) AllReadyH.nil
  go_simp
  refine (S1.out _).mono ?_
  rintro e w5 ⟨rfl, hb⟩
  have H1 := hid_mk (D0.out.next hb)
  clear hb
  refine hK.out _ _ H1.out (fun hHeld => ?_)
  clear hK K
  try simp only [Act.put, List.setIfInBounds_toArray, List.set_cons_zero, List.set_cons_succ]
  refine wpAnyH_ready (rs := [7]) (by kernel_rfl) (by simp) ?_
  refine AllReadyH.cons rfl (fun K hK => ?_) AllReadyH.nil
  go_simp
  refine (S2.out _).mono ?_
  rintro e w6 ⟨rfl, hb⟩
  have H2 := hid_mk (H1.out.next hb)
  clear hb
  obtain ⟨vs, hvl, CZ⟩ := H2.out.res (.head _)
  have TH := hid_mk (by have h := CZ.there; rw [hvl] at h; exact h)
  have hlv := hid_mk (lv_eff (CZ.sets (us := effl ⟨0, r, y, q, -1, wd0, -1⟩) (by rw [hvl]; rfl)))
  have B2 := hid_mk (below_sets (effl ⟨0, r, y, q, -1, wd0, -1⟩) H2.out.bel (r := w.heap.size + 1) (by omega))
  clear CZ
  refine hK.out _ _ H2.out (fun hHeld => ?_)
  clear hK K
  try simp only [Act.put, List.setIfInBounds_toArray, List.set_cons_zero, List.set_cons_succ]
  refine wpAnyH_ready (rs := [8]) (by kernel_rfl) (by simp) ?_
  refine AllReadyH.cons rfl (fun K hK => ?_) AllReadyH.nil
  refine step_stm (by rfl) 82 _ _ (by rfl) (w.heap.size + 1) 0 (effl ⟨0, r, y, q, -1, wd0, -1⟩).toArray (by rfl) (by rfl) TH.out sizeEff (effl_one _) ?_
  refine hK.out _ _ (RZ.out (effl ⟨0, r, y, q, -1, wd0, -1⟩) _ rfl H2.out) (fun hHeld => ?_)
  clear hK K
  refine wpAnyH_done (by kernel_rfl) ?_ _
  go_wp2
  refine bodyPost_ret (v := .agg (effl ⟨0, r, y, q, -1, wd0, -1⟩).toArray) (results_cell1 Tryz.results155 (by rfl) hlv.out) rfl ⟨rfl, B2.out⟩

set_option maxHeartbeats 8000000 in
theorem site_bound (o r ra rb n : Int) (pc a b got : Wd) (w : World) :
    Calls Tryz.prog 156 #[.agg (sitl o r ra rb n pc a b got).toArray] w fun e w' => e = .returned (.agg (effl ⟨0, r, narW a b.n, pntW pc (wrap64 (pc.n + 1)), -1, wd0, -1⟩).toArray) ∧ Below w.heap.size w w' := by
  have H0 : Hid (Hold w ((w.alloc (.cells (sitl o r ra rb n pc a b got : List Value).toArray 160)).alloc (.cells ([.int .i64 0, .int .i64 0, .int .i64 0, .bool false, .int .i64 0, .int .i64 0, .int .i64 0, .int .i64 0, .int .i64 0, .bool false, .int .i64 0, .int .i64 0, .int .i64 0, .int .i64 0, .int .i64 0, .int .i64 0, .bool false, .int .i64 0, .int .i64 0, .int .i64 0, .int .i64 0, .int .i64 0] : List Value).toArray 82)) [celF (w.heap.size + 1) ([.int .i64 0, .int .i64 0, .int .i64 0, .bool false, .int .i64 0, .int .i64 0, .int .i64 0, .int .i64 0, .int .i64 0, .bool false, .int .i64 0, .int .i64 0, .int .i64 0, .int .i64 0, .int .i64 0, .int .i64 0, .bool false, .int .i64 0, .int .i64 0, .int .i64 0, .int .i64 0, .int .i64 0]), celF (w.heap.size) (sitl o r ra rb n pc a b got)]) := (((Hold.new w).box (sitl o r ra rb n pc a b got : List Value) 160 (w.heap.size) (by simp)).box ([.int .i64 0, .int .i64 0, .int .i64 0, .bool false, .int .i64 0, .int .i64 0, .int .i64 0, .int .i64 0, .int .i64 0, .bool false, .int .i64 0, .int .i64 0, .int .i64 0, .int .i64 0, .int .i64 0, .int .i64 0, .bool false, .int .i64 0, .int .i64 0, .int .i64 0, .int .i64 0, .int .i64 0] : List Value) 82 (w.heap.size + 1) (by simp))
  obtain ⟨q, Q⟩ : ∃ y, Hid (y = pntW pc (wrap64 (pc.n + 1))) := ⟨_, rfl⟩
  obtain ⟨y, Y⟩ : ∃ y, Hid (y = narW a b.n) := ⟨_, rfl⟩
  rw [← Q.out, ← Y.out]
  have S2 : Hid (∀ w, Calls Tryz.prog 180 #[.agg (sitl o r ra rb n pc a b got).toArray, .agg #[.int .i64 y.n, .bool y.i, .int .i64 y.b, .int .i64 y.t, .int .i64 y.p, .int .i64 y.s]] w fun e w' => e = .returned (.agg (effl ⟨0, r, y, q, -1, wd0, -1⟩).toArray) ∧ Below w.heap.size w w') := by
    rw [Q.out]
    exact fun w => sets_any o r ra rb n pc a b got y w
  have S1 : Hid (∀ w, Calls Tryz.prog 182 #[.agg #[.int .i64 a.n, .bool a.i, .int .i64 a.b, .int .i64 a.t, .int .i64 a.p, .int .i64 a.s], .int .i64 b.n] w fun e w' => e = .returned (.agg #[.int .i64 y.n, .bool y.i, .int .i64 y.b, .int .i64 y.t, .int .i64 y.p, .int .i64 y.s]) ∧ Below w.heap.size w w') := by
    rw [Y.out]
    exact fun w => implNarrow_any a.n a.i a.b a.t a.p a.s b.n w
  generalize hw1 : ((w.alloc (.cells (sitl o r ra rb n pc a b got : List Value).toArray 160)).alloc (.cells ([.int .i64 0, .int .i64 0, .int .i64 0, .bool false, .int .i64 0, .int .i64 0, .int .i64 0, .int .i64 0, .int .i64 0, .bool false, .int .i64 0, .int .i64 0, .int .i64 0, .int .i64 0, .int .i64 0, .int .i64 0, .bool false, .int .i64 0, .int .i64 0, .int .i64 0, .int .i64 0, .int .i64 0] : List Value).toArray 82)) = w1 at H0
  go_enter Tryz.func156, Tryz.ntmps156
  go_upto_region 1 with fail
  clear hw1
  have H := hid_mk (H0.out.tail.push (resF (w.heap.size + 1)) ⟨_, rfl, H0.out.cel (.head _)⟩)
  have RZ : Hid (∀ (us : List Value) (w1 : World), us.length = 22 → Hold w w1 [resF (w.heap.size + 1), celF w.heap.size (sitl o r ra rb n pc a b got)] → Hold w (w1.setCells (w.heap.size + 1) 0 us) [resF (w.heap.size + 1), celF w.heap.size (sitl o r ra rb n pc a b got)]) := fun us w1 hl h => h.sets_res us (by omega) (fun f hf k hk => by
    simp only [List.mem_cons, List.not_mem_nil, or_false] at hf
    subst hf
    simp only [celF] at hk
    omega) hl
  clear H0 Q Y
  have D0 := hid_mk H.out.drew
  refine wp_region_held_drew (S := fun w' => Hold w w' [resF (w.heap.size + 1), celF w.heap.size (sitl o r ra rb n pc a b got)]) (by kernel_rfl) D0.out (fun hHeld => ?_)
  refine take_on (i := 0) (d := 3) (v := .agg (sitl o r ra rb n pc a b got).toArray) rfl rfl (by kernel_rfl) (by kernel_rfl) (by kernel_rfl) (fun _ _ _ h => h) (by rfl) ?_ hHeld ?_
  · exact fun w' hSw => exec_ldm (by rfl) (by rfl) ((show Hold w w' [resF (w.heap.size + 1), celF w.heap.size (sitl o r ra rb n pc a b got)] from hSw).cel (.tail _ (.head _))).range Tryz.underlying160 rfl sizeSite
  simp only [Act.put, List.setIfInBounds_toArray, List.set_cons_zero, List.set_cons_succ]
  refine take_on (i := 1) (d := 4) (v := .pointer (some ⟨w.heap.size, 11, none⟩)) rfl rfl (by kernel_rfl) (by kernel_rfl) (by kernel_rfl) (fun _ _ _ h => h) (by rfl) ?_ hHeld ?_
  · (intro w' hSw; go_simp)
  simp only [Act.put, List.setIfInBounds_toArray, List.set_cons_zero, List.set_cons_succ]
  refine take_on (i := 2) (d := 5) (v := .agg #[.int .i64 a.n, .bool a.i, .int .i64 a.b, .int .i64 a.t, .int .i64 a.p, .int .i64 a.s]) rfl rfl (by kernel_rfl) (by kernel_rfl) (by kernel_rfl) (fun _ _ _ h => h) (by rfl) ?_ hHeld ?_
  · (intro w' hSw; have hSx : Hold w w' [resF (w.heap.size + 1), celF w.heap.size (sitl o r ra rb n pc a b got)] := hSw; have c0 := (hSx.cel (.tail _ (.head _))).c 11 _ rfl; have c1 := (hSx.cel (.tail _ (.head _))).c 12 _ rfl; have c2 := (hSx.cel (.tail _ (.head _))).c 13 _ rfl; have c3 := (hSx.cel (.tail _ (.head _))).c 14 _ rfl; have c4 := (hSx.cel (.tail _ (.head _))).c 15 _ rfl; have c5 := (hSx.cel (.tail _ (.head _))).c 16 _ rfl; go_simp)
  simp only [Act.put, List.setIfInBounds_toArray, List.set_cons_zero, List.set_cons_succ]
  refine take_on (i := 3) (d := 6) (v := .pointer (some ⟨w.heap.size, 17, none⟩)) rfl rfl (by kernel_rfl) (by kernel_rfl) (by kernel_rfl) (fun _ _ _ h => h) (by rfl) ?_ hHeld ?_
  · (intro w' hSw; go_simp)
  simp only [Act.put, List.setIfInBounds_toArray, List.set_cons_zero, List.set_cons_succ]
  refine take_on (i := 4) (d := 7) (v := .pointer (some ⟨w.heap.size, 17, none⟩)) rfl rfl (by kernel_rfl) (by kernel_rfl) (by kernel_rfl) (fun _ _ _ h => h) (by rfl) ?_ hHeld ?_
  · (intro w' hSw; go_simp)
  simp only [Act.put, List.setIfInBounds_toArray, List.set_cons_zero, List.set_cons_succ]
  refine take_on (i := 5) (d := 8) (v := .int .i64 b.n) rfl rfl (by kernel_rfl) (by kernel_rfl) (by kernel_rfl) (fun _ _ _ h => h) (by rfl) ?_ hHeld ?_
  · (intro w' hSw; have hSx : Hold w w' [resF (w.heap.size + 1), celF w.heap.size (sitl o r ra rb n pc a b got)] := hSw; have c0 := (hSx.cel (.tail _ (.head _))).c 17 _ rfl; go_simp)
  simp only [Act.put, List.setIfInBounds_toArray, List.set_cons_zero, List.set_cons_succ]
  refine wpAnyH_ready (rs := [6]) (by kernel_rfl) (by simp) ?_
  refine AllReadyH.cons rfl (fun K hK => ?_) AllReadyH.nil
  go_simp
  refine (S1.out _).mono ?_
  rintro e w5 ⟨rfl, hb⟩
  have H1 := hid_mk (D0.out.next hb)
  clear hb
  refine hK.out _ _ H1.out (fun hHeld => ?_)
  clear hK K
  try simp only [Act.put, List.setIfInBounds_toArray, List.set_cons_zero, List.set_cons_succ]
  refine wpAnyH_ready (rs := [7]) (by kernel_rfl) (by simp) ?_
  refine AllReadyH.cons rfl (fun K hK => ?_) AllReadyH.nil
  go_simp
  refine (S2.out _).mono ?_
  rintro e w6 ⟨rfl, hb⟩
  have H2 := hid_mk (H1.out.next hb)
  clear hb
  obtain ⟨vs, hvl, CZ⟩ := H2.out.res (.head _)
  have TH := hid_mk (by have h := CZ.there; rw [hvl] at h; exact h)
  have hlv := hid_mk (lv_eff (CZ.sets (us := effl ⟨0, r, y, q, -1, wd0, -1⟩) (by rw [hvl]; rfl)))
  have B2 := hid_mk (below_sets (effl ⟨0, r, y, q, -1, wd0, -1⟩) H2.out.bel (r := w.heap.size + 1) (by omega))
  clear CZ
  refine hK.out _ _ H2.out (fun hHeld => ?_)
  clear hK K
  try simp only [Act.put, List.setIfInBounds_toArray, List.set_cons_zero, List.set_cons_succ]
  refine wpAnyH_ready (rs := [8]) (by kernel_rfl) (by simp) ?_
  refine AllReadyH.cons rfl (fun K hK => ?_) AllReadyH.nil
  refine step_stm (by rfl) 82 _ _ (by rfl) (w.heap.size + 1) 0 (effl ⟨0, r, y, q, -1, wd0, -1⟩).toArray (by rfl) (by rfl) TH.out sizeEff (effl_one _) ?_
  refine hK.out _ _ (RZ.out (effl ⟨0, r, y, q, -1, wd0, -1⟩) _ rfl H2.out) (fun hHeld => ?_)
  clear hK K
  refine wpAnyH_done (by kernel_rfl) ?_ _
  go_wp2
  refine bodyPost_ret (v := .agg (effl ⟨0, r, y, q, -1, wd0, -1⟩).toArray) (results_cell1 Tryz.results156 (by rfl) hlv.out) rfl ⟨rfl, B2.out⟩

set_option maxHeartbeats 8000000 in
theorem site_point (o r ra rb n : Int) (pc a b got : Wd) (w : World) :
    Calls Tryz.prog 157 #[.agg (sitl o r ra rb n pc a b got).toArray] w fun e w' => e = .returned (.agg (effl ⟨0, r, pntW a (wrap64 (wrap64 (a.n + b.n) + n)), pntW pc (wrap64 (pc.n + 1)), -1, wd0, -1⟩).toArray) ∧ Below w.heap.size w w' := by
  have H0 : Hid (Hold w ((w.alloc (.cells (sitl o r ra rb n pc a b got : List Value).toArray 160)).alloc (.cells ([.int .i64 0, .int .i64 0, .int .i64 0, .bool false, .int .i64 0, .int .i64 0, .int .i64 0, .int .i64 0, .int .i64 0, .bool false, .int .i64 0, .int .i64 0, .int .i64 0, .int .i64 0, .int .i64 0, .int .i64 0, .bool false, .int .i64 0, .int .i64 0, .int .i64 0, .int .i64 0, .int .i64 0] : List Value).toArray 82)) [celF (w.heap.size + 1) ([.int .i64 0, .int .i64 0, .int .i64 0, .bool false, .int .i64 0, .int .i64 0, .int .i64 0, .int .i64 0, .int .i64 0, .bool false, .int .i64 0, .int .i64 0, .int .i64 0, .int .i64 0, .int .i64 0, .int .i64 0, .bool false, .int .i64 0, .int .i64 0, .int .i64 0, .int .i64 0, .int .i64 0]), celF (w.heap.size) (sitl o r ra rb n pc a b got)]) := (((Hold.new w).box (sitl o r ra rb n pc a b got : List Value) 160 (w.heap.size) (by simp)).box ([.int .i64 0, .int .i64 0, .int .i64 0, .bool false, .int .i64 0, .int .i64 0, .int .i64 0, .int .i64 0, .int .i64 0, .bool false, .int .i64 0, .int .i64 0, .int .i64 0, .int .i64 0, .int .i64 0, .int .i64 0, .bool false, .int .i64 0, .int .i64 0, .int .i64 0, .int .i64 0, .int .i64 0] : List Value) 82 (w.heap.size + 1) (by simp))
  obtain ⟨q, Q⟩ : ∃ y, Hid (y = pntW pc (wrap64 (pc.n + 1))) := ⟨_, rfl⟩
  obtain ⟨y, Y⟩ : ∃ y, Hid (y = pntW a (wrap64 (wrap64 (a.n + b.n) + n))) := ⟨_, rfl⟩
  rw [← Q.out, ← Y.out]
  have S2 : Hid (∀ w, Calls Tryz.prog 180 #[.agg (sitl o r ra rb n pc a b got).toArray, .agg #[.int .i64 y.n, .bool y.i, .int .i64 y.b, .int .i64 y.t, .int .i64 y.p, .int .i64 y.s]] w fun e w' => e = .returned (.agg (effl ⟨0, r, y, q, -1, wd0, -1⟩).toArray) ∧ Below w.heap.size w w') := by
    rw [Q.out]
    exact fun w => sets_any o r ra rb n pc a b got y w
  have S1 : Hid (∀ w, Calls Tryz.prog 114 #[.agg #[.int .i64 a.n, .bool a.i, .int .i64 a.b, .int .i64 a.t, .int .i64 a.p, .int .i64 a.s], .int .i64 (wrap64 (wrap64 (a.n + b.n) + n))] w fun e w' => e = .returned (.agg #[.int .i64 y.n, .bool y.i, .int .i64 y.b, .int .i64 y.t, .int .i64 y.p, .int .i64 y.s]) ∧ Below w.heap.size w w') := by
    rw [Y.out]
    exact fun w => implPoint_any a.n a.i a.b a.t a.p a.s (wrap64 (wrap64 (a.n + b.n) + n)) w
  generalize hw1 : ((w.alloc (.cells (sitl o r ra rb n pc a b got : List Value).toArray 160)).alloc (.cells ([.int .i64 0, .int .i64 0, .int .i64 0, .bool false, .int .i64 0, .int .i64 0, .int .i64 0, .int .i64 0, .int .i64 0, .bool false, .int .i64 0, .int .i64 0, .int .i64 0, .int .i64 0, .int .i64 0, .int .i64 0, .bool false, .int .i64 0, .int .i64 0, .int .i64 0, .int .i64 0, .int .i64 0] : List Value).toArray 82)) = w1 at H0
  go_enter Tryz.func157, Tryz.ntmps157
  go_upto_region 1 with fail
  clear hw1
  have H := hid_mk (H0.out.tail.push (resF (w.heap.size + 1)) ⟨_, rfl, H0.out.cel (.head _)⟩)
  have RZ : Hid (∀ (us : List Value) (w1 : World), us.length = 22 → Hold w w1 [resF (w.heap.size + 1), celF w.heap.size (sitl o r ra rb n pc a b got)] → Hold w (w1.setCells (w.heap.size + 1) 0 us) [resF (w.heap.size + 1), celF w.heap.size (sitl o r ra rb n pc a b got)]) := fun us w1 hl h => h.sets_res us (by omega) (fun f hf k hk => by
    simp only [List.mem_cons, List.not_mem_nil, or_false] at hf
    subst hf
    simp only [celF] at hk
    omega) hl
  clear H0 Q Y
  have D0 := hid_mk H.out.drew
  refine wp_region_held_drew (S := fun w' => Hold w w' [resF (w.heap.size + 1), celF w.heap.size (sitl o r ra rb n pc a b got)]) (by kernel_rfl) D0.out (fun hHeld => ?_)
  refine take_on (i := 0) (d := 3) (v := .agg (sitl o r ra rb n pc a b got).toArray) rfl rfl (by kernel_rfl) (by kernel_rfl) (by kernel_rfl) (fun _ _ _ h => h) (by rfl) ?_ hHeld ?_
  · exact fun w' hSw => exec_ldm (by rfl) (by rfl) ((show Hold w w' [resF (w.heap.size + 1), celF w.heap.size (sitl o r ra rb n pc a b got)] from hSw).cel (.tail _ (.head _))).range Tryz.underlying160 rfl sizeSite
  simp only [Act.put, List.setIfInBounds_toArray, List.set_cons_zero, List.set_cons_succ]
  refine take_on (i := 1) (d := 4) (v := .pointer (some ⟨w.heap.size, 11, none⟩)) rfl rfl (by kernel_rfl) (by kernel_rfl) (by kernel_rfl) (fun _ _ _ h => h) (by rfl) ?_ hHeld ?_
  · (intro w' hSw; go_simp)
  simp only [Act.put, List.setIfInBounds_toArray, List.set_cons_zero, List.set_cons_succ]
  refine take_on (i := 2) (d := 5) (v := .agg #[.int .i64 a.n, .bool a.i, .int .i64 a.b, .int .i64 a.t, .int .i64 a.p, .int .i64 a.s]) rfl rfl (by kernel_rfl) (by kernel_rfl) (by kernel_rfl) (fun _ _ _ h => h) (by rfl) ?_ hHeld ?_
  · (intro w' hSw; have hSx : Hold w w' [resF (w.heap.size + 1), celF w.heap.size (sitl o r ra rb n pc a b got)] := hSw; have c0 := (hSx.cel (.tail _ (.head _))).c 11 _ rfl; have c1 := (hSx.cel (.tail _ (.head _))).c 12 _ rfl; have c2 := (hSx.cel (.tail _ (.head _))).c 13 _ rfl; have c3 := (hSx.cel (.tail _ (.head _))).c 14 _ rfl; have c4 := (hSx.cel (.tail _ (.head _))).c 15 _ rfl; have c5 := (hSx.cel (.tail _ (.head _))).c 16 _ rfl; go_simp)
  simp only [Act.put, List.setIfInBounds_toArray, List.set_cons_zero, List.set_cons_succ]
  refine take_on (i := 3) (d := 6) (v := .pointer (some ⟨w.heap.size, 11, none⟩)) rfl rfl (by kernel_rfl) (by kernel_rfl) (by kernel_rfl) (fun _ _ _ h => h) (by rfl) ?_ hHeld ?_
  · (intro w' hSw; go_simp)
  simp only [Act.put, List.setIfInBounds_toArray, List.set_cons_zero, List.set_cons_succ]
  refine take_on (i := 4) (d := 7) (v := .pointer (some ⟨w.heap.size, 11, none⟩)) rfl rfl (by kernel_rfl) (by kernel_rfl) (by kernel_rfl) (fun _ _ _ h => h) (by rfl) ?_ hHeld ?_
  · (intro w' hSw; go_simp)
  simp only [Act.put, List.setIfInBounds_toArray, List.set_cons_zero, List.set_cons_succ]
  refine take_on (i := 5) (d := 8) (v := .int .i64 a.n) rfl rfl (by kernel_rfl) (by kernel_rfl) (by kernel_rfl) (fun _ _ _ h => h) (by rfl) ?_ hHeld ?_
  · (intro w' hSw; have hSx : Hold w w' [resF (w.heap.size + 1), celF w.heap.size (sitl o r ra rb n pc a b got)] := hSw; have c0 := (hSx.cel (.tail _ (.head _))).c 11 _ rfl; go_simp)
  simp only [Act.put, List.setIfInBounds_toArray, List.set_cons_zero, List.set_cons_succ]
  refine take_on (i := 6) (d := 9) (v := .pointer (some ⟨w.heap.size, 17, none⟩)) rfl rfl (by kernel_rfl) (by kernel_rfl) (by kernel_rfl) (fun _ _ _ h => h) (by rfl) ?_ hHeld ?_
  · (intro w' hSw; go_simp)
  simp only [Act.put, List.setIfInBounds_toArray, List.set_cons_zero, List.set_cons_succ]
  refine take_on (i := 7) (d := 10) (v := .pointer (some ⟨w.heap.size, 17, none⟩)) rfl rfl (by kernel_rfl) (by kernel_rfl) (by kernel_rfl) (fun _ _ _ h => h) (by rfl) ?_ hHeld ?_
  · (intro w' hSw; go_simp)
  simp only [Act.put, List.setIfInBounds_toArray, List.set_cons_zero, List.set_cons_succ]
  refine take_on (i := 8) (d := 11) (v := .int .i64 b.n) rfl rfl (by kernel_rfl) (by kernel_rfl) (by kernel_rfl) (fun _ _ _ h => h) (by rfl) ?_ hHeld ?_
  · (intro w' hSw; have hSx : Hold w w' [resF (w.heap.size + 1), celF w.heap.size (sitl o r ra rb n pc a b got)] := hSw; have c0 := (hSx.cel (.tail _ (.head _))).c 17 _ rfl; go_simp)
  simp only [Act.put, List.setIfInBounds_toArray, List.set_cons_zero, List.set_cons_succ]
  refine take_on (i := 9) (d := 12) (v := .int .i64 (wrap64 (a.n + b.n))) rfl rfl (by kernel_rfl) (by kernel_rfl) (by kernel_rfl) (fun _ _ _ h => h) (by rfl) ?_ hHeld ?_
  · (intro w' hSw; go_simp; first | rfl | simp [wrap64, IntKind.wrap_i64])
  simp only [Act.put, List.setIfInBounds_toArray, List.set_cons_zero, List.set_cons_succ]
  refine take_on (i := 10) (d := 13) (v := .pointer (some ⟨w.heap.size, 0, none⟩)) rfl rfl (by kernel_rfl) (by kernel_rfl) (by kernel_rfl) (fun _ _ _ h => h) (by rfl) ?_ hHeld ?_
  · (intro w' hSw; go_simp)
  simp only [Act.put, List.setIfInBounds_toArray, List.set_cons_zero, List.set_cons_succ]
  refine take_on (i := 11) (d := 14) (v := .pointer (some ⟨w.heap.size, 4, none⟩)) rfl rfl (by kernel_rfl) (by kernel_rfl) (by kernel_rfl) (fun _ _ _ h => h) (by rfl) ?_ hHeld ?_
  · (intro w' hSw; go_simp)
  simp only [Act.put, List.setIfInBounds_toArray, List.set_cons_zero, List.set_cons_succ]
  refine take_on (i := 12) (d := 15) (v := .int .i64 n) rfl rfl (by kernel_rfl) (by kernel_rfl) (by kernel_rfl) (fun _ _ _ h => h) (by rfl) ?_ hHeld ?_
  · (intro w' hSw; have hSx : Hold w w' [resF (w.heap.size + 1), celF w.heap.size (sitl o r ra rb n pc a b got)] := hSw; have c0 := (hSx.cel (.tail _ (.head _))).c 4 _ rfl; go_simp)
  simp only [Act.put, List.setIfInBounds_toArray, List.set_cons_zero, List.set_cons_succ]
  refine take_on (i := 13) (d := 16) (v := .int .i64 (wrap64 ((wrap64 (a.n + b.n)) + n))) rfl rfl (by kernel_rfl) (by kernel_rfl) (by kernel_rfl) (fun _ _ _ h => h) (by rfl) ?_ hHeld ?_
  · (intro w' hSw; go_simp; first | rfl | simp [wrap64, IntKind.wrap_i64])
  simp only [Act.put, List.setIfInBounds_toArray, List.set_cons_zero, List.set_cons_succ]
  refine wpAnyH_ready (rs := [14]) (by kernel_rfl) (by simp) ?_
  refine AllReadyH.cons rfl (fun K hK => ?_) AllReadyH.nil
  go_simp
  refine (S1.out _).mono ?_
  rintro e w5 ⟨rfl, hb⟩
  have H1 := hid_mk (D0.out.next hb)
  clear hb
  refine hK.out _ _ H1.out (fun hHeld => ?_)
  clear hK K
  try simp only [Act.put, List.setIfInBounds_toArray, List.set_cons_zero, List.set_cons_succ]
  refine wpAnyH_ready (rs := [15]) (by kernel_rfl) (by simp) ?_
  refine AllReadyH.cons rfl (fun K hK => ?_) AllReadyH.nil
  go_simp
  refine (S2.out _).mono ?_
  rintro e w6 ⟨rfl, hb⟩
  have H2 := hid_mk (H1.out.next hb)
  clear hb
  obtain ⟨vs, hvl, CZ⟩ := H2.out.res (.head _)
  have TH := hid_mk (by have h := CZ.there; rw [hvl] at h; exact h)
  have hlv := hid_mk (lv_eff (CZ.sets (us := effl ⟨0, r, y, q, -1, wd0, -1⟩) (by rw [hvl]; rfl)))
  have B2 := hid_mk (below_sets (effl ⟨0, r, y, q, -1, wd0, -1⟩) H2.out.bel (r := w.heap.size + 1) (by omega))
  clear CZ
  refine hK.out _ _ H2.out (fun hHeld => ?_)
  clear hK K
  try simp only [Act.put, List.setIfInBounds_toArray, List.set_cons_zero, List.set_cons_succ]
  refine wpAnyH_ready (rs := [16]) (by kernel_rfl) (by simp) ?_
  refine AllReadyH.cons rfl (fun K hK => ?_) AllReadyH.nil
  refine step_stm (by rfl) 82 _ _ (by rfl) (w.heap.size + 1) 0 (effl ⟨0, r, y, q, -1, wd0, -1⟩).toArray (by rfl) (by rfl) TH.out sizeEff (effl_one _) ?_
  refine hK.out _ _ (RZ.out (effl ⟨0, r, y, q, -1, wd0, -1⟩) _ rfl H2.out) (fun hHeld => ?_)
  clear hK K
  refine wpAnyH_done (by kernel_rfl) ?_ _
  go_wp2
  refine bodyPost_ret (v := .agg (effl ⟨0, r, y, q, -1, wd0, -1⟩).toArray) (results_cell1 Tryz.results157 (by rfl) hlv.out) rfl ⟨rfl, B2.out⟩

set_option maxHeartbeats 8000000 in
theorem site_seal (o r ra rb n : Int) (pc a b got : Wd) (w : World) :
    Calls Tryz.prog 158 #[.agg (sitl o r ra rb n pc a b got).toArray] w fun e w' => e = .returned (.agg (effl ⟨0, r, seaW a b, pntW pc (wrap64 (pc.n + 1)), -1, wd0, -1⟩).toArray) ∧ Below w.heap.size w w' := by
  have H0 : Hid (Hold w ((w.alloc (.cells (sitl o r ra rb n pc a b got : List Value).toArray 160)).alloc (.cells ([.int .i64 0, .int .i64 0, .int .i64 0, .bool false, .int .i64 0, .int .i64 0, .int .i64 0, .int .i64 0, .int .i64 0, .bool false, .int .i64 0, .int .i64 0, .int .i64 0, .int .i64 0, .int .i64 0, .int .i64 0, .bool false, .int .i64 0, .int .i64 0, .int .i64 0, .int .i64 0, .int .i64 0] : List Value).toArray 82)) [celF (w.heap.size + 1) ([.int .i64 0, .int .i64 0, .int .i64 0, .bool false, .int .i64 0, .int .i64 0, .int .i64 0, .int .i64 0, .int .i64 0, .bool false, .int .i64 0, .int .i64 0, .int .i64 0, .int .i64 0, .int .i64 0, .int .i64 0, .bool false, .int .i64 0, .int .i64 0, .int .i64 0, .int .i64 0, .int .i64 0]), celF (w.heap.size) (sitl o r ra rb n pc a b got)]) := (((Hold.new w).box (sitl o r ra rb n pc a b got : List Value) 160 (w.heap.size) (by simp)).box ([.int .i64 0, .int .i64 0, .int .i64 0, .bool false, .int .i64 0, .int .i64 0, .int .i64 0, .int .i64 0, .int .i64 0, .bool false, .int .i64 0, .int .i64 0, .int .i64 0, .int .i64 0, .int .i64 0, .int .i64 0, .bool false, .int .i64 0, .int .i64 0, .int .i64 0, .int .i64 0, .int .i64 0] : List Value) 82 (w.heap.size + 1) (by simp))
  obtain ⟨q, Q⟩ : ∃ y, Hid (y = pntW pc (wrap64 (pc.n + 1))) := ⟨_, rfl⟩
  obtain ⟨y, Y⟩ : ∃ y, Hid (y = seaW a b) := ⟨_, rfl⟩
  rw [← Q.out, ← Y.out]
  have S2 : Hid (∀ w, Calls Tryz.prog 180 #[.agg (sitl o r ra rb n pc a b got).toArray, .agg #[.int .i64 y.n, .bool y.i, .int .i64 y.b, .int .i64 y.t, .int .i64 y.p, .int .i64 y.s]] w fun e w' => e = .returned (.agg (effl ⟨0, r, y, q, -1, wd0, -1⟩).toArray) ∧ Below w.heap.size w w') := by
    rw [Q.out]
    exact fun w => sets_any o r ra rb n pc a b got y w
  have S1 : Hid (∀ w, Calls Tryz.prog 183 #[.agg #[.int .i64 a.n, .bool a.i, .int .i64 a.b, .int .i64 a.t, .int .i64 a.p, .int .i64 a.s], .agg #[.int .i64 b.n, .bool b.i, .int .i64 b.b, .int .i64 b.t, .int .i64 b.p, .int .i64 b.s]] w fun e w' => e = .returned (.agg #[.int .i64 y.n, .bool y.i, .int .i64 y.b, .int .i64 y.t, .int .i64 y.p, .int .i64 y.s]) ∧ Below w.heap.size w w') := by
    rw [Y.out]
    exact fun w => implSealBy_any a.n a.i a.b a.t a.p a.s b.n b.i b.b b.t b.p b.s w
  generalize hw1 : ((w.alloc (.cells (sitl o r ra rb n pc a b got : List Value).toArray 160)).alloc (.cells ([.int .i64 0, .int .i64 0, .int .i64 0, .bool false, .int .i64 0, .int .i64 0, .int .i64 0, .int .i64 0, .int .i64 0, .bool false, .int .i64 0, .int .i64 0, .int .i64 0, .int .i64 0, .int .i64 0, .int .i64 0, .bool false, .int .i64 0, .int .i64 0, .int .i64 0, .int .i64 0, .int .i64 0] : List Value).toArray 82)) = w1 at H0
  go_enter Tryz.func158, Tryz.ntmps158
  go_upto_region 1 with fail
  clear hw1
  have H := hid_mk (H0.out.tail.push (resF (w.heap.size + 1)) ⟨_, rfl, H0.out.cel (.head _)⟩)
  have RZ : Hid (∀ (us : List Value) (w1 : World), us.length = 22 → Hold w w1 [resF (w.heap.size + 1), celF w.heap.size (sitl o r ra rb n pc a b got)] → Hold w (w1.setCells (w.heap.size + 1) 0 us) [resF (w.heap.size + 1), celF w.heap.size (sitl o r ra rb n pc a b got)]) := fun us w1 hl h => h.sets_res us (by omega) (fun f hf k hk => by
    simp only [List.mem_cons, List.not_mem_nil, or_false] at hf
    subst hf
    simp only [celF] at hk
    omega) hl
  clear H0 Q Y
  have D0 := hid_mk H.out.drew
  refine wp_region_held_drew (S := fun w' => Hold w w' [resF (w.heap.size + 1), celF w.heap.size (sitl o r ra rb n pc a b got)]) (by kernel_rfl) D0.out (fun hHeld => ?_)
  refine take_on (i := 0) (d := 3) (v := .agg (sitl o r ra rb n pc a b got).toArray) rfl rfl (by kernel_rfl) (by kernel_rfl) (by kernel_rfl) (fun _ _ _ h => h) (by rfl) ?_ hHeld ?_
  · exact fun w' hSw => exec_ldm (by rfl) (by rfl) ((show Hold w w' [resF (w.heap.size + 1), celF w.heap.size (sitl o r ra rb n pc a b got)] from hSw).cel (.tail _ (.head _))).range Tryz.underlying160 rfl sizeSite
  simp only [Act.put, List.setIfInBounds_toArray, List.set_cons_zero, List.set_cons_succ]
  refine take_on (i := 1) (d := 4) (v := .pointer (some ⟨w.heap.size, 11, none⟩)) rfl rfl (by kernel_rfl) (by kernel_rfl) (by kernel_rfl) (fun _ _ _ h => h) (by rfl) ?_ hHeld ?_
  · (intro w' hSw; go_simp)
  simp only [Act.put, List.setIfInBounds_toArray, List.set_cons_zero, List.set_cons_succ]
  refine take_on (i := 2) (d := 5) (v := .agg #[.int .i64 a.n, .bool a.i, .int .i64 a.b, .int .i64 a.t, .int .i64 a.p, .int .i64 a.s]) rfl rfl (by kernel_rfl) (by kernel_rfl) (by kernel_rfl) (fun _ _ _ h => h) (by rfl) ?_ hHeld ?_
  · (intro w' hSw; have hSx : Hold w w' [resF (w.heap.size + 1), celF w.heap.size (sitl o r ra rb n pc a b got)] := hSw; have c0 := (hSx.cel (.tail _ (.head _))).c 11 _ rfl; have c1 := (hSx.cel (.tail _ (.head _))).c 12 _ rfl; have c2 := (hSx.cel (.tail _ (.head _))).c 13 _ rfl; have c3 := (hSx.cel (.tail _ (.head _))).c 14 _ rfl; have c4 := (hSx.cel (.tail _ (.head _))).c 15 _ rfl; have c5 := (hSx.cel (.tail _ (.head _))).c 16 _ rfl; go_simp)
  simp only [Act.put, List.setIfInBounds_toArray, List.set_cons_zero, List.set_cons_succ]
  refine take_on (i := 3) (d := 6) (v := .pointer (some ⟨w.heap.size, 17, none⟩)) rfl rfl (by kernel_rfl) (by kernel_rfl) (by kernel_rfl) (fun _ _ _ h => h) (by rfl) ?_ hHeld ?_
  · (intro w' hSw; go_simp)
  simp only [Act.put, List.setIfInBounds_toArray, List.set_cons_zero, List.set_cons_succ]
  refine take_on (i := 4) (d := 7) (v := .agg #[.int .i64 b.n, .bool b.i, .int .i64 b.b, .int .i64 b.t, .int .i64 b.p, .int .i64 b.s]) rfl rfl (by kernel_rfl) (by kernel_rfl) (by kernel_rfl) (fun _ _ _ h => h) (by rfl) ?_ hHeld ?_
  · (intro w' hSw; have hSx : Hold w w' [resF (w.heap.size + 1), celF w.heap.size (sitl o r ra rb n pc a b got)] := hSw; have c0 := (hSx.cel (.tail _ (.head _))).c 17 _ rfl; have c1 := (hSx.cel (.tail _ (.head _))).c 18 _ rfl; have c2 := (hSx.cel (.tail _ (.head _))).c 19 _ rfl; have c3 := (hSx.cel (.tail _ (.head _))).c 20 _ rfl; have c4 := (hSx.cel (.tail _ (.head _))).c 21 _ rfl; have c5 := (hSx.cel (.tail _ (.head _))).c 22 _ rfl; go_simp)
  simp only [Act.put, List.setIfInBounds_toArray, List.set_cons_zero, List.set_cons_succ]
  refine wpAnyH_ready (rs := [5]) (by kernel_rfl) (by simp) ?_
  refine AllReadyH.cons rfl (fun K hK => ?_) AllReadyH.nil
  go_simp
  refine (S1.out _).mono ?_
  rintro e w5 ⟨rfl, hb⟩
  have H1 := hid_mk (D0.out.next hb)
  clear hb
  refine hK.out _ _ H1.out (fun hHeld => ?_)
  clear hK K
  try simp only [Act.put, List.setIfInBounds_toArray, List.set_cons_zero, List.set_cons_succ]
  refine wpAnyH_ready (rs := [6]) (by kernel_rfl) (by simp) ?_
  refine AllReadyH.cons rfl (fun K hK => ?_) AllReadyH.nil
  go_simp
  refine (S2.out _).mono ?_
  rintro e w6 ⟨rfl, hb⟩
  have H2 := hid_mk (H1.out.next hb)
  clear hb
  obtain ⟨vs, hvl, CZ⟩ := H2.out.res (.head _)
  have TH := hid_mk (by have h := CZ.there; rw [hvl] at h; exact h)
  have hlv := hid_mk (lv_eff (CZ.sets (us := effl ⟨0, r, y, q, -1, wd0, -1⟩) (by rw [hvl]; rfl)))
  have B2 := hid_mk (below_sets (effl ⟨0, r, y, q, -1, wd0, -1⟩) H2.out.bel (r := w.heap.size + 1) (by omega))
  clear CZ
  refine hK.out _ _ H2.out (fun hHeld => ?_)
  clear hK K
  try simp only [Act.put, List.setIfInBounds_toArray, List.set_cons_zero, List.set_cons_succ]
  refine wpAnyH_ready (rs := [7]) (by kernel_rfl) (by simp) ?_
  refine AllReadyH.cons rfl (fun K hK => ?_) AllReadyH.nil
  refine step_stm (by rfl) 82 _ _ (by rfl) (w.heap.size + 1) 0 (effl ⟨0, r, y, q, -1, wd0, -1⟩).toArray (by rfl) (by rfl) TH.out sizeEff (effl_one _) ?_
  refine hK.out _ _ (RZ.out (effl ⟨0, r, y, q, -1, wd0, -1⟩) _ rfl H2.out) (fun hHeld => ?_)
  clear hK K
  refine wpAnyH_done (by kernel_rfl) ?_ _
  go_wp2
  refine bodyPost_ret (v := .agg (effl ⟨0, r, y, q, -1, wd0, -1⟩).toArray) (results_cell1 Tryz.results158 (by rfl) hlv.out) rfl ⟨rfl, B2.out⟩

set_option maxHeartbeats 8000000 in
theorem site_open (o r ra rb n : Int) (pc a b got : Wd) (w : World) :
    Calls Tryz.prog 159 #[.agg (sitl o r ra rb n pc a b got).toArray] w fun e w' => e = .returned (.agg (effl ⟨0, r, opnW a b, pntW pc (wrap64 (pc.n + 1)), -1, wd0, -1⟩).toArray) ∧ Below w.heap.size w w' := by
  have H0 : Hid (Hold w ((w.alloc (.cells (sitl o r ra rb n pc a b got : List Value).toArray 160)).alloc (.cells ([.int .i64 0, .int .i64 0, .int .i64 0, .bool false, .int .i64 0, .int .i64 0, .int .i64 0, .int .i64 0, .int .i64 0, .bool false, .int .i64 0, .int .i64 0, .int .i64 0, .int .i64 0, .int .i64 0, .int .i64 0, .bool false, .int .i64 0, .int .i64 0, .int .i64 0, .int .i64 0, .int .i64 0] : List Value).toArray 82)) [celF (w.heap.size + 1) ([.int .i64 0, .int .i64 0, .int .i64 0, .bool false, .int .i64 0, .int .i64 0, .int .i64 0, .int .i64 0, .int .i64 0, .bool false, .int .i64 0, .int .i64 0, .int .i64 0, .int .i64 0, .int .i64 0, .int .i64 0, .bool false, .int .i64 0, .int .i64 0, .int .i64 0, .int .i64 0, .int .i64 0]), celF (w.heap.size) (sitl o r ra rb n pc a b got)]) := (((Hold.new w).box (sitl o r ra rb n pc a b got : List Value) 160 (w.heap.size) (by simp)).box ([.int .i64 0, .int .i64 0, .int .i64 0, .bool false, .int .i64 0, .int .i64 0, .int .i64 0, .int .i64 0, .int .i64 0, .bool false, .int .i64 0, .int .i64 0, .int .i64 0, .int .i64 0, .int .i64 0, .int .i64 0, .bool false, .int .i64 0, .int .i64 0, .int .i64 0, .int .i64 0, .int .i64 0] : List Value) 82 (w.heap.size + 1) (by simp))
  obtain ⟨q, Q⟩ : ∃ y, Hid (y = pntW pc (wrap64 (pc.n + 1))) := ⟨_, rfl⟩
  obtain ⟨y, Y⟩ : ∃ y, Hid (y = opnW a b) := ⟨_, rfl⟩
  rw [← Q.out, ← Y.out]
  have S2 : Hid (∀ w, Calls Tryz.prog 180 #[.agg (sitl o r ra rb n pc a b got).toArray, .agg #[.int .i64 y.n, .bool y.i, .int .i64 y.b, .int .i64 y.t, .int .i64 y.p, .int .i64 y.s]] w fun e w' => e = .returned (.agg (effl ⟨0, r, y, q, -1, wd0, -1⟩).toArray) ∧ Below w.heap.size w w') := by
    rw [Q.out]
    exact fun w => sets_any o r ra rb n pc a b got y w
  have S1 : Hid (∀ w, Calls Tryz.prog 184 #[.agg #[.int .i64 a.n, .bool a.i, .int .i64 a.b, .int .i64 a.t, .int .i64 a.p, .int .i64 a.s], .agg #[.int .i64 b.n, .bool b.i, .int .i64 b.b, .int .i64 b.t, .int .i64 b.p, .int .i64 b.s]] w fun e w' => e = .returned (.agg #[.int .i64 y.n, .bool y.i, .int .i64 y.b, .int .i64 y.t, .int .i64 y.p, .int .i64 y.s]) ∧ Below w.heap.size w w') := by
    rw [Y.out]
    exact fun w => implOpenBy_any a.n a.i a.b a.t a.p a.s b.n b.i b.b b.t b.p b.s w
  generalize hw1 : ((w.alloc (.cells (sitl o r ra rb n pc a b got : List Value).toArray 160)).alloc (.cells ([.int .i64 0, .int .i64 0, .int .i64 0, .bool false, .int .i64 0, .int .i64 0, .int .i64 0, .int .i64 0, .int .i64 0, .bool false, .int .i64 0, .int .i64 0, .int .i64 0, .int .i64 0, .int .i64 0, .int .i64 0, .bool false, .int .i64 0, .int .i64 0, .int .i64 0, .int .i64 0, .int .i64 0] : List Value).toArray 82)) = w1 at H0
  go_enter Tryz.func159, Tryz.ntmps159
  go_upto_region 1 with fail
  clear hw1
  have H := hid_mk (H0.out.tail.push (resF (w.heap.size + 1)) ⟨_, rfl, H0.out.cel (.head _)⟩)
  have RZ : Hid (∀ (us : List Value) (w1 : World), us.length = 22 → Hold w w1 [resF (w.heap.size + 1), celF w.heap.size (sitl o r ra rb n pc a b got)] → Hold w (w1.setCells (w.heap.size + 1) 0 us) [resF (w.heap.size + 1), celF w.heap.size (sitl o r ra rb n pc a b got)]) := fun us w1 hl h => h.sets_res us (by omega) (fun f hf k hk => by
    simp only [List.mem_cons, List.not_mem_nil, or_false] at hf
    subst hf
    simp only [celF] at hk
    omega) hl
  clear H0 Q Y
  have D0 := hid_mk H.out.drew
  refine wp_region_held_drew (S := fun w' => Hold w w' [resF (w.heap.size + 1), celF w.heap.size (sitl o r ra rb n pc a b got)]) (by kernel_rfl) D0.out (fun hHeld => ?_)
  refine take_on (i := 0) (d := 3) (v := .agg (sitl o r ra rb n pc a b got).toArray) rfl rfl (by kernel_rfl) (by kernel_rfl) (by kernel_rfl) (fun _ _ _ h => h) (by rfl) ?_ hHeld ?_
  · exact fun w' hSw => exec_ldm (by rfl) (by rfl) ((show Hold w w' [resF (w.heap.size + 1), celF w.heap.size (sitl o r ra rb n pc a b got)] from hSw).cel (.tail _ (.head _))).range Tryz.underlying160 rfl sizeSite
  simp only [Act.put, List.setIfInBounds_toArray, List.set_cons_zero, List.set_cons_succ]
  refine take_on (i := 1) (d := 4) (v := .pointer (some ⟨w.heap.size, 11, none⟩)) rfl rfl (by kernel_rfl) (by kernel_rfl) (by kernel_rfl) (fun _ _ _ h => h) (by rfl) ?_ hHeld ?_
  · (intro w' hSw; go_simp)
  simp only [Act.put, List.setIfInBounds_toArray, List.set_cons_zero, List.set_cons_succ]
  refine take_on (i := 2) (d := 5) (v := .agg #[.int .i64 a.n, .bool a.i, .int .i64 a.b, .int .i64 a.t, .int .i64 a.p, .int .i64 a.s]) rfl rfl (by kernel_rfl) (by kernel_rfl) (by kernel_rfl) (fun _ _ _ h => h) (by rfl) ?_ hHeld ?_
  · (intro w' hSw; have hSx : Hold w w' [resF (w.heap.size + 1), celF w.heap.size (sitl o r ra rb n pc a b got)] := hSw; have c0 := (hSx.cel (.tail _ (.head _))).c 11 _ rfl; have c1 := (hSx.cel (.tail _ (.head _))).c 12 _ rfl; have c2 := (hSx.cel (.tail _ (.head _))).c 13 _ rfl; have c3 := (hSx.cel (.tail _ (.head _))).c 14 _ rfl; have c4 := (hSx.cel (.tail _ (.head _))).c 15 _ rfl; have c5 := (hSx.cel (.tail _ (.head _))).c 16 _ rfl; go_simp)
  simp only [Act.put, List.setIfInBounds_toArray, List.set_cons_zero, List.set_cons_succ]
  refine take_on (i := 3) (d := 6) (v := .pointer (some ⟨w.heap.size, 17, none⟩)) rfl rfl (by kernel_rfl) (by kernel_rfl) (by kernel_rfl) (fun _ _ _ h => h) (by rfl) ?_ hHeld ?_
  · (intro w' hSw; go_simp)
  simp only [Act.put, List.setIfInBounds_toArray, List.set_cons_zero, List.set_cons_succ]
  refine take_on (i := 4) (d := 7) (v := .agg #[.int .i64 b.n, .bool b.i, .int .i64 b.b, .int .i64 b.t, .int .i64 b.p, .int .i64 b.s]) rfl rfl (by kernel_rfl) (by kernel_rfl) (by kernel_rfl) (fun _ _ _ h => h) (by rfl) ?_ hHeld ?_
  · (intro w' hSw; have hSx : Hold w w' [resF (w.heap.size + 1), celF w.heap.size (sitl o r ra rb n pc a b got)] := hSw; have c0 := (hSx.cel (.tail _ (.head _))).c 17 _ rfl; have c1 := (hSx.cel (.tail _ (.head _))).c 18 _ rfl; have c2 := (hSx.cel (.tail _ (.head _))).c 19 _ rfl; have c3 := (hSx.cel (.tail _ (.head _))).c 20 _ rfl; have c4 := (hSx.cel (.tail _ (.head _))).c 21 _ rfl; have c5 := (hSx.cel (.tail _ (.head _))).c 22 _ rfl; go_simp)
  simp only [Act.put, List.setIfInBounds_toArray, List.set_cons_zero, List.set_cons_succ]
  refine wpAnyH_ready (rs := [5]) (by kernel_rfl) (by simp) ?_
  refine AllReadyH.cons rfl (fun K hK => ?_) AllReadyH.nil
  go_simp
  refine (S1.out _).mono ?_
  rintro e w5 ⟨rfl, hb⟩
  have H1 := hid_mk (D0.out.next hb)
  clear hb
  refine hK.out _ _ H1.out (fun hHeld => ?_)
  clear hK K
  try simp only [Act.put, List.setIfInBounds_toArray, List.set_cons_zero, List.set_cons_succ]
  refine wpAnyH_ready (rs := [6]) (by kernel_rfl) (by simp) ?_
  refine AllReadyH.cons rfl (fun K hK => ?_) AllReadyH.nil
  go_simp
  refine (S2.out _).mono ?_
  rintro e w6 ⟨rfl, hb⟩
  have H2 := hid_mk (H1.out.next hb)
  clear hb
  obtain ⟨vs, hvl, CZ⟩ := H2.out.res (.head _)
  have TH := hid_mk (by have h := CZ.there; rw [hvl] at h; exact h)
  have hlv := hid_mk (lv_eff (CZ.sets (us := effl ⟨0, r, y, q, -1, wd0, -1⟩) (by rw [hvl]; rfl)))
  have B2 := hid_mk (below_sets (effl ⟨0, r, y, q, -1, wd0, -1⟩) H2.out.bel (r := w.heap.size + 1) (by omega))
  clear CZ
  refine hK.out _ _ H2.out (fun hHeld => ?_)
  clear hK K
  try simp only [Act.put, List.setIfInBounds_toArray, List.set_cons_zero, List.set_cons_succ]
  refine wpAnyH_ready (rs := [7]) (by kernel_rfl) (by simp) ?_
  refine AllReadyH.cons rfl (fun K hK => ?_) AllReadyH.nil
  refine step_stm (by rfl) 82 _ _ (by rfl) (w.heap.size + 1) 0 (effl ⟨0, r, y, q, -1, wd0, -1⟩).toArray (by rfl) (by rfl) TH.out sizeEff (effl_one _) ?_
  refine hK.out _ _ (RZ.out (effl ⟨0, r, y, q, -1, wd0, -1⟩) _ rfl H2.out) (fun hHeld => ?_)
  clear hK K
  refine wpAnyH_done (by kernel_rfl) ?_ _
  go_wp2
  refine bodyPost_ret (v := .agg (effl ⟨0, r, y, q, -1, wd0, -1⟩).toArray) (results_cell1 Tryz.results159 (by rfl) hlv.out) rfl ⟨rfl, B2.out⟩

set_option maxHeartbeats 8000000 in
theorem site_move (o r ra rb n : Int) (pc a b got : Wd) (w : World) :
    Calls Tryz.prog 154 #[.agg (sitl o r ra rb n pc a b got).toArray] w fun e w' => e = .returned (.agg (effl ⟨0, r, a, pntW pc (wrap64 (pc.n + 1)), -1, wd0, -1⟩).toArray) ∧ Below w.heap.size w w' := by
  have H0 : Hid (Hold w ((w.alloc (.cells (sitl o r ra rb n pc a b got : List Value).toArray 160)).alloc (.cells ([.int .i64 0, .int .i64 0, .int .i64 0, .bool false, .int .i64 0, .int .i64 0, .int .i64 0, .int .i64 0, .int .i64 0, .bool false, .int .i64 0, .int .i64 0, .int .i64 0, .int .i64 0, .int .i64 0, .int .i64 0, .bool false, .int .i64 0, .int .i64 0, .int .i64 0, .int .i64 0, .int .i64 0] : List Value).toArray 82)) [celF (w.heap.size + 1) ([.int .i64 0, .int .i64 0, .int .i64 0, .bool false, .int .i64 0, .int .i64 0, .int .i64 0, .int .i64 0, .int .i64 0, .bool false, .int .i64 0, .int .i64 0, .int .i64 0, .int .i64 0, .int .i64 0, .int .i64 0, .bool false, .int .i64 0, .int .i64 0, .int .i64 0, .int .i64 0, .int .i64 0]), celF (w.heap.size) (sitl o r ra rb n pc a b got)]) := (((Hold.new w).box (sitl o r ra rb n pc a b got : List Value) 160 (w.heap.size) (by simp)).box ([.int .i64 0, .int .i64 0, .int .i64 0, .bool false, .int .i64 0, .int .i64 0, .int .i64 0, .int .i64 0, .int .i64 0, .bool false, .int .i64 0, .int .i64 0, .int .i64 0, .int .i64 0, .int .i64 0, .int .i64 0, .bool false, .int .i64 0, .int .i64 0, .int .i64 0, .int .i64 0, .int .i64 0] : List Value) 82 (w.heap.size + 1) (by simp))
  obtain ⟨q, Q⟩ : ∃ y, Hid (y = pntW pc (wrap64 (pc.n + 1))) := ⟨_, rfl⟩
  rw [← Q.out]
  have S2 : Hid (∀ w, Calls Tryz.prog 180 #[.agg (sitl o r ra rb n pc a b got).toArray, .agg #[.int .i64 a.n, .bool a.i, .int .i64 a.b, .int .i64 a.t, .int .i64 a.p, .int .i64 a.s]] w fun e w' => e = .returned (.agg (effl ⟨0, r, a, q, -1, wd0, -1⟩).toArray) ∧ Below w.heap.size w w') := by
    rw [Q.out]
    exact fun w => sets_any o r ra rb n pc a b got a w
  generalize hw1 : ((w.alloc (.cells (sitl o r ra rb n pc a b got : List Value).toArray 160)).alloc (.cells ([.int .i64 0, .int .i64 0, .int .i64 0, .bool false, .int .i64 0, .int .i64 0, .int .i64 0, .int .i64 0, .int .i64 0, .bool false, .int .i64 0, .int .i64 0, .int .i64 0, .int .i64 0, .int .i64 0, .int .i64 0, .bool false, .int .i64 0, .int .i64 0, .int .i64 0, .int .i64 0, .int .i64 0] : List Value).toArray 82)) = w1 at H0
  go_enter Tryz.func154, Tryz.ntmps154
  go_upto_region 1 with fail
  clear hw1
  have H := hid_mk (H0.out.tail.push (resF (w.heap.size + 1)) ⟨_, rfl, H0.out.cel (.head _)⟩)
  have RZ : Hid (∀ (us : List Value) (w1 : World), us.length = 22 → Hold w w1 [resF (w.heap.size + 1), celF w.heap.size (sitl o r ra rb n pc a b got)] → Hold w (w1.setCells (w.heap.size + 1) 0 us) [resF (w.heap.size + 1), celF w.heap.size (sitl o r ra rb n pc a b got)]) := fun us w1 hl h => h.sets_res us (by omega) (fun f hf k hk => by
    simp only [List.mem_cons, List.not_mem_nil, or_false] at hf
    subst hf
    simp only [celF] at hk
    omega) hl
  clear H0 Q
  have c0 := (H.out.cel (.tail _ (.head _))).c 11 _ rfl
  have c1 := (H.out.cel (.tail _ (.head _))).c 12 _ rfl
  have c2 := (H.out.cel (.tail _ (.head _))).c 13 _ rfl
  have c3 := (H.out.cel (.tail _ (.head _))).c 14 _ rfl
  have c4 := (H.out.cel (.tail _ (.head _))).c 15 _ rfl
  have c5 := (H.out.cel (.tail _ (.head _))).c 16 _ rfl
  have CS := hid_mk (H.out.cel (.tail _ (.head _)))
  go_wp2_with (first | (refine wpList_load_mid (by rfl) 160 _ (by rfl) (w.heap.size) 0 (by rfl) (sitl o r ra rb n pc a b got) _ CS.out.range Tryz.underlying160 rfl sizeSite ?_) | (go_at_call 180; refine (S2.out _).mono ?_; rintro e w6 ⟨rfl, hb⟩; refine Hid.out ?_))
  refine Lib.hid ?_
  have HZ := hid_mk (H.out.next hb)
  obtain ⟨vs, hvl, CZ⟩ := HZ.out.res (.head _)
  have TH := hid_mk (by have h := CZ.there; rw [hvl] at h; exact h)
  have hlv := hid_mk (lv_eff (CZ.sets (us := effl ⟨0, r, a, q, -1, wd0, -1⟩) (by rw [hvl]; rfl)))
  have B2 := hid_mk (below_sets (effl ⟨0, r, a, q, -1, wd0, -1⟩) HZ.out.bel (r := w.heap.size + 1) (by omega))
  clear CZ hb CS c0 c1 c2 c3 c4 c5 H
  go_wp2_with (refine wpList_store_mid (by rfl) 82 _ _ (by rfl) (w.heap.size + 1) 0 (effl ⟨0, r, a, q, -1, wd0, -1⟩).toArray (by rfl) (by rfl) TH.out sizeEff (effl_one _) ?_)
  refine bodyPost_ret (v := .agg (effl ⟨0, r, a, q, -1, wd0, -1⟩).toArray) (results_cell1 Tryz.results154 (by rfl) hlv.out) rfl ⟨rfl, B2.out⟩

set_option maxHeartbeats 8000000 in
theorem site_load (o r ra rb n : Int) (pc a b got : Wd) (w : World) :
    Calls Tryz.prog 161 #[.agg (sitl o r ra rb n pc a b got).toArray] w fun e w' => e = .returned (.agg (effl ⟨0, r, got, pntW pc (wrap64 (pc.n + 1)), -1, wd0, -1⟩).toArray) ∧ Below w.heap.size w w' := by
  have H0 : Hid (Hold w ((w.alloc (.cells (sitl o r ra rb n pc a b got : List Value).toArray 160)).alloc (.cells ([.int .i64 0, .int .i64 0, .int .i64 0, .bool false, .int .i64 0, .int .i64 0, .int .i64 0, .int .i64 0, .int .i64 0, .bool false, .int .i64 0, .int .i64 0, .int .i64 0, .int .i64 0, .int .i64 0, .int .i64 0, .bool false, .int .i64 0, .int .i64 0, .int .i64 0, .int .i64 0, .int .i64 0] : List Value).toArray 82)) [celF (w.heap.size + 1) ([.int .i64 0, .int .i64 0, .int .i64 0, .bool false, .int .i64 0, .int .i64 0, .int .i64 0, .int .i64 0, .int .i64 0, .bool false, .int .i64 0, .int .i64 0, .int .i64 0, .int .i64 0, .int .i64 0, .int .i64 0, .bool false, .int .i64 0, .int .i64 0, .int .i64 0, .int .i64 0, .int .i64 0]), celF (w.heap.size) (sitl o r ra rb n pc a b got)]) := (((Hold.new w).box (sitl o r ra rb n pc a b got : List Value) 160 (w.heap.size) (by simp)).box ([.int .i64 0, .int .i64 0, .int .i64 0, .bool false, .int .i64 0, .int .i64 0, .int .i64 0, .int .i64 0, .int .i64 0, .bool false, .int .i64 0, .int .i64 0, .int .i64 0, .int .i64 0, .int .i64 0, .int .i64 0, .bool false, .int .i64 0, .int .i64 0, .int .i64 0, .int .i64 0, .int .i64 0] : List Value) 82 (w.heap.size + 1) (by simp))
  obtain ⟨q, Q⟩ : ∃ y, Hid (y = pntW pc (wrap64 (pc.n + 1))) := ⟨_, rfl⟩
  rw [← Q.out]
  have S2 : Hid (∀ w, Calls Tryz.prog 180 #[.agg (sitl o r ra rb n pc a b got).toArray, .agg #[.int .i64 got.n, .bool got.i, .int .i64 got.b, .int .i64 got.t, .int .i64 got.p, .int .i64 got.s]] w fun e w' => e = .returned (.agg (effl ⟨0, r, got, q, -1, wd0, -1⟩).toArray) ∧ Below w.heap.size w w') := by
    rw [Q.out]
    exact fun w => sets_any o r ra rb n pc a b got got w
  generalize hw1 : ((w.alloc (.cells (sitl o r ra rb n pc a b got : List Value).toArray 160)).alloc (.cells ([.int .i64 0, .int .i64 0, .int .i64 0, .bool false, .int .i64 0, .int .i64 0, .int .i64 0, .int .i64 0, .int .i64 0, .bool false, .int .i64 0, .int .i64 0, .int .i64 0, .int .i64 0, .int .i64 0, .int .i64 0, .bool false, .int .i64 0, .int .i64 0, .int .i64 0, .int .i64 0, .int .i64 0] : List Value).toArray 82)) = w1 at H0
  go_enter Tryz.func161, Tryz.ntmps161
  go_upto_region 1 with fail
  clear hw1
  have H := hid_mk (H0.out.tail.push (resF (w.heap.size + 1)) ⟨_, rfl, H0.out.cel (.head _)⟩)
  have RZ : Hid (∀ (us : List Value) (w1 : World), us.length = 22 → Hold w w1 [resF (w.heap.size + 1), celF w.heap.size (sitl o r ra rb n pc a b got)] → Hold w (w1.setCells (w.heap.size + 1) 0 us) [resF (w.heap.size + 1), celF w.heap.size (sitl o r ra rb n pc a b got)]) := fun us w1 hl h => h.sets_res us (by omega) (fun f hf k hk => by
    simp only [List.mem_cons, List.not_mem_nil, or_false] at hf
    subst hf
    simp only [celF] at hk
    omega) hl
  clear H0 Q
  have c0 := (H.out.cel (.tail _ (.head _))).c 23 _ rfl
  have c1 := (H.out.cel (.tail _ (.head _))).c 24 _ rfl
  have c2 := (H.out.cel (.tail _ (.head _))).c 25 _ rfl
  have c3 := (H.out.cel (.tail _ (.head _))).c 26 _ rfl
  have c4 := (H.out.cel (.tail _ (.head _))).c 27 _ rfl
  have c5 := (H.out.cel (.tail _ (.head _))).c 28 _ rfl
  have CS := hid_mk (H.out.cel (.tail _ (.head _)))
  go_wp2_with (first | (refine wpList_load_mid (by rfl) 160 _ (by rfl) (w.heap.size) 0 (by rfl) (sitl o r ra rb n pc a b got) _ CS.out.range Tryz.underlying160 rfl sizeSite ?_) | (go_at_call 180; refine (S2.out _).mono ?_; rintro e w6 ⟨rfl, hb⟩; refine Hid.out ?_))
  refine Lib.hid ?_
  have HZ := hid_mk (H.out.next hb)
  obtain ⟨vs, hvl, CZ⟩ := HZ.out.res (.head _)
  have TH := hid_mk (by have h := CZ.there; rw [hvl] at h; exact h)
  have hlv := hid_mk (lv_eff (CZ.sets (us := effl ⟨0, r, got, q, -1, wd0, -1⟩) (by rw [hvl]; rfl)))
  have B2 := hid_mk (below_sets (effl ⟨0, r, got, q, -1, wd0, -1⟩) HZ.out.bel (r := w.heap.size + 1) (by omega))
  clear CZ hb CS c0 c1 c2 c3 c4 c5 H
  go_wp2_with (refine wpList_store_mid (by rfl) 82 _ _ (by rfl) (w.heap.size + 1) 0 (effl ⟨0, r, got, q, -1, wd0, -1⟩).toArray (by rfl) (by rfl) TH.out sizeEff (effl_one _) ?_)
  refine bodyPost_ret (v := .agg (effl ⟨0, r, got, q, -1, wd0, -1⟩).toArray) (results_cell1 Tryz.results161 (by rfl) hlv.out) rfl ⟨rfl, B2.out⟩

end Go.Proofs.YtpkhnajhamnggaaGreatDoor

namespace Go.Proofs.YtpkhnajhamnggaaGreatDoor
open Go.ChangeShapes Go.WideShapes Go.ChangeAt Go.RowKit
set_option maxRecDepth 100000

set_option maxHeartbeats 8000000 in
theorem site_is (o r ra rb n : Int) (pc a b got : Wd) (w : World) :
    Calls Tryz.prog 160 #[.agg (sitl o r ra rb n pc a b got).toArray] w fun e w' => e = .returned (.agg (effl ⟨0, r, (if a.i = true then plnW 1 else plnW 0), pntW pc (wrap64 (pc.n + 1)), -1, wd0, -1⟩).toArray) ∧ Below w.heap.size w w' := by
  have H0 : Hid (Hold w ((w.alloc (.cells (sitl o r ra rb n pc a b got : List Value).toArray 160)).alloc (.cells ([.int .i64 0, .int .i64 0, .int .i64 0, .bool false, .int .i64 0, .int .i64 0, .int .i64 0, .int .i64 0, .int .i64 0, .bool false, .int .i64 0, .int .i64 0, .int .i64 0, .int .i64 0, .int .i64 0, .int .i64 0, .bool false, .int .i64 0, .int .i64 0, .int .i64 0, .int .i64 0, .int .i64 0] : List Value).toArray 82)) [celF (w.heap.size + 1) ([.int .i64 0, .int .i64 0, .int .i64 0, .bool false, .int .i64 0, .int .i64 0, .int .i64 0, .int .i64 0, .int .i64 0, .bool false, .int .i64 0, .int .i64 0, .int .i64 0, .int .i64 0, .int .i64 0, .int .i64 0, .bool false, .int .i64 0, .int .i64 0, .int .i64 0, .int .i64 0, .int .i64 0]), celF (w.heap.size) (sitl o r ra rb n pc a b got)]) := (((Hold.new w).box (sitl o r ra rb n pc a b got : List Value) 160 (w.heap.size) (by simp)).box ([.int .i64 0, .int .i64 0, .int .i64 0, .bool false, .int .i64 0, .int .i64 0, .int .i64 0, .int .i64 0, .int .i64 0, .bool false, .int .i64 0, .int .i64 0, .int .i64 0, .int .i64 0, .int .i64 0, .int .i64 0, .bool false, .int .i64 0, .int .i64 0, .int .i64 0, .int .i64 0, .int .i64 0] : List Value) 82 (w.heap.size + 1) (by simp))
  obtain ⟨q, Q⟩ : ∃ y, Hid (y = pntW pc (wrap64 (pc.n + 1))) := ⟨_, rfl⟩
  obtain ⟨y, Y⟩ : ∃ y, Hid (y = (if a.i = true then plnW 1 else plnW 0)) := ⟨_, rfl⟩
  rw [← Q.out, ← Y.out]
  have S2 : Hid (∀ w, Calls Tryz.prog 180 #[.agg (sitl o r ra rb n pc a b got).toArray, .agg #[.int .i64 y.n, .bool y.i, .int .i64 y.b, .int .i64 y.t, .int .i64 y.p, .int .i64 y.s]] w fun e w' => e = .returned (.agg (effl ⟨0, r, y, q, -1, wd0, -1⟩).toArray) ∧ Below w.heap.size w w') := by
    rw [Q.out]
    exact fun w => sets_any o r ra rb n pc a b got y w
  generalize hw1 : ((w.alloc (.cells (sitl o r ra rb n pc a b got : List Value).toArray 160)).alloc (.cells ([.int .i64 0, .int .i64 0, .int .i64 0, .bool false, .int .i64 0, .int .i64 0, .int .i64 0, .int .i64 0, .int .i64 0, .bool false, .int .i64 0, .int .i64 0, .int .i64 0, .int .i64 0, .int .i64 0, .int .i64 0, .bool false, .int .i64 0, .int .i64 0, .int .i64 0, .int .i64 0, .int .i64 0] : List Value).toArray 82)) = w1 at H0
  go_enter Tryz.func160, Tryz.ntmps160
  go_upto_region 1 with fail
  clear hw1
  have H := hid_mk (H0.out.tail.push (resF (w.heap.size + 1)) ⟨_, rfl, H0.out.cel (.head _)⟩)
  have RZ : Hid (∀ (us : List Value) (w1 : World), us.length = 22 → Hold w w1 [resF (w.heap.size + 1), celF w.heap.size (sitl o r ra rb n pc a b got)] → Hold w (w1.setCells (w.heap.size + 1) 0 us) [resF (w.heap.size + 1), celF w.heap.size (sitl o r ra rb n pc a b got)]) := fun us w1 hl h => h.sets_res us (by omega) (fun f hf k hk => by
    simp only [List.mem_cons, List.not_mem_nil, or_false] at hf
    subst hf
    simp only [celF] at hk
    omega) hl
  have c12 := (H.out.cel (.tail _ (.head _))).c 12 _ rfl
  clear H0 Q
  cases hi : a.i with
  | true =>
    have hk : y = plnW 1 := by rw [Y.out, hi]; rfl
    have S1 : Hid (∀ w, Calls Tryz.prog 142 #[.int .i64 1] w fun e w' => e = .returned (.agg #[.int .i64 y.n, .bool y.i, .int .i64 y.b, .int .i64 y.t, .int .i64 y.p, .int .i64 y.s]) ∧ Below w.heap.size w w') := by
      rw [hk]
      exact fun w => implPlain_any 1 w
    rw [hi] at c12
    clear hk Y
    go_upto_region 2 with fail
    clear c12
    have D0 := hid_mk H.out.drew
    refine wp_region_held_drew (S := fun w' => Hold w w' [resF (w.heap.size + 1), celF w.heap.size (sitl o r ra rb n pc a b got)]) (by kernel_rfl) D0.out (fun hHeld => ?_)
    refine take_on (i := 0) (d := 6) (v := .agg (sitl o r ra rb n pc a b got).toArray) rfl rfl (by kernel_rfl) (by kernel_rfl) (by kernel_rfl) (fun _ _ _ h => h) (by rfl) ?_ hHeld ?_
    · exact fun w' hSw => exec_ldm (by rfl) (by rfl) ((show Hold w w' [resF (w.heap.size + 1), celF w.heap.size (sitl o r ra rb n pc a b got)] from hSw).cel (.tail _ (.head _))).range Tryz.underlying160 rfl sizeSite
    simp only [Act.put, List.setIfInBounds_toArray, List.set_cons_zero, List.set_cons_succ]
    refine wpAnyH_ready (rs := [1]) (by kernel_rfl) (by simp) ?_
    refine AllReadyH.cons rfl (fun K hK => ?_) AllReadyH.nil
    go_simp
    refine (S1.out _).mono ?_
    rintro e w5 ⟨rfl, hb⟩
    have H1 := hid_mk (D0.out.next hb)
    clear hb
    refine hK.out _ _ H1.out (fun hHeld => ?_)
    clear hK K
    try simp only [Act.put, List.setIfInBounds_toArray, List.set_cons_zero, List.set_cons_succ]
    refine wpAnyH_ready (rs := [2]) (by kernel_rfl) (by simp) ?_
    refine AllReadyH.cons rfl (fun K hK => ?_) AllReadyH.nil
    go_simp
    refine (S2.out _).mono ?_
    rintro e w6 ⟨rfl, hb⟩
    have H2 := hid_mk (H1.out.next hb)
    clear hb
    obtain ⟨vs, hvl, CZ⟩ := H2.out.res (.head _)
    have TH := hid_mk (by have h := CZ.there; rw [hvl] at h; exact h)
    have hlv := hid_mk (lv_eff (CZ.sets (us := effl ⟨0, r, y, q, -1, wd0, -1⟩) (by rw [hvl]; rfl)))
    have B2 := hid_mk (below_sets (effl ⟨0, r, y, q, -1, wd0, -1⟩) H2.out.bel (r := w.heap.size + 1) (by omega))
    clear CZ
    refine hK.out _ _ H2.out (fun hHeld => ?_)
    clear hK K
    try simp only [Act.put, List.setIfInBounds_toArray, List.set_cons_zero, List.set_cons_succ]
    refine wpAnyH_ready (rs := [3]) (by kernel_rfl) (by simp) ?_
    refine AllReadyH.cons rfl (fun K hK => ?_) AllReadyH.nil
    refine step_stm (by rfl) 82 _ _ (by rfl) (w.heap.size + 1) 0 (effl ⟨0, r, y, q, -1, wd0, -1⟩).toArray (by rfl) (by rfl) TH.out sizeEff (effl_one _) ?_
    refine hK.out _ _ (RZ.out (effl ⟨0, r, y, q, -1, wd0, -1⟩) _ rfl H2.out) (fun hHeld => ?_)
    clear hK K
    refine wpAnyH_done (by kernel_rfl) ?_ _
    go_wp2
    refine bodyPost_ret (v := .agg (effl ⟨0, r, y, q, -1, wd0, -1⟩).toArray) (results_cell1 Tryz.results160 (by rfl) hlv.out) rfl ⟨rfl, B2.out⟩
  | false =>
    have hk : y = plnW 0 := by rw [Y.out, hi]; rfl
    have S1 : Hid (∀ w, Calls Tryz.prog 142 #[.int .i64 0] w fun e w' => e = .returned (.agg #[.int .i64 y.n, .bool y.i, .int .i64 y.b, .int .i64 y.t, .int .i64 y.p, .int .i64 y.s]) ∧ Below w.heap.size w w') := by
      rw [hk]
      exact fun w => implPlain_any 0 w
    rw [hi] at c12
    clear hk Y
    go_upto_region 3 with fail
    clear c12
    have D0 := hid_mk H.out.drew
    refine wp_region_held_drew (S := fun w' => Hold w w' [resF (w.heap.size + 1), celF w.heap.size (sitl o r ra rb n pc a b got)]) (by kernel_rfl) D0.out (fun hHeld => ?_)
    refine take_on (i := 0) (d := 9) (v := .agg (sitl o r ra rb n pc a b got).toArray) rfl rfl (by kernel_rfl) (by kernel_rfl) (by kernel_rfl) (fun _ _ _ h => h) (by rfl) ?_ hHeld ?_
    · exact fun w' hSw => exec_ldm (by rfl) (by rfl) ((show Hold w w' [resF (w.heap.size + 1), celF w.heap.size (sitl o r ra rb n pc a b got)] from hSw).cel (.tail _ (.head _))).range Tryz.underlying160 rfl sizeSite
    simp only [Act.put, List.setIfInBounds_toArray, List.set_cons_zero, List.set_cons_succ]
    refine wpAnyH_ready (rs := [1]) (by kernel_rfl) (by simp) ?_
    refine AllReadyH.cons rfl (fun K hK => ?_) AllReadyH.nil
    go_simp
    refine (S1.out _).mono ?_
    rintro e w5 ⟨rfl, hb⟩
    have H1 := hid_mk (D0.out.next hb)
    clear hb
    refine hK.out _ _ H1.out (fun hHeld => ?_)
    clear hK K
    try simp only [Act.put, List.setIfInBounds_toArray, List.set_cons_zero, List.set_cons_succ]
    refine wpAnyH_ready (rs := [2]) (by kernel_rfl) (by simp) ?_
    refine AllReadyH.cons rfl (fun K hK => ?_) AllReadyH.nil
    go_simp
    refine (S2.out _).mono ?_
    rintro e w6 ⟨rfl, hb⟩
    have H2 := hid_mk (H1.out.next hb)
    clear hb
    obtain ⟨vs, hvl, CZ⟩ := H2.out.res (.head _)
    have TH := hid_mk (by have h := CZ.there; rw [hvl] at h; exact h)
    have hlv := hid_mk (lv_eff (CZ.sets (us := effl ⟨0, r, y, q, -1, wd0, -1⟩) (by rw [hvl]; rfl)))
    have B2 := hid_mk (below_sets (effl ⟨0, r, y, q, -1, wd0, -1⟩) H2.out.bel (r := w.heap.size + 1) (by omega))
    clear CZ
    refine hK.out _ _ H2.out (fun hHeld => ?_)
    clear hK K
    try simp only [Act.put, List.setIfInBounds_toArray, List.set_cons_zero, List.set_cons_succ]
    refine wpAnyH_ready (rs := [3]) (by kernel_rfl) (by simp) ?_
    refine AllReadyH.cons rfl (fun K hK => ?_) AllReadyH.nil
    refine step_stm (by rfl) 82 _ _ (by rfl) (w.heap.size + 1) 0 (effl ⟨0, r, y, q, -1, wd0, -1⟩).toArray (by rfl) (by rfl) TH.out sizeEff (effl_one _) ?_
    refine hK.out _ _ (RZ.out (effl ⟨0, r, y, q, -1, wd0, -1⟩) _ rfl H2.out) (fun hHeld => ?_)
    clear hK K
    refine wpAnyH_done (by kernel_rfl) ?_ _
    go_wp2
    refine bodyPost_ret (v := .agg (effl ⟨0, r, y, q, -1, wd0, -1⟩).toArray) (results_cell1 Tryz.results160 (by rfl) hlv.out) rfl ⟨rfl, B2.out⟩

set_option maxHeartbeats 8000000 in
theorem site_halt (o r ra rb n : Int) (pc a b got : Wd) (w : World) :
    Calls Tryz.prog 166 #[.agg (sitl o r ra rb n pc a b got).toArray] w fun e w' => e = .returned (.agg (effl ⟨5, -1, wd0, pntW pc (wrap64 (pc.n + 1)), -1, wd0, -1⟩).toArray) ∧ Below w.heap.size w w' := by
  have H : Hid (Hold w ((w.alloc (.cells (sitl o r ra rb n pc a b got : List Value).toArray 160)).alloc (.cells ([.int .i64 0, .int .i64 0, .int .i64 0, .bool false, .int .i64 0, .int .i64 0, .int .i64 0, .int .i64 0, .int .i64 0, .bool false, .int .i64 0, .int .i64 0, .int .i64 0, .int .i64 0, .int .i64 0, .int .i64 0, .bool false, .int .i64 0, .int .i64 0, .int .i64 0, .int .i64 0, .int .i64 0] : List Value).toArray 82)) [celF (w.heap.size + 1) ([.int .i64 0, .int .i64 0, .int .i64 0, .bool false, .int .i64 0, .int .i64 0, .int .i64 0, .int .i64 0, .int .i64 0, .bool false, .int .i64 0, .int .i64 0, .int .i64 0, .int .i64 0, .int .i64 0, .int .i64 0, .bool false, .int .i64 0, .int .i64 0, .int .i64 0, .int .i64 0, .int .i64 0]), celF (w.heap.size) (sitl o r ra rb n pc a b got)]) := (((Hold.new w).box (sitl o r ra rb n pc a b got : List Value) 160 (w.heap.size) (by simp)).box ([.int .i64 0, .int .i64 0, .int .i64 0, .bool false, .int .i64 0, .int .i64 0, .int .i64 0, .int .i64 0, .int .i64 0, .bool false, .int .i64 0, .int .i64 0, .int .i64 0, .int .i64 0, .int .i64 0, .int .i64 0, .bool false, .int .i64 0, .int .i64 0, .int .i64 0, .int .i64 0, .int .i64 0] : List Value) 82 (w.heap.size + 1) (by simp))
  obtain ⟨q, Q⟩ : ∃ y, Hid (y = pntW pc (wrap64 (pc.n + 1))) := ⟨_, rfl⟩
  have S1 : Hid (∀ w, Calls Tryz.prog 167 #[.agg (sitl o r ra rb n pc a b got).toArray] w fun e w' => e = .returned (.agg (effl ⟨0, -1, wd0, q, -1, wd0, -1⟩).toArray) ∧ Below w.heap.size w w') := by
    rw [Q.out]
    exact fun w => pass_any o r ra rb n pc a b got w
  rw [← Q.out]
  generalize hw1 : ((w.alloc (.cells (sitl o r ra rb n pc a b got : List Value).toArray 160)).alloc (.cells ([.int .i64 0, .int .i64 0, .int .i64 0, .bool false, .int .i64 0, .int .i64 0, .int .i64 0, .int .i64 0, .int .i64 0, .bool false, .int .i64 0, .int .i64 0, .int .i64 0, .int .i64 0, .int .i64 0, .int .i64 0, .bool false, .int .i64 0, .int .i64 0, .int .i64 0, .int .i64 0, .int .i64 0] : List Value).toArray 82)) = w1 at H
  go_enter Tryz.func166, Tryz.ntmps166
  go_upto_region 1 with fail
  clear hw1
  have CS := hid_mk (H.out.cel (.tail _ (.head _)))
  go_wp2_with (first | (refine wpList_load_mid (by rfl) 160 _ (by rfl) (w.heap.size) 0 (by rfl) (sitl o r ra rb n pc a b got) _ CS.out.range Tryz.underlying160 rfl sizeSite ?_) | (go_at_call 167; refine (S1.out _).mono ?_; rintro e w2 ⟨rfl, hb⟩; refine Hid.out ?_))
  refine Lib.hid ?_
  replace H := hid_mk (H.out.next hb)
  have hz2 : w.heap.size + 1 < w2.heap.size := (H.out.cel (.head _)).lt
  have C0 := hid_mk (Cel.new w2 [.int .i64 0, .int .i64 0, .int .i64 0, .bool false, .int .i64 0, .int .i64 0, .int .i64 0, .int .i64 0, .int .i64 0, .bool false, .int .i64 0, .int .i64 0, .int .i64 0, .int .i64 0, .int .i64 0, .int .i64 0, .bool false, .int .i64 0, .int .i64 0, .int .i64 0, .int .i64 0, .int .i64 0] 82)
  replace H := hid_mk (H.out.box ([.int .i64 0, .int .i64 0, .int .i64 0, .bool false, .int .i64 0, .int .i64 0, .int .i64 0, .int .i64 0, .int .i64 0, .bool false, .int .i64 0, .int .i64 0, .int .i64 0, .int .i64 0, .int .i64 0, .int .i64 0, .bool false, .int .i64 0, .int .i64 0, .int .i64 0, .int .i64 0, .int .i64 0] : List Value) 82 w2.heap.size rfl)
  clear hb CS S1
  go_upto_region 2 with (refine wpList_store_mid (by rfl) 82 _ _ (by rfl) w2.heap.size 0 (effl ⟨0, -1, wd0, q, -1, wd0, -1⟩).toArray (by rfl) (by rfl) C0.out.there sizeEff (effl_one _) ?_)
  clear C0
  generalize w2.alloc (.cells ([.int .i64 0, .int .i64 0, .int .i64 0, .bool false, .int .i64 0, .int .i64 0, .int .i64 0, .int .i64 0, .int .i64 0, .bool false, .int .i64 0, .int .i64 0, .int .i64 0, .int .i64 0, .int .i64 0, .int .i64 0, .bool false, .int .i64 0, .int .i64 0, .int .i64 0, .int .i64 0, .int .i64 0] : List Value).toArray 82) = w2' at H ⊢
  generalize w2.heap.size = re at H hz2 ⊢
  have DD : Hid (∀ f ∈ [celF (w.heap.size + 1) ([.int .i64 0, .int .i64 0, .int .i64 0, .bool false, .int .i64 0, .int .i64 0, .int .i64 0, .int .i64 0, .int .i64 0, .bool false, .int .i64 0, .int .i64 0, .int .i64 0, .int .i64 0, .int .i64 0, .int .i64 0, .bool false, .int .i64 0, .int .i64 0, .int .i64 0, .int .i64 0, .int .i64 0]), celF (w.heap.size) (sitl o r ra rb n pc a b got)], ∀ k, f.S k → k ≠ re) := fun f hf k hk => by
    simp only [List.mem_cons, List.not_mem_nil, or_false] at hf
    rcases hf with rfl | rfl
    all_goals
      simp only [celF] at hk
      omega
  replace H : Hid (Hold w (w2'.setCells re 0 (effl ⟨0, -1, wd0, q, -1, wd0, -1⟩)) [celF re [.int .i64 0, .int .i64 (-1), .int .i64 0, .bool false, .int .i64 0, .int .i64 0, .int .i64 0, .int .i64 0, .int .i64 q.n, .bool q.i, .int .i64 q.b, .int .i64 q.t, .int .i64 q.p, .int .i64 q.s, .int .i64 (-1), .int .i64 0, .bool false, .int .i64 0, .int .i64 0, .int .i64 0, .int .i64 0, .int .i64 (-1)], celF (w.heap.size + 1) ([.int .i64 0, .int .i64 0, .int .i64 0, .bool false, .int .i64 0, .int .i64 0, .int .i64 0, .int .i64 0, .int .i64 0, .bool false, .int .i64 0, .int .i64 0, .int .i64 0, .int .i64 0, .int .i64 0, .int .i64 0, .bool false, .int .i64 0, .int .i64 0, .int .i64 0, .int .i64 0, .int .i64 0]), celF (w.heap.size) (sitl o r ra rb n pc a b got)]) := H.out.sets (effl ⟨0, -1, wd0, q, -1, wd0, -1⟩) (by omega) DD.out rfl
  generalize hw3 : w2'.setCells re 0 _ = w3 at H ⊢
  clear hw3
  have e0 := (H.out.cel (.head _)).c 0 _ rfl
  have g0 := (H.out.cel (.head _)).f 0 (by simp)
  go_upto_region 3 with fail
  clear e0 g0
  replace H : Hid (Hold w (w3.setCell ⟨re, 0, none⟩ (.int .i64 5)) [celF re [.int .i64 5, .int .i64 (-1), .int .i64 0, .bool false, .int .i64 0, .int .i64 0, .int .i64 0, .int .i64 0, .int .i64 q.n, .bool q.i, .int .i64 q.b, .int .i64 q.t, .int .i64 q.p, .int .i64 q.s, .int .i64 (-1), .int .i64 0, .bool false, .int .i64 0, .int .i64 0, .int .i64 0, .int .i64 0, .int .i64 (-1)], celF (w.heap.size + 1) ([.int .i64 0, .int .i64 0, .int .i64 0, .bool false, .int .i64 0, .int .i64 0, .int .i64 0, .int .i64 0, .int .i64 0, .bool false, .int .i64 0, .int .i64 0, .int .i64 0, .int .i64 0, .int .i64 0, .int .i64 0, .bool false, .int .i64 0, .int .i64 0, .int .i64 0, .int .i64 0, .int .i64 0]), celF (w.heap.size) (sitl o r ra rb n pc a b got)]) := (H.out.setd (by omega) DD.out 0 (.int .i64 5))
  generalize (w3.setCell ⟨re, 0, none⟩ (.int .i64 5)) = w4 at H ⊢
  have CE : Hid (Cel _ re (effl ⟨5, -1, wd0, q, -1, wd0, -1⟩)) := H.out.cel (.head _)
  have CZ := hid_mk (H.out.cel (.tail _ (.head _)))
  have C2 := hid_mk (CZ.out.sets (us := effl ⟨5, -1, wd0, q, -1, wd0, -1⟩) rfl)
  have B2 := hid_mk (below_sets (effl ⟨5, -1, wd0, q, -1, wd0, -1⟩) H.out.bel (r := w.heap.size + 1) (by omega))
  have hlv := hid_mk (lv_eff C2.out)
  go_wp2_with (first | (refine wpList_load_mid (by rfl) 82 _ (by rfl) re 0 (by rfl) (effl ⟨5, -1, wd0, q, -1, wd0, -1⟩) _ CE.out.range Tryz.underlying82 rfl sizeEff ?_) | (refine wpList_store_mid (by rfl) 82 _ _ (by rfl) (w.heap.size + 1) 0 (effl ⟨5, -1, wd0, q, -1, wd0, -1⟩).toArray (by rfl) (by rfl) CZ.out.there sizeEff (effl_one _) ?_))
  refine bodyPost_ret (v := .agg (effl ⟨5, -1, wd0, q, -1, wd0, -1⟩).toArray) (results_cell1 Tryz.results166 (by rfl) hlv.out) rfl ⟨rfl, B2.out⟩

set_option maxHeartbeats 8000000 in
theorem site_zero (o r ra rb n : Int) (pc a b got : Wd) (w : World) :
    Calls Tryz.prog 164 #[.agg (sitl o r ra rb n pc a b got).toArray] w fun e w' => e = .returned (.agg (effl ⟨0, -1, wd0, (if a.n = 0 then pntW pc (wrap64 (pc.n + n)) else pntW pc (wrap64 (pc.n + 1))), -1, wd0, -1⟩).toArray) ∧ Below w.heap.size w w' := by
  have H : Hid (Hold w ((w.alloc (.cells (sitl o r ra rb n pc a b got : List Value).toArray 160)).alloc (.cells ([.int .i64 0, .int .i64 0, .int .i64 0, .bool false, .int .i64 0, .int .i64 0, .int .i64 0, .int .i64 0, .int .i64 0, .bool false, .int .i64 0, .int .i64 0, .int .i64 0, .int .i64 0, .int .i64 0, .int .i64 0, .bool false, .int .i64 0, .int .i64 0, .int .i64 0, .int .i64 0, .int .i64 0] : List Value).toArray 82)) [celF (w.heap.size + 1) ([.int .i64 0, .int .i64 0, .int .i64 0, .bool false, .int .i64 0, .int .i64 0, .int .i64 0, .int .i64 0, .int .i64 0, .bool false, .int .i64 0, .int .i64 0, .int .i64 0, .int .i64 0, .int .i64 0, .int .i64 0, .bool false, .int .i64 0, .int .i64 0, .int .i64 0, .int .i64 0, .int .i64 0]), celF (w.heap.size) (sitl o r ra rb n pc a b got)]) := (((Hold.new w).box (sitl o r ra rb n pc a b got : List Value) 160 (w.heap.size) (by simp)).box ([.int .i64 0, .int .i64 0, .int .i64 0, .bool false, .int .i64 0, .int .i64 0, .int .i64 0, .int .i64 0, .int .i64 0, .bool false, .int .i64 0, .int .i64 0, .int .i64 0, .int .i64 0, .int .i64 0, .int .i64 0, .bool false, .int .i64 0, .int .i64 0, .int .i64 0, .int .i64 0, .int .i64 0] : List Value) 82 (w.heap.size + 1) (by simp))
  obtain ⟨q, Q⟩ : ∃ y, Hid (y = pntW pc (wrap64 (pc.n + 1))) := ⟨_, rfl⟩
  have S1 : Hid (∀ w, Calls Tryz.prog 167 #[.agg (sitl o r ra rb n pc a b got).toArray] w fun e w' => e = .returned (.agg (effl ⟨0, -1, wd0, q, -1, wd0, -1⟩).toArray) ∧ Below w.heap.size w w') := by
    rw [Q.out]
    exact fun w => pass_any o r ra rb n pc a b got w
  obtain ⟨y, Y⟩ : ∃ y, Hid (y = pntW pc (wrap64 (pc.n + n))) := ⟨_, rfl⟩
  have S3 : Hid (∀ w, Calls Tryz.prog 185 #[.agg (sitl o r ra rb n pc a b got).toArray, .int .i64 n] w fun e w' => e = .returned (.agg #[.int .i64 y.n, .bool y.i, .int .i64 y.b, .int .i64 y.t, .int .i64 y.p, .int .i64 y.s]) ∧ Below w.heap.size w w') := by
    rw [Y.out]
    exact fun w => onBy_any o r ra rb n pc a b got n w
  obtain ⟨u, U⟩ : ∃ u : Wd, Hid (u = (if a.n = 0 then pntW pc (wrap64 (pc.n + n)) else pntW pc (wrap64 (pc.n + 1)))) := ⟨_, rfl⟩
  rw [← U.out]
  generalize hw1 : ((w.alloc (.cells (sitl o r ra rb n pc a b got : List Value).toArray 160)).alloc (.cells ([.int .i64 0, .int .i64 0, .int .i64 0, .bool false, .int .i64 0, .int .i64 0, .int .i64 0, .int .i64 0, .int .i64 0, .bool false, .int .i64 0, .int .i64 0, .int .i64 0, .int .i64 0, .int .i64 0, .int .i64 0, .bool false, .int .i64 0, .int .i64 0, .int .i64 0, .int .i64 0, .int .i64 0] : List Value).toArray 82)) = w1 at H
  go_enter Tryz.func164, Tryz.ntmps164
  go_upto_region 1 with fail
  clear hw1
  have CS := hid_mk (H.out.cel (.tail _ (.head _)))
  go_wp2_with (first | (refine wpList_load_mid (by rfl) 160 _ (by rfl) (w.heap.size) 0 (by rfl) (sitl o r ra rb n pc a b got) _ CS.out.range Tryz.underlying160 rfl sizeSite ?_) | (go_at_call 167; refine (S1.out _).mono ?_; rintro e w2 ⟨rfl, hb⟩; refine Hid.out ?_))
  refine Lib.hid ?_
  replace H := hid_mk (H.out.next hb)
  have hz2 : w.heap.size + 1 < w2.heap.size := (H.out.cel (.head _)).lt
  have C0 := hid_mk (Cel.new w2 [.int .i64 0, .int .i64 0, .int .i64 0, .bool false, .int .i64 0, .int .i64 0, .int .i64 0, .int .i64 0, .int .i64 0, .bool false, .int .i64 0, .int .i64 0, .int .i64 0, .int .i64 0, .int .i64 0, .int .i64 0, .bool false, .int .i64 0, .int .i64 0, .int .i64 0, .int .i64 0, .int .i64 0] 82)
  replace H := hid_mk (H.out.box ([.int .i64 0, .int .i64 0, .int .i64 0, .bool false, .int .i64 0, .int .i64 0, .int .i64 0, .int .i64 0, .int .i64 0, .bool false, .int .i64 0, .int .i64 0, .int .i64 0, .int .i64 0, .int .i64 0, .int .i64 0, .bool false, .int .i64 0, .int .i64 0, .int .i64 0, .int .i64 0, .int .i64 0] : List Value) 82 w2.heap.size rfl)
  clear hb CS S1
  go_upto_region 2 with (refine wpList_store_mid (by rfl) 82 _ _ (by rfl) w2.heap.size 0 (effl ⟨0, -1, wd0, q, -1, wd0, -1⟩).toArray (by rfl) (by rfl) C0.out.there sizeEff (effl_one _) ?_)
  clear C0
  generalize w2.alloc (.cells ([.int .i64 0, .int .i64 0, .int .i64 0, .bool false, .int .i64 0, .int .i64 0, .int .i64 0, .int .i64 0, .int .i64 0, .bool false, .int .i64 0, .int .i64 0, .int .i64 0, .int .i64 0, .int .i64 0, .int .i64 0, .bool false, .int .i64 0, .int .i64 0, .int .i64 0, .int .i64 0, .int .i64 0] : List Value).toArray 82) = w2' at H ⊢
  generalize w2.heap.size = re at H hz2 ⊢
  have DD : Hid (∀ f ∈ [celF (w.heap.size + 1) ([.int .i64 0, .int .i64 0, .int .i64 0, .bool false, .int .i64 0, .int .i64 0, .int .i64 0, .int .i64 0, .int .i64 0, .bool false, .int .i64 0, .int .i64 0, .int .i64 0, .int .i64 0, .int .i64 0, .int .i64 0, .bool false, .int .i64 0, .int .i64 0, .int .i64 0, .int .i64 0, .int .i64 0]), celF (w.heap.size) (sitl o r ra rb n pc a b got)], ∀ k, f.S k → k ≠ re) := fun f hf k hk => by
    simp only [List.mem_cons, List.not_mem_nil, or_false] at hf
    rcases hf with rfl | rfl
    all_goals
      simp only [celF] at hk
      omega
  replace H : Hid (Hold w (w2'.setCells re 0 (effl ⟨0, -1, wd0, q, -1, wd0, -1⟩)) [celF re [.int .i64 0, .int .i64 (-1), .int .i64 0, .bool false, .int .i64 0, .int .i64 0, .int .i64 0, .int .i64 0, .int .i64 q.n, .bool q.i, .int .i64 q.b, .int .i64 q.t, .int .i64 q.p, .int .i64 q.s, .int .i64 (-1), .int .i64 0, .bool false, .int .i64 0, .int .i64 0, .int .i64 0, .int .i64 0, .int .i64 (-1)], celF (w.heap.size + 1) ([.int .i64 0, .int .i64 0, .int .i64 0, .bool false, .int .i64 0, .int .i64 0, .int .i64 0, .int .i64 0, .int .i64 0, .bool false, .int .i64 0, .int .i64 0, .int .i64 0, .int .i64 0, .int .i64 0, .int .i64 0, .bool false, .int .i64 0, .int .i64 0, .int .i64 0, .int .i64 0, .int .i64 0]), celF (w.heap.size) (sitl o r ra rb n pc a b got)]) := H.out.sets (effl ⟨0, -1, wd0, q, -1, wd0, -1⟩) (by omega) DD.out rfl
  generalize hw3 : w2'.setCells re 0 _ = w3 at H ⊢
  clear hw3
  have c11 := (H.out.cel (.tail _ (.tail _ (.head _)))).c 11 _ rfl
  have c4 := (H.out.cel (.tail _ (.tail _ (.head _)))).c 4 _ rfl
  have CT := hid_mk (H.out.cel (.tail _ (.tail _ (.head _))))
  by_cases ha : a.n = 0
  · have hu : u = y := U.out.trans ((if_pos ha).trans Y.out.symm)
    subst hu
    have hcm : (a.n == (0 : Int)) = true := by simp [ha]
    clear ha
    go_wp2_with (first | (refine wpList_load_mid (by rfl) 160 _ (by rfl) (w.heap.size) 0 (by rfl) (sitl o r ra rb n pc a b got) _ CT.out.range Tryz.underlying160 rfl sizeSite ?_) | (go_at_call 185; refine (S3.out _).mono ?_; rintro e w4 ⟨rfl, hb⟩; refine Hid.out ?_))
    refine Lib.hid ?_
    replace H := hid_mk (H.out.next hb)
    clear hb c11 c4 CT
    have e8 := (H.out.cel (.head _)).c 8 _ rfl
    have e9 := (H.out.cel (.head _)).c 9 _ rfl
    have e10 := (H.out.cel (.head _)).c 10 _ rfl
    have e11 := (H.out.cel (.head _)).c 11 _ rfl
    have e12 := (H.out.cel (.head _)).c 12 _ rfl
    have e13 := (H.out.cel (.head _)).c 13 _ rfl
    have g8 := (H.out.cel (.head _)).f 8 (by simp)
    have g9 := (H.out.cel (.head _)).f 9 (by simp)
    have g10 := (H.out.cel (.head _)).f 10 (by simp)
    have g11 := (H.out.cel (.head _)).f 11 (by simp)
    have g12 := (H.out.cel (.head _)).f 12 (by simp)
    have g13 := (H.out.cel (.head _)).f 13 (by simp)
    go_upto_region 4 with fail
    clear e8 g8 e9 g9 e10 g10 e11 g11 e12 g12 e13 g13
    replace H : Hid (Hold w ((((((w4.setCell ⟨re, 8, none⟩ (.int .i64 u.n)).setCell ⟨re, 9, none⟩ (.bool u.i)).setCell ⟨re, 10, none⟩ (.int .i64 u.b)).setCell ⟨re, 11, none⟩ (.int .i64 u.t)).setCell ⟨re, 12, none⟩ (.int .i64 u.p)).setCell ⟨re, 13, none⟩ (.int .i64 u.s)) [celF re [.int .i64 0, .int .i64 (-1), .int .i64 0, .bool false, .int .i64 0, .int .i64 0, .int .i64 0, .int .i64 0, .int .i64 u.n, .bool u.i, .int .i64 u.b, .int .i64 u.t, .int .i64 u.p, .int .i64 u.s, .int .i64 (-1), .int .i64 0, .bool false, .int .i64 0, .int .i64 0, .int .i64 0, .int .i64 0, .int .i64 (-1)], celF (w.heap.size + 1) ([.int .i64 0, .int .i64 0, .int .i64 0, .bool false, .int .i64 0, .int .i64 0, .int .i64 0, .int .i64 0, .int .i64 0, .bool false, .int .i64 0, .int .i64 0, .int .i64 0, .int .i64 0, .int .i64 0, .int .i64 0, .bool false, .int .i64 0, .int .i64 0, .int .i64 0, .int .i64 0, .int .i64 0]), celF (w.heap.size) (sitl o r ra rb n pc a b got)]) := ((((((H.out.setd (by omega) DD.out 8 (.int .i64 u.n)).setd (by omega) DD.out 9 (.bool u.i)).setd (by omega) DD.out 10 (.int .i64 u.b)).setd (by omega) DD.out 11 (.int .i64 u.t)).setd (by omega) DD.out 12 (.int .i64 u.p)).setd (by omega) DD.out 13 (.int .i64 u.s))
    generalize ((((((w4.setCell ⟨re, 8, none⟩ (.int .i64 u.n)).setCell ⟨re, 9, none⟩ (.bool u.i)).setCell ⟨re, 10, none⟩ (.int .i64 u.b)).setCell ⟨re, 11, none⟩ (.int .i64 u.t)).setCell ⟨re, 12, none⟩ (.int .i64 u.p)).setCell ⟨re, 13, none⟩ (.int .i64 u.s)) = w5 at H ⊢
    have CE : Hid (Cel _ re (effl ⟨0, -1, wd0, u, -1, wd0, -1⟩)) := H.out.cel (.head _)
    have CZ := hid_mk (H.out.cel (.tail _ (.head _)))
    have C2 := hid_mk (CZ.out.sets (us := effl ⟨0, -1, wd0, u, -1, wd0, -1⟩) rfl)
    have B2 := hid_mk (below_sets (effl ⟨0, -1, wd0, u, -1, wd0, -1⟩) H.out.bel (r := w.heap.size + 1) (by omega))
    have hlv := hid_mk (lv_eff C2.out)
    go_wp2_with (first | (refine wpList_load_mid (by rfl) 82 _ (by rfl) re 0 (by rfl) (effl ⟨0, -1, wd0, u, -1, wd0, -1⟩) _ CE.out.range Tryz.underlying82 rfl sizeEff ?_) | (refine wpList_store_mid (by rfl) 82 _ _ (by rfl) (w.heap.size + 1) 0 (effl ⟨0, -1, wd0, u, -1, wd0, -1⟩).toArray (by rfl) (by rfl) CZ.out.there sizeEff (effl_one _) ?_))
    refine bodyPost_ret (v := .agg (effl ⟨0, -1, wd0, u, -1, wd0, -1⟩).toArray) (results_cell1 Tryz.results164 (by rfl) hlv.out) rfl ⟨rfl, B2.out⟩
  · have hu : u = q := U.out.trans ((if_neg ha).trans Q.out.symm)
    subst hu
    have hcm : (a.n == (0 : Int)) = false := by simp [ha]
    clear ha CT
    have CE : Hid (Cel _ re (effl ⟨0, -1, wd0, u, -1, wd0, -1⟩)) := H.out.cel (.head _)
    have CZ := hid_mk (H.out.cel (.tail _ (.head _)))
    have C2 := hid_mk (CZ.out.sets (us := effl ⟨0, -1, wd0, u, -1, wd0, -1⟩) rfl)
    have B2 := hid_mk (below_sets (effl ⟨0, -1, wd0, u, -1, wd0, -1⟩) H.out.bel (r := w.heap.size + 1) (by omega))
    have hlv := hid_mk (lv_eff C2.out)
    go_wp2_with (first | (refine wpList_load_mid (by rfl) 82 _ (by rfl) re 0 (by rfl) (effl ⟨0, -1, wd0, u, -1, wd0, -1⟩) _ CE.out.range Tryz.underlying82 rfl sizeEff ?_) | (refine wpList_store_mid (by rfl) 82 _ _ (by rfl) (w.heap.size + 1) 0 (effl ⟨0, -1, wd0, u, -1, wd0, -1⟩).toArray (by rfl) (by rfl) CZ.out.there sizeEff (effl_one _) ?_))
    refine bodyPost_ret (v := .agg (effl ⟨0, -1, wd0, u, -1, wd0, -1⟩).toArray) (results_cell1 Tryz.results164 (by rfl) hlv.out) rfl ⟨rfl, B2.out⟩

set_option maxHeartbeats 8000000 in
theorem site_store (o r ra rb n : Int) (pc a b got : Wd) (w : World) :
    Calls Tryz.prog 162 #[.agg (sitl o r ra rb n pc a b got).toArray] w fun e w' => e = .returned (.agg (effl ⟨0, -1, wd0, pntW pc (wrap64 (pc.n + 1)), wrap64 (a.n + n), b, -1⟩).toArray) ∧ Below w.heap.size w w' := by
  have H : Hid (Hold w ((w.alloc (.cells (sitl o r ra rb n pc a b got : List Value).toArray 160)).alloc (.cells ([.int .i64 0, .int .i64 0, .int .i64 0, .bool false, .int .i64 0, .int .i64 0, .int .i64 0, .int .i64 0, .int .i64 0, .bool false, .int .i64 0, .int .i64 0, .int .i64 0, .int .i64 0, .int .i64 0, .int .i64 0, .bool false, .int .i64 0, .int .i64 0, .int .i64 0, .int .i64 0, .int .i64 0] : List Value).toArray 82)) [celF (w.heap.size + 1) ([.int .i64 0, .int .i64 0, .int .i64 0, .bool false, .int .i64 0, .int .i64 0, .int .i64 0, .int .i64 0, .int .i64 0, .bool false, .int .i64 0, .int .i64 0, .int .i64 0, .int .i64 0, .int .i64 0, .int .i64 0, .bool false, .int .i64 0, .int .i64 0, .int .i64 0, .int .i64 0, .int .i64 0]), celF (w.heap.size) (sitl o r ra rb n pc a b got)]) := (((Hold.new w).box (sitl o r ra rb n pc a b got : List Value) 160 (w.heap.size) (by simp)).box ([.int .i64 0, .int .i64 0, .int .i64 0, .bool false, .int .i64 0, .int .i64 0, .int .i64 0, .int .i64 0, .int .i64 0, .bool false, .int .i64 0, .int .i64 0, .int .i64 0, .int .i64 0, .int .i64 0, .int .i64 0, .bool false, .int .i64 0, .int .i64 0, .int .i64 0, .int .i64 0, .int .i64 0] : List Value) 82 (w.heap.size + 1) (by simp))
  obtain ⟨q, Q⟩ : ∃ y, Hid (y = pntW pc (wrap64 (pc.n + 1))) := ⟨_, rfl⟩
  have S1 : Hid (∀ w, Calls Tryz.prog 167 #[.agg (sitl o r ra rb n pc a b got).toArray] w fun e w' => e = .returned (.agg (effl ⟨0, -1, wd0, q, -1, wd0, -1⟩).toArray) ∧ Below w.heap.size w w') := by
    rw [Q.out]
    exact fun w => pass_any o r ra rb n pc a b got w
  rw [← Q.out]
  generalize hw1 : ((w.alloc (.cells (sitl o r ra rb n pc a b got : List Value).toArray 160)).alloc (.cells ([.int .i64 0, .int .i64 0, .int .i64 0, .bool false, .int .i64 0, .int .i64 0, .int .i64 0, .int .i64 0, .int .i64 0, .bool false, .int .i64 0, .int .i64 0, .int .i64 0, .int .i64 0, .int .i64 0, .int .i64 0, .bool false, .int .i64 0, .int .i64 0, .int .i64 0, .int .i64 0, .int .i64 0] : List Value).toArray 82)) = w1 at H
  go_enter Tryz.func162, Tryz.ntmps162
  go_upto_region 1 with fail
  clear hw1
  have CS := hid_mk (H.out.cel (.tail _ (.head _)))
  go_wp2_with (first | (refine wpList_load_mid (by rfl) 160 _ (by rfl) (w.heap.size) 0 (by rfl) (sitl o r ra rb n pc a b got) _ CS.out.range Tryz.underlying160 rfl sizeSite ?_) | (go_at_call 167; refine (S1.out _).mono ?_; rintro e w2 ⟨rfl, hb⟩; refine Hid.out ?_))
  refine Lib.hid ?_
  replace H := hid_mk (H.out.next hb)
  have hz2 : w.heap.size + 1 < w2.heap.size := (H.out.cel (.head _)).lt
  have C0 := hid_mk (Cel.new w2 [.int .i64 0, .int .i64 0, .int .i64 0, .bool false, .int .i64 0, .int .i64 0, .int .i64 0, .int .i64 0, .int .i64 0, .bool false, .int .i64 0, .int .i64 0, .int .i64 0, .int .i64 0, .int .i64 0, .int .i64 0, .bool false, .int .i64 0, .int .i64 0, .int .i64 0, .int .i64 0, .int .i64 0] 82)
  replace H := hid_mk (H.out.box ([.int .i64 0, .int .i64 0, .int .i64 0, .bool false, .int .i64 0, .int .i64 0, .int .i64 0, .int .i64 0, .int .i64 0, .bool false, .int .i64 0, .int .i64 0, .int .i64 0, .int .i64 0, .int .i64 0, .int .i64 0, .bool false, .int .i64 0, .int .i64 0, .int .i64 0, .int .i64 0, .int .i64 0] : List Value) 82 w2.heap.size rfl)
  clear hb CS S1
  go_upto_region 2 with (refine wpList_store_mid (by rfl) 82 _ _ (by rfl) w2.heap.size 0 (effl ⟨0, -1, wd0, q, -1, wd0, -1⟩).toArray (by rfl) (by rfl) C0.out.there sizeEff (effl_one _) ?_)
  clear C0
  generalize w2.alloc (.cells ([.int .i64 0, .int .i64 0, .int .i64 0, .bool false, .int .i64 0, .int .i64 0, .int .i64 0, .int .i64 0, .int .i64 0, .bool false, .int .i64 0, .int .i64 0, .int .i64 0, .int .i64 0, .int .i64 0, .int .i64 0, .bool false, .int .i64 0, .int .i64 0, .int .i64 0, .int .i64 0, .int .i64 0] : List Value).toArray 82) = w2' at H ⊢
  generalize w2.heap.size = re at H hz2 ⊢
  have DD : Hid (∀ f ∈ [celF (w.heap.size + 1) ([.int .i64 0, .int .i64 0, .int .i64 0, .bool false, .int .i64 0, .int .i64 0, .int .i64 0, .int .i64 0, .int .i64 0, .bool false, .int .i64 0, .int .i64 0, .int .i64 0, .int .i64 0, .int .i64 0, .int .i64 0, .bool false, .int .i64 0, .int .i64 0, .int .i64 0, .int .i64 0, .int .i64 0]), celF (w.heap.size) (sitl o r ra rb n pc a b got)], ∀ k, f.S k → k ≠ re) := fun f hf k hk => by
    simp only [List.mem_cons, List.not_mem_nil, or_false] at hf
    rcases hf with rfl | rfl
    all_goals
      simp only [celF] at hk
      omega
  replace H : Hid (Hold w (w2'.setCells re 0 (effl ⟨0, -1, wd0, q, -1, wd0, -1⟩)) [celF re [.int .i64 0, .int .i64 (-1), .int .i64 0, .bool false, .int .i64 0, .int .i64 0, .int .i64 0, .int .i64 0, .int .i64 q.n, .bool q.i, .int .i64 q.b, .int .i64 q.t, .int .i64 q.p, .int .i64 q.s, .int .i64 (-1), .int .i64 0, .bool false, .int .i64 0, .int .i64 0, .int .i64 0, .int .i64 0, .int .i64 (-1)], celF (w.heap.size + 1) ([.int .i64 0, .int .i64 0, .int .i64 0, .bool false, .int .i64 0, .int .i64 0, .int .i64 0, .int .i64 0, .int .i64 0, .bool false, .int .i64 0, .int .i64 0, .int .i64 0, .int .i64 0, .int .i64 0, .int .i64 0, .bool false, .int .i64 0, .int .i64 0, .int .i64 0, .int .i64 0, .int .i64 0]), celF (w.heap.size) (sitl o r ra rb n pc a b got)]) := H.out.sets (effl ⟨0, -1, wd0, q, -1, wd0, -1⟩) (by omega) DD.out rfl
  generalize hw3 : w2'.setCells re 0 _ = w3 at H ⊢
  clear hw3
  have e14 := (H.out.cel (.head _)).c 14 _ rfl
  have g14 := (H.out.cel (.head _)).f 14 (by simp)
  have e15 := (H.out.cel (.head _)).c 15 _ rfl
  have g15 := (H.out.cel (.head _)).f 15 (by simp)
  have e16 := (H.out.cel (.head _)).c 16 _ rfl
  have g16 := (H.out.cel (.head _)).f 16 (by simp)
  have e17 := (H.out.cel (.head _)).c 17 _ rfl
  have g17 := (H.out.cel (.head _)).f 17 (by simp)
  have e18 := (H.out.cel (.head _)).c 18 _ rfl
  have g18 := (H.out.cel (.head _)).f 18 (by simp)
  have e19 := (H.out.cel (.head _)).c 19 _ rfl
  have g19 := (H.out.cel (.head _)).f 19 (by simp)
  have e20 := (H.out.cel (.head _)).c 20 _ rfl
  have g20 := (H.out.cel (.head _)).f 20 (by simp)
  have Hc := hid_mk H.out.drew
  have HS : Hid (Hold w w3.drew [resF re, celF (w.heap.size + 1) ([.int .i64 0, .int .i64 0, .int .i64 0, .bool false, .int .i64 0, .int .i64 0, .int .i64 0, .int .i64 0, .int .i64 0, .bool false, .int .i64 0, .int .i64 0, .int .i64 0, .int .i64 0, .int .i64 0, .int .i64 0, .bool false, .int .i64 0, .int .i64 0, .int .i64 0, .int .i64 0, .int .i64 0]), celF (w.heap.size) (sitl o r ra rb n pc a b got)]) := Hc.out.tail.push (resF re) ⟨_, rfl, Hc.out.cel (.head _)⟩
  have HS0 : Hid (Hold w w3 [resF re, celF (w.heap.size + 1) ([.int .i64 0, .int .i64 0, .int .i64 0, .bool false, .int .i64 0, .int .i64 0, .int .i64 0, .int .i64 0, .int .i64 0, .bool false, .int .i64 0, .int .i64 0, .int .i64 0, .int .i64 0, .int .i64 0, .int .i64 0, .bool false, .int .i64 0, .int .i64 0, .int .i64 0, .int .i64 0, .int .i64 0]), celF (w.heap.size) (sitl o r ra rb n pc a b got)]) := H.out.tail.push (resF re) ⟨_, rfl, H.out.cel (.head _)⟩
  have ALL : Hid (∀ w' : World, Hold w w' [resF re, celF (w.heap.size + 1) ([.int .i64 0, .int .i64 0, .int .i64 0, .bool false, .int .i64 0, .int .i64 0, .int .i64 0, .int .i64 0, .int .i64 0, .bool false, .int .i64 0, .int .i64 0, .int .i64 0, .int .i64 0, .int .i64 0, .int .i64 0, .bool false, .int .i64 0, .int .i64 0, .int .i64 0, .int .i64 0, .int .i64 0]), celF (w.heap.size) (sitl o r ra rb n pc a b got)] → (w'.cell? ⟨w.heap.size, 4, none⟩ = some (.int .i64 n) ∧ w'.cell? ⟨w.heap.size, 11, none⟩ = some (.int .i64 a.n) ∧ w'.cell? ⟨w.heap.size, 17, none⟩ = some (.int .i64 b.n) ∧ w'.cell? ⟨w.heap.size, 18, none⟩ = some (.bool b.i) ∧ w'.cell? ⟨w.heap.size, 19, none⟩ = some (.int .i64 b.b) ∧ w'.cell? ⟨w.heap.size, 20, none⟩ = some (.int .i64 b.t) ∧ w'.cell? ⟨w.heap.size, 21, none⟩ = some (.int .i64 b.p) ∧ w'.cell? ⟨w.heap.size, 22, none⟩ = some (.int .i64 b.s) ∧ Hid (Hold w w' [resF re, celF (w.heap.size + 1) ([.int .i64 0, .int .i64 0, .int .i64 0, .bool false, .int .i64 0, .int .i64 0, .int .i64 0, .int .i64 0, .int .i64 0, .bool false, .int .i64 0, .int .i64 0, .int .i64 0, .int .i64 0, .int .i64 0, .int .i64 0, .bool false, .int .i64 0, .int .i64 0, .int .i64 0, .int .i64 0, .int .i64 0]), celF (w.heap.size) (sitl o r ra rb n pc a b got)]))) := fun w' h => ⟨(h.cel (.tail _ (.tail _ (.head _)))).c 4 _ rfl, (h.cel (.tail _ (.tail _ (.head _)))).c 11 _ rfl, (h.cel (.tail _ (.tail _ (.head _)))).c 17 _ rfl, (h.cel (.tail _ (.tail _ (.head _)))).c 18 _ rfl, (h.cel (.tail _ (.tail _ (.head _)))).c 19 _ rfl, (h.cel (.tail _ (.tail _ (.head _)))).c 20 _ rfl, (h.cel (.tail _ (.tail _ (.head _)))).c 21 _ rfl, (h.cel (.tail _ (.tail _ (.head _)))).c 22 _ rfl, h⟩
  have GET : Hid (∀ w' : World, (w'.cell? ⟨w.heap.size, 4, none⟩ = some (.int .i64 n) ∧ w'.cell? ⟨w.heap.size, 11, none⟩ = some (.int .i64 a.n) ∧ w'.cell? ⟨w.heap.size, 17, none⟩ = some (.int .i64 b.n) ∧ w'.cell? ⟨w.heap.size, 18, none⟩ = some (.bool b.i) ∧ w'.cell? ⟨w.heap.size, 19, none⟩ = some (.int .i64 b.b) ∧ w'.cell? ⟨w.heap.size, 20, none⟩ = some (.int .i64 b.t) ∧ w'.cell? ⟨w.heap.size, 21, none⟩ = some (.int .i64 b.p) ∧ w'.cell? ⟨w.heap.size, 22, none⟩ = some (.int .i64 b.s) ∧ Hid (Hold w w' [resF re, celF (w.heap.size + 1) ([.int .i64 0, .int .i64 0, .int .i64 0, .bool false, .int .i64 0, .int .i64 0, .int .i64 0, .int .i64 0, .int .i64 0, .bool false, .int .i64 0, .int .i64 0, .int .i64 0, .int .i64 0, .int .i64 0, .int .i64 0, .bool false, .int .i64 0, .int .i64 0, .int .i64 0, .int .i64 0, .int .i64 0]), celF (w.heap.size) (sitl o r ra rb n pc a b got)])) → Hold w w' [resF re, celF (w.heap.size + 1) ([.int .i64 0, .int .i64 0, .int .i64 0, .bool false, .int .i64 0, .int .i64 0, .int .i64 0, .int .i64 0, .int .i64 0, .bool false, .int .i64 0, .int .i64 0, .int .i64 0, .int .i64 0, .int .i64 0, .int .i64 0, .bool false, .int .i64 0, .int .i64 0, .int .i64 0, .int .i64 0, .int .i64 0]), celF (w.heap.size) (sitl o r ra rb n pc a b got)]) := fun w' h => h.2.2.2.2.2.2.2.2
  have RS : Hid (∀ (w1 : World) (i : Nat) (v : Value), Hold w w1 [resF re, celF (w.heap.size + 1) ([.int .i64 0, .int .i64 0, .int .i64 0, .bool false, .int .i64 0, .int .i64 0, .int .i64 0, .int .i64 0, .int .i64 0, .bool false, .int .i64 0, .int .i64 0, .int .i64 0, .int .i64 0, .int .i64 0, .int .i64 0, .bool false, .int .i64 0, .int .i64 0, .int .i64 0, .int .i64 0, .int .i64 0]), celF (w.heap.size) (sitl o r ra rb n pc a b got)] → Hold w (w1.setCell ⟨re, i, none⟩ v) [resF re, celF (w.heap.size + 1) ([.int .i64 0, .int .i64 0, .int .i64 0, .bool false, .int .i64 0, .int .i64 0, .int .i64 0, .int .i64 0, .int .i64 0, .bool false, .int .i64 0, .int .i64 0, .int .i64 0, .int .i64 0, .int .i64 0, .int .i64 0, .bool false, .int .i64 0, .int .i64 0, .int .i64 0, .int .i64 0, .int .i64 0]), celF (w.heap.size) (sitl o r ra rb n pc a b got)]) := fun w1 i v h => by
    obtain ⟨vs, hl, hC⟩ := h.res (.head _)
    exact ((h.tail.push (celF re vs) hC).setd (by omega) DD.out i v).tail.push (resF re) ⟨vs.set i v, by simpa using hl, hC.set i v⟩
  go_region_held3 (fun w' => w'.cell? ⟨w.heap.size, 4, none⟩ = some (.int .i64 n) ∧ w'.cell? ⟨w.heap.size, 11, none⟩ = some (.int .i64 a.n) ∧ w'.cell? ⟨w.heap.size, 17, none⟩ = some (.int .i64 b.n) ∧ w'.cell? ⟨w.heap.size, 18, none⟩ = some (.bool b.i) ∧ w'.cell? ⟨w.heap.size, 19, none⟩ = some (.int .i64 b.b) ∧ w'.cell? ⟨w.heap.size, 20, none⟩ = some (.int .i64 b.t) ∧ w'.cell? ⟨w.heap.size, 21, none⟩ = some (.int .i64 b.p) ∧ w'.cell? ⟨w.heap.size, 22, none⟩ = some (.int .i64 b.s) ∧ Hid (Hold w w' [resF re, celF (w.heap.size + 1) ([.int .i64 0, .int .i64 0, .int .i64 0, .bool false, .int .i64 0, .int .i64 0, .int .i64 0, .int .i64 0, .int .i64 0, .bool false, .int .i64 0, .int .i64 0, .int .i64 0, .int .i64 0, .int .i64 0, .int .i64 0, .bool false, .int .i64 0, .int .i64 0, .int .i64 0, .int .i64 0, .int .i64 0]), celF (w.heap.size) (sitl o r ra rb n pc a b got)]))
    (first | (with_reducible assumption) | (((with_reducible refine ALL.out _ ?_); (repeat' (first | (with_reducible exact HS.out) | (with_reducible exact HS0.out) | (with_reducible exact GET.out _ (by with_reducible assumption)) | (with_reducible apply RS.out) | (with_reducible apply Hold.drew) | fail)))))
    (first | fail)
  all_goals
    clear Hc HS HS0 ALL GET RS
    go_upto_region 3 with fail
    rw [show IntKind.i64.wrap (a.n + n) = wrap64 (a.n + n) from by first | rfl | simp [wrap64, IntKind.wrap_i64]]
    replace H : Hid (Hold w (((((((w3.setCell ⟨re, 14, none⟩ (.int .i64 (wrap64 (a.n + n)))).setCell ⟨re, 15, none⟩ (.int .i64 b.n)).setCell ⟨re, 16, none⟩ (.bool b.i)).setCell ⟨re, 17, none⟩ (.int .i64 b.b)).setCell ⟨re, 18, none⟩ (.int .i64 b.t)).setCell ⟨re, 19, none⟩ (.int .i64 b.p)).setCell ⟨re, 20, none⟩ (.int .i64 b.s)).drew [celF re [.int .i64 0, .int .i64 (-1), .int .i64 0, .bool false, .int .i64 0, .int .i64 0, .int .i64 0, .int .i64 0, .int .i64 q.n, .bool q.i, .int .i64 q.b, .int .i64 q.t, .int .i64 q.p, .int .i64 q.s, .int .i64 (wrap64 (a.n + n)), .int .i64 b.n, .bool b.i, .int .i64 b.b, .int .i64 b.t, .int .i64 b.p, .int .i64 b.s, .int .i64 (-1)], celF (w.heap.size + 1) ([.int .i64 0, .int .i64 0, .int .i64 0, .bool false, .int .i64 0, .int .i64 0, .int .i64 0, .int .i64 0, .int .i64 0, .bool false, .int .i64 0, .int .i64 0, .int .i64 0, .int .i64 0, .int .i64 0, .int .i64 0, .bool false, .int .i64 0, .int .i64 0, .int .i64 0, .int .i64 0, .int .i64 0]), celF (w.heap.size) (sitl o r ra rb n pc a b got)]) := ((((((((H.out.setd (by omega) DD.out 14 (.int .i64 (wrap64 (a.n + n)))).setd (by omega) DD.out 15 (.int .i64 b.n)).setd (by omega) DD.out 16 (.bool b.i)).setd (by omega) DD.out 17 (.int .i64 b.b)).setd (by omega) DD.out 18 (.int .i64 b.t)).setd (by omega) DD.out 19 (.int .i64 b.p)).setd (by omega) DD.out 20 (.int .i64 b.s))).drew
    generalize (((((((w3.setCell ⟨re, 14, none⟩ (.int .i64 (wrap64 (a.n + n)))).setCell ⟨re, 15, none⟩ (.int .i64 b.n)).setCell ⟨re, 16, none⟩ (.bool b.i)).setCell ⟨re, 17, none⟩ (.int .i64 b.b)).setCell ⟨re, 18, none⟩ (.int .i64 b.t)).setCell ⟨re, 19, none⟩ (.int .i64 b.p)).setCell ⟨re, 20, none⟩ (.int .i64 b.s)).drew = w4 at H ⊢
    clear e14 g14 e15 g15 e16 g16 e17 g17 e18 g18 e19 g19 e20 g20
    have CE : Hid (Cel _ re (effl ⟨0, -1, wd0, q, wrap64 (a.n + n), b, -1⟩)) := H.out.cel (.head _)
    have CZ := hid_mk (H.out.cel (.tail _ (.head _)))
    have C2 := hid_mk (CZ.out.sets (us := effl ⟨0, -1, wd0, q, wrap64 (a.n + n), b, -1⟩) rfl)
    have B2 := hid_mk (below_sets (effl ⟨0, -1, wd0, q, wrap64 (a.n + n), b, -1⟩) H.out.bel (r := w.heap.size + 1) (by omega))
    have hlv := hid_mk (lv_eff C2.out)
    go_wp2_with (first | (refine wpList_load_mid (by rfl) 82 _ (by rfl) re 0 (by rfl) (effl ⟨0, -1, wd0, q, wrap64 (a.n + n), b, -1⟩) _ CE.out.range Tryz.underlying82 rfl sizeEff ?_) | (refine wpList_store_mid (by rfl) 82 _ _ (by rfl) (w.heap.size + 1) 0 (effl ⟨0, -1, wd0, q, wrap64 (a.n + n), b, -1⟩).toArray (by rfl) (by rfl) CZ.out.there sizeEff (effl_one _) ?_))
    refine bodyPost_ret (v := .agg (effl ⟨0, -1, wd0, q, wrap64 (a.n + n), b, -1⟩).toArray) (results_cell1 Tryz.results162 (by rfl) hlv.out) rfl ⟨rfl, B2.out⟩

set_option maxHeartbeats 8000000 in
theorem site_gone (a0 a1 a2 a3 : Addr) (o r ra rb n : Int) (pc a b got : Wd) (w : World) (hE0 : Errs a0 a1 a2 a3 w) :
    Calls Tryz.prog 165 #[.agg (sitl o r ra rb n pc a b got).toArray] w fun e w' => e = .returned (.agg (effl ⟨tryZ a.n a.i a.b a.t a.p a.s a.n 32, -1, wd0, pntW pc (wrap64 (pc.n + 1)), -1, wd0, a.b⟩).toArray) ∧ Below w.heap.size w w' := by
  have H : Hid (Hold w ((w.alloc (.cells (sitl o r ra rb n pc a b got : List Value).toArray 160)).alloc (.cells ([.int .i64 0, .int .i64 0, .int .i64 0, .bool false, .int .i64 0, .int .i64 0, .int .i64 0, .int .i64 0, .int .i64 0, .bool false, .int .i64 0, .int .i64 0, .int .i64 0, .int .i64 0, .int .i64 0, .int .i64 0, .bool false, .int .i64 0, .int .i64 0, .int .i64 0, .int .i64 0, .int .i64 0] : List Value).toArray 82)) [celF (w.heap.size + 1) ([.int .i64 0, .int .i64 0, .int .i64 0, .bool false, .int .i64 0, .int .i64 0, .int .i64 0, .int .i64 0, .int .i64 0, .bool false, .int .i64 0, .int .i64 0, .int .i64 0, .int .i64 0, .int .i64 0, .int .i64 0, .bool false, .int .i64 0, .int .i64 0, .int .i64 0, .int .i64 0, .int .i64 0]), celF (w.heap.size) (sitl o r ra rb n pc a b got)]) := (((Hold.new w).box (sitl o r ra rb n pc a b got : List Value) 160 (w.heap.size) (by simp)).box ([.int .i64 0, .int .i64 0, .int .i64 0, .bool false, .int .i64 0, .int .i64 0, .int .i64 0, .int .i64 0, .int .i64 0, .bool false, .int .i64 0, .int .i64 0, .int .i64 0, .int .i64 0, .int .i64 0, .int .i64 0, .bool false, .int .i64 0, .int .i64 0, .int .i64 0, .int .i64 0, .int .i64 0] : List Value) 82 (w.heap.size + 1) (by simp))
  obtain ⟨q, Q⟩ : ∃ y, Hid (y = pntW pc (wrap64 (pc.n + 1))) := ⟨_, rfl⟩
  have S1 : Hid (∀ w, Calls Tryz.prog 167 #[.agg (sitl o r ra rb n pc a b got).toArray] w fun e w' => e = .returned (.agg (effl ⟨0, -1, wd0, q, -1, wd0, -1⟩).toArray) ∧ Below w.heap.size w w') := by
    rw [Q.out]
    exact fun w => pass_any o r ra rb n pc a b got w
  obtain ⟨z, hz⟩ : ∃ z, Hid (z = tryZ a.n a.i a.b a.t a.p a.s a.n 32) := ⟨_, rfl⟩
  have s3 := fun w h => implTry_any a0 a1 a2 a3 a.n a.i a.b a.t a.p a.s a.n 32 w h
  rw [← hz.out, ← Q.out]
  simp only [← hz.out] at s3
  have S3 := hid_mk s3
  have HE := hid_mk hE0
  clear s3 hE0
  generalize hw1 : ((w.alloc (.cells (sitl o r ra rb n pc a b got : List Value).toArray 160)).alloc (.cells ([.int .i64 0, .int .i64 0, .int .i64 0, .bool false, .int .i64 0, .int .i64 0, .int .i64 0, .int .i64 0, .int .i64 0, .bool false, .int .i64 0, .int .i64 0, .int .i64 0, .int .i64 0, .int .i64 0, .int .i64 0, .bool false, .int .i64 0, .int .i64 0, .int .i64 0, .int .i64 0, .int .i64 0] : List Value).toArray 82)) = w1 at H
  go_enter Tryz.func165, Tryz.ntmps165
  go_upto_region 1 with fail
  clear hw1
  have CS := hid_mk (H.out.cel (.tail _ (.head _)))
  go_wp2_with (first | (refine wpList_load_mid (by rfl) 160 _ (by rfl) (w.heap.size) 0 (by rfl) (sitl o r ra rb n pc a b got) _ CS.out.range Tryz.underlying160 rfl sizeSite ?_) | (go_at_call 167; refine (S1.out _).mono ?_; rintro e w2 ⟨rfl, hb⟩; refine Hid.out ?_))
  refine Lib.hid ?_
  replace H := hid_mk (H.out.next hb)
  have hz2 : w.heap.size + 1 < w2.heap.size := (H.out.cel (.head _)).lt
  have C0 := hid_mk (Cel.new w2 [.int .i64 0, .int .i64 0, .int .i64 0, .bool false, .int .i64 0, .int .i64 0, .int .i64 0, .int .i64 0, .int .i64 0, .bool false, .int .i64 0, .int .i64 0, .int .i64 0, .int .i64 0, .int .i64 0, .int .i64 0, .bool false, .int .i64 0, .int .i64 0, .int .i64 0, .int .i64 0, .int .i64 0] 82)
  replace H := hid_mk (H.out.box ([.int .i64 0, .int .i64 0, .int .i64 0, .bool false, .int .i64 0, .int .i64 0, .int .i64 0, .int .i64 0, .int .i64 0, .bool false, .int .i64 0, .int .i64 0, .int .i64 0, .int .i64 0, .int .i64 0, .int .i64 0, .bool false, .int .i64 0, .int .i64 0, .int .i64 0, .int .i64 0, .int .i64 0] : List Value) 82 w2.heap.size rfl)
  clear hb CS S1
  go_upto_region 2 with (refine wpList_store_mid (by rfl) 82 _ _ (by rfl) w2.heap.size 0 (effl ⟨0, -1, wd0, q, -1, wd0, -1⟩).toArray (by rfl) (by rfl) C0.out.there sizeEff (effl_one _) ?_)
  clear C0
  generalize w2.alloc (.cells ([.int .i64 0, .int .i64 0, .int .i64 0, .bool false, .int .i64 0, .int .i64 0, .int .i64 0, .int .i64 0, .int .i64 0, .bool false, .int .i64 0, .int .i64 0, .int .i64 0, .int .i64 0, .int .i64 0, .int .i64 0, .bool false, .int .i64 0, .int .i64 0, .int .i64 0, .int .i64 0, .int .i64 0] : List Value).toArray 82) = w2' at H ⊢
  generalize w2.heap.size = re at H hz2 ⊢
  have DD : Hid (∀ f ∈ [celF (w.heap.size + 1) ([.int .i64 0, .int .i64 0, .int .i64 0, .bool false, .int .i64 0, .int .i64 0, .int .i64 0, .int .i64 0, .int .i64 0, .bool false, .int .i64 0, .int .i64 0, .int .i64 0, .int .i64 0, .int .i64 0, .int .i64 0, .bool false, .int .i64 0, .int .i64 0, .int .i64 0, .int .i64 0, .int .i64 0]), celF (w.heap.size) (sitl o r ra rb n pc a b got)], ∀ k, f.S k → k ≠ re) := fun f hf k hk => by
    simp only [List.mem_cons, List.not_mem_nil, or_false] at hf
    rcases hf with rfl | rfl
    all_goals
      simp only [celF] at hk
      omega
  replace H : Hid (Hold w (w2'.setCells re 0 (effl ⟨0, -1, wd0, q, -1, wd0, -1⟩)) [celF re [.int .i64 0, .int .i64 (-1), .int .i64 0, .bool false, .int .i64 0, .int .i64 0, .int .i64 0, .int .i64 0, .int .i64 q.n, .bool q.i, .int .i64 q.b, .int .i64 q.t, .int .i64 q.p, .int .i64 q.s, .int .i64 (-1), .int .i64 0, .bool false, .int .i64 0, .int .i64 0, .int .i64 0, .int .i64 0, .int .i64 (-1)], celF (w.heap.size + 1) ([.int .i64 0, .int .i64 0, .int .i64 0, .bool false, .int .i64 0, .int .i64 0, .int .i64 0, .int .i64 0, .int .i64 0, .bool false, .int .i64 0, .int .i64 0, .int .i64 0, .int .i64 0, .int .i64 0, .int .i64 0, .bool false, .int .i64 0, .int .i64 0, .int .i64 0, .int .i64 0, .int .i64 0]), celF (w.heap.size) (sitl o r ra rb n pc a b got)]) := H.out.sets (effl ⟨0, -1, wd0, q, -1, wd0, -1⟩) (by omega) DD.out rfl
  generalize hw3 : w2'.setCells re 0 _ = w3 at H ⊢
  clear hw3
  have HS : Hid (Hold w w3.drew [resF re, celF (w.heap.size + 1) ([.int .i64 0, .int .i64 0, .int .i64 0, .bool false, .int .i64 0, .int .i64 0, .int .i64 0, .int .i64 0, .int .i64 0, .bool false, .int .i64 0, .int .i64 0, .int .i64 0, .int .i64 0, .int .i64 0, .int .i64 0, .bool false, .int .i64 0, .int .i64 0, .int .i64 0, .int .i64 0, .int .i64 0]), celF (w.heap.size) (sitl o r ra rb n pc a b got)]) := H.out.drew.tail.push (resF re) ⟨_, rfl, H.out.drew.cel (.head _)⟩
  have ALL : Hid (∀ w' : World, Hold w w' [resF re, celF (w.heap.size + 1) ([.int .i64 0, .int .i64 0, .int .i64 0, .bool false, .int .i64 0, .int .i64 0, .int .i64 0, .int .i64 0, .int .i64 0, .bool false, .int .i64 0, .int .i64 0, .int .i64 0, .int .i64 0, .int .i64 0, .int .i64 0, .bool false, .int .i64 0, .int .i64 0, .int .i64 0, .int .i64 0, .int .i64 0]), celF (w.heap.size) (sitl o r ra rb n pc a b got)] → (w'.cell? ⟨w.heap.size, 11, none⟩ = some (.int .i64 a.n) ∧ w'.cell? ⟨w.heap.size, 12, none⟩ = some (.bool a.i) ∧ w'.cell? ⟨w.heap.size, 13, none⟩ = some (.int .i64 a.b) ∧ w'.cell? ⟨w.heap.size, 14, none⟩ = some (.int .i64 a.t) ∧ w'.cell? ⟨w.heap.size, 15, none⟩ = some (.int .i64 a.p) ∧ w'.cell? ⟨w.heap.size, 16, none⟩ = some (.int .i64 a.s) ∧ Hid (Hold w w' [resF re, celF (w.heap.size + 1) ([.int .i64 0, .int .i64 0, .int .i64 0, .bool false, .int .i64 0, .int .i64 0, .int .i64 0, .int .i64 0, .int .i64 0, .bool false, .int .i64 0, .int .i64 0, .int .i64 0, .int .i64 0, .int .i64 0, .int .i64 0, .bool false, .int .i64 0, .int .i64 0, .int .i64 0, .int .i64 0, .int .i64 0]), celF (w.heap.size) (sitl o r ra rb n pc a b got)]))) := fun w' h => ⟨(h.cel (.tail _ (.tail _ (.head _)))).c 11 _ rfl, (h.cel (.tail _ (.tail _ (.head _)))).c 12 _ rfl, (h.cel (.tail _ (.tail _ (.head _)))).c 13 _ rfl, (h.cel (.tail _ (.tail _ (.head _)))).c 14 _ rfl, (h.cel (.tail _ (.tail _ (.head _)))).c 15 _ rfl, (h.cel (.tail _ (.tail _ (.head _)))).c 16 _ rfl, h⟩
  have GET : Hid (∀ w' : World, (w'.cell? ⟨w.heap.size, 11, none⟩ = some (.int .i64 a.n) ∧ w'.cell? ⟨w.heap.size, 12, none⟩ = some (.bool a.i) ∧ w'.cell? ⟨w.heap.size, 13, none⟩ = some (.int .i64 a.b) ∧ w'.cell? ⟨w.heap.size, 14, none⟩ = some (.int .i64 a.t) ∧ w'.cell? ⟨w.heap.size, 15, none⟩ = some (.int .i64 a.p) ∧ w'.cell? ⟨w.heap.size, 16, none⟩ = some (.int .i64 a.s) ∧ Hid (Hold w w' [resF re, celF (w.heap.size + 1) ([.int .i64 0, .int .i64 0, .int .i64 0, .bool false, .int .i64 0, .int .i64 0, .int .i64 0, .int .i64 0, .int .i64 0, .bool false, .int .i64 0, .int .i64 0, .int .i64 0, .int .i64 0, .int .i64 0, .int .i64 0, .bool false, .int .i64 0, .int .i64 0, .int .i64 0, .int .i64 0, .int .i64 0]), celF (w.heap.size) (sitl o r ra rb n pc a b got)])) → Hold w w' [resF re, celF (w.heap.size + 1) ([.int .i64 0, .int .i64 0, .int .i64 0, .bool false, .int .i64 0, .int .i64 0, .int .i64 0, .int .i64 0, .int .i64 0, .bool false, .int .i64 0, .int .i64 0, .int .i64 0, .int .i64 0, .int .i64 0, .int .i64 0, .bool false, .int .i64 0, .int .i64 0, .int .i64 0, .int .i64 0, .int .i64 0]), celF (w.heap.size) (sitl o r ra rb n pc a b got)]) := fun w' h => h.2.2.2.2.2.2
  have RS : Hid (∀ (w1 : World) (i : Nat) (v : Value), Hold w w1 [resF re, celF (w.heap.size + 1) ([.int .i64 0, .int .i64 0, .int .i64 0, .bool false, .int .i64 0, .int .i64 0, .int .i64 0, .int .i64 0, .int .i64 0, .bool false, .int .i64 0, .int .i64 0, .int .i64 0, .int .i64 0, .int .i64 0, .int .i64 0, .bool false, .int .i64 0, .int .i64 0, .int .i64 0, .int .i64 0, .int .i64 0]), celF (w.heap.size) (sitl o r ra rb n pc a b got)] → Hold w (w1.setCell ⟨re, i, none⟩ v) [resF re, celF (w.heap.size + 1) ([.int .i64 0, .int .i64 0, .int .i64 0, .bool false, .int .i64 0, .int .i64 0, .int .i64 0, .int .i64 0, .int .i64 0, .bool false, .int .i64 0, .int .i64 0, .int .i64 0, .int .i64 0, .int .i64 0, .int .i64 0, .bool false, .int .i64 0, .int .i64 0, .int .i64 0, .int .i64 0, .int .i64 0]), celF (w.heap.size) (sitl o r ra rb n pc a b got)]) := fun w1 i v h => by
    obtain ⟨vs, hl, hC⟩ := h.res (.head _)
    exact ((h.tail.push (celF re vs) hC).setd (by omega) DD.out i v).tail.push (resF re) ⟨vs.set i v, by simpa using hl, hC.set i v⟩
  go_region_held3 (fun w' => w'.cell? ⟨w.heap.size, 11, none⟩ = some (.int .i64 a.n) ∧ w'.cell? ⟨w.heap.size, 12, none⟩ = some (.bool a.i) ∧ w'.cell? ⟨w.heap.size, 13, none⟩ = some (.int .i64 a.b) ∧ w'.cell? ⟨w.heap.size, 14, none⟩ = some (.int .i64 a.t) ∧ w'.cell? ⟨w.heap.size, 15, none⟩ = some (.int .i64 a.p) ∧ w'.cell? ⟨w.heap.size, 16, none⟩ = some (.int .i64 a.s) ∧ Hid (Hold w w' [resF re, celF (w.heap.size + 1) ([.int .i64 0, .int .i64 0, .int .i64 0, .bool false, .int .i64 0, .int .i64 0, .int .i64 0, .int .i64 0, .int .i64 0, .bool false, .int .i64 0, .int .i64 0, .int .i64 0, .int .i64 0, .int .i64 0, .int .i64 0, .bool false, .int .i64 0, .int .i64 0, .int .i64 0, .int .i64 0, .int .i64 0]), celF (w.heap.size) (sitl o r ra rb n pc a b got)]))
    (first | (with_reducible assumption) | (((with_reducible refine ALL.out _ ?_); (repeat' (first | (with_reducible exact HS.out) | (with_reducible exact GET.out _ (by with_reducible assumption)) | (with_reducible exact HF.out) | (with_reducible apply RS.out) | fail)))))
    (first | (go_at_call 111; refine (S3.out _ (HE.out.below H.out.drew.bel)).mono ?_; rintro e w5 ⟨rfl, hb⟩; have HC := hid_mk (H.out.drew.next hb); have HF := hid_mk (HS.out.next hb); clear hb; have e0 := (HC.out.cel (.head _)).c 0 _ rfl; have g0 := (HC.out.cel (.head _)).f 0 (by simp); have e21 := (HC.out.cel (.head _)).c 21 _ rfl; have g21 := (HC.out.cel (.head _)).f 21 (by simp)))
  all_goals
    clear H HS ALL GET RS HF
    go_upto_region 3 with fail
    have H : Hid (Hold w ((w5.setCell ⟨re, 0, none⟩ (.int .i64 z)).setCell ⟨re, 21, none⟩ (.int .i64 a.b)) [celF re [.int .i64 z, .int .i64 (-1), .int .i64 0, .bool false, .int .i64 0, .int .i64 0, .int .i64 0, .int .i64 0, .int .i64 q.n, .bool q.i, .int .i64 q.b, .int .i64 q.t, .int .i64 q.p, .int .i64 q.s, .int .i64 (-1), .int .i64 0, .bool false, .int .i64 0, .int .i64 0, .int .i64 0, .int .i64 0, .int .i64 a.b], celF (w.heap.size + 1) ([.int .i64 0, .int .i64 0, .int .i64 0, .bool false, .int .i64 0, .int .i64 0, .int .i64 0, .int .i64 0, .int .i64 0, .bool false, .int .i64 0, .int .i64 0, .int .i64 0, .int .i64 0, .int .i64 0, .int .i64 0, .bool false, .int .i64 0, .int .i64 0, .int .i64 0, .int .i64 0, .int .i64 0]), celF (w.heap.size) (sitl o r ra rb n pc a b got)]) := (HC.out.setd (by omega) DD.out 0 (.int .i64 z)).setd (by omega) DD.out 21 (.int .i64 a.b)
    generalize ((w5.setCell ⟨re, 0, none⟩ (.int .i64 z)).setCell ⟨re, 21, none⟩ (.int .i64 a.b)) = w6 at H ⊢
    clear e0 g0 e21 g21 HC
    have CE : Hid (Cel _ re (effl ⟨z, -1, wd0, q, -1, wd0, a.b⟩)) := H.out.cel (.head _)
    have CZ := hid_mk (H.out.cel (.tail _ (.head _)))
    have C2 := hid_mk (CZ.out.sets (us := effl ⟨z, -1, wd0, q, -1, wd0, a.b⟩) rfl)
    have B2 := hid_mk (below_sets (effl ⟨z, -1, wd0, q, -1, wd0, a.b⟩) H.out.bel (r := w.heap.size + 1) (by omega))
    have hlv := hid_mk (lv_eff C2.out)
    go_wp2_with (first | (refine wpList_load_mid (by rfl) 82 _ (by rfl) re 0 (by rfl) (effl ⟨z, -1, wd0, q, -1, wd0, a.b⟩) _ CE.out.range Tryz.underlying82 rfl sizeEff ?_) | (refine wpList_store_mid (by rfl) 82 _ _ (by rfl) (w.heap.size + 1) 0 (effl ⟨z, -1, wd0, q, -1, wd0, a.b⟩).toArray (by rfl) (by rfl) CZ.out.there sizeEff (effl_one _) ?_))
    refine bodyPost_ret (v := .agg (effl ⟨z, -1, wd0, q, -1, wd0, a.b⟩).toArray) (results_cell1 Tryz.results165 (by rfl) hlv.out) rfl ⟨rfl, B2.out⟩

end Go.Proofs.YtpkhnajhamnggaaGreatDoor

namespace Go.Proofs.YtpkhnajhamnggaaGreatDoor
open Go.ChangeShapes Go.WideShapes Go.ChangeAt Go.RowKit
set_option maxRecDepth 100000

set_option maxHeartbeats 8000000 in
theorem site_jump (a0 a1 a2 a3 : Addr) (o r ra rb n : Int) (pc a b got : Wd) (w : World) (hE0 : Errs a0 a1 a2 a3 w) :
    Calls Tryz.prog 163 #[.agg (sitl o r ra rb n pc a b got).toArray] w fun e w' => e = .returned (.agg (effl ⟨runZ a.n a.i a.b a.t a.p a.s, r, pntW pc (wrap64 (pc.n + 1)), a, -1, wd0, -1⟩).toArray) ∧ Below w.heap.size w w' := by
  have H : Hid (Hold w ((w.alloc (.cells (sitl o r ra rb n pc a b got : List Value).toArray 160)).alloc (.cells ([.int .i64 0, .int .i64 0, .int .i64 0, .bool false, .int .i64 0, .int .i64 0, .int .i64 0, .int .i64 0, .int .i64 0, .bool false, .int .i64 0, .int .i64 0, .int .i64 0, .int .i64 0, .int .i64 0, .int .i64 0, .bool false, .int .i64 0, .int .i64 0, .int .i64 0, .int .i64 0, .int .i64 0] : List Value).toArray 82)) [celF (w.heap.size + 1) ([.int .i64 0, .int .i64 0, .int .i64 0, .bool false, .int .i64 0, .int .i64 0, .int .i64 0, .int .i64 0, .int .i64 0, .bool false, .int .i64 0, .int .i64 0, .int .i64 0, .int .i64 0, .int .i64 0, .int .i64 0, .bool false, .int .i64 0, .int .i64 0, .int .i64 0, .int .i64 0, .int .i64 0]), celF (w.heap.size) (sitl o r ra rb n pc a b got)]) := (((Hold.new w).box (sitl o r ra rb n pc a b got : List Value) 160 (w.heap.size) (by simp)).box ([.int .i64 0, .int .i64 0, .int .i64 0, .bool false, .int .i64 0, .int .i64 0, .int .i64 0, .int .i64 0, .int .i64 0, .bool false, .int .i64 0, .int .i64 0, .int .i64 0, .int .i64 0, .int .i64 0, .int .i64 0, .bool false, .int .i64 0, .int .i64 0, .int .i64 0, .int .i64 0, .int .i64 0] : List Value) 82 (w.heap.size + 1) (by simp))
  obtain ⟨q, Q⟩ : ∃ y, Hid (y = pntW pc (wrap64 (pc.n + 1))) := ⟨_, rfl⟩
  obtain ⟨z, hz⟩ : ∃ z, Hid (z = tryZ a.n a.i a.b a.t a.p a.s a.n 4) := ⟨_, rfl⟩
  have s3 := fun w h => implTry_any a0 a1 a2 a3 a.n a.i a.b a.t a.p a.s a.n 4 w h
  simp only [← hz.out] at s3
  have S3 := hid_mk s3
  have HE := hid_mk hE0
  have S1 : Hid (∀ w, Calls Tryz.prog 185 #[.agg (sitl o r ra rb n pc a b got).toArray, .int .i64 1] w fun e w' => e = .returned (.agg #[.int .i64 q.n, .bool q.i, .int .i64 q.b, .int .i64 q.t, .int .i64 q.p, .int .i64 q.s]) ∧ Below w.heap.size w w') := by
    rw [Q.out]
    exact fun w => onBy_any o r ra rb n pc a b got 1 w
  have S2 : Hid (∀ w, Calls Tryz.prog 180 #[.agg (sitl o r ra rb n pc a b got).toArray, .agg #[.int .i64 q.n, .bool q.i, .int .i64 q.b, .int .i64 q.t, .int .i64 q.p, .int .i64 q.s]] w fun e w' => e = .returned (.agg (effl ⟨0, r, q, q, -1, wd0, -1⟩).toArray) ∧ Below w.heap.size w w') := by
    have h := fun w => sets_any o r ra rb n pc a b got q w
    rw [← Q.out] at h
    exact h
  rw [show runZ a.n a.i a.b a.t a.p a.s = z from hz.out.symm, ← Q.out]
  clear s3 hE0
  generalize hw1 : ((w.alloc (.cells (sitl o r ra rb n pc a b got : List Value).toArray 160)).alloc (.cells ([.int .i64 0, .int .i64 0, .int .i64 0, .bool false, .int .i64 0, .int .i64 0, .int .i64 0, .int .i64 0, .int .i64 0, .bool false, .int .i64 0, .int .i64 0, .int .i64 0, .int .i64 0, .int .i64 0, .int .i64 0, .bool false, .int .i64 0, .int .i64 0, .int .i64 0, .int .i64 0, .int .i64 0] : List Value).toArray 82)) = w1 at H
  go_enter Tryz.func163, Tryz.ntmps163
  go_upto_region 1 with fail
  clear hw1
  have hz1 : w.heap.size + 1 < w1.heap.size := (H.out.cel (.head _)).lt
  go_cut [3] (fun pv wx => ∃ re, pv = .pointer (some ⟨re, 0, none⟩) ∧ w.heap.size + 1 < re ∧ Hid (Hold w wx [celF re [.int .i64 0, .int .i64 r, .int .i64 q.n, .bool q.i, .int .i64 q.b, .int .i64 q.t, .int .i64 q.p, .int .i64 q.s, .int .i64 q.n, .bool q.i, .int .i64 q.b, .int .i64 q.t, .int .i64 q.p, .int .i64 q.s, .int .i64 (-1), .int .i64 0, .bool false, .int .i64 0, .int .i64 0, .int .i64 0, .int .i64 0, .int .i64 (-1)], celF (w.heap.size + 1) ([.int .i64 0, .int .i64 0, .int .i64 0, .bool false, .int .i64 0, .int .i64 0, .int .i64 0, .int .i64 0, .int .i64 0, .bool false, .int .i64 0, .int .i64 0, .int .i64 0, .int .i64 0, .int .i64 0, .int .i64 0, .bool false, .int .i64 0, .int .i64 0, .int .i64 0, .int .i64 0, .int .i64 0]), celF (w.heap.size) (sitl o r ra rb n pc a b got)]))
  case first =>
    have D0 := hid_mk H.out.drew
    have hzd : w1.drew.heap.size = w1.heap.size := by simp
    refine wp_region_held_drew (S := fun w' => Hold w w' [celF (w.heap.size + 1) ([.int .i64 0, .int .i64 0, .int .i64 0, .bool false, .int .i64 0, .int .i64 0, .int .i64 0, .int .i64 0, .int .i64 0, .bool false, .int .i64 0, .int .i64 0, .int .i64 0, .int .i64 0, .int .i64 0, .int .i64 0, .bool false, .int .i64 0, .int .i64 0, .int .i64 0, .int .i64 0, .int .i64 0]), celF (w.heap.size) (sitl o r ra rb n pc a b got)]) (by kernel_rfl) D0.out (fun hHeld => ?_)
    generalize w1.drew = wd at D0 hHeld hzd ⊢
    have hzw : w.heap.size + 1 < wd.heap.size := by omega
    clear hzd H
    refine take_on (i := 0) (d := 4) (v := .agg (sitl o r ra rb n pc a b got).toArray) rfl rfl (by kernel_rfl) (by kernel_rfl) (by kernel_rfl) (fun _ _ _ h => h) (by rfl) ?_ hHeld ?_
    · exact fun w' hSw => exec_ldm (by rfl) (by rfl) ((show Hold w w' [celF (w.heap.size + 1) ([.int .i64 0, .int .i64 0, .int .i64 0, .bool false, .int .i64 0, .int .i64 0, .int .i64 0, .int .i64 0, .int .i64 0, .bool false, .int .i64 0, .int .i64 0, .int .i64 0, .int .i64 0, .int .i64 0, .int .i64 0, .bool false, .int .i64 0, .int .i64 0, .int .i64 0, .int .i64 0, .int .i64 0]), celF (w.heap.size) (sitl o r ra rb n pc a b got)] from hSw).cel (.tail _ (.head _))).range Tryz.underlying160 rfl sizeSite
    simp only [Act.put, List.setIfInBounds_toArray, List.set_cons_zero, List.set_cons_succ]
    refine take_on (i := 1) (d := 5) (v := .agg (sitl o r ra rb n pc a b got).toArray) rfl rfl (by kernel_rfl) (by kernel_rfl) (by kernel_rfl) (fun _ _ _ h => h) (by rfl) ?_ hHeld ?_
    · exact fun w' hSw => exec_ldm (by rfl) (by rfl) ((show Hold w w' [celF (w.heap.size + 1) ([.int .i64 0, .int .i64 0, .int .i64 0, .bool false, .int .i64 0, .int .i64 0, .int .i64 0, .int .i64 0, .int .i64 0, .bool false, .int .i64 0, .int .i64 0, .int .i64 0, .int .i64 0, .int .i64 0, .int .i64 0, .bool false, .int .i64 0, .int .i64 0, .int .i64 0, .int .i64 0, .int .i64 0]), celF (w.heap.size) (sitl o r ra rb n pc a b got)] from hSw).cel (.tail _ (.head _))).range Tryz.underlying160 rfl sizeSite
    simp only [Act.put, List.setIfInBounds_toArray, List.set_cons_zero, List.set_cons_succ]
    refine wpAnyH_ready (rs := [2, 4]) (by kernel_rfl) (by simp) ?_
    refine AllReadyH.cons rfl (fun K hK => ?_) (AllReadyH.cons rfl (fun K hK => ?_) AllReadyH.nil)
    · go_simp
      refine (S1.out _).mono ?_
      rintro e w5 ⟨rfl, hb⟩
      have H1 := hid_mk (D0.out.next hb)
      have zH1 := hb.size
      clear hb
      refine hK.out _ _ H1.out (fun hHeld => ?_)
      clear hK K
      try simp only [Act.put, List.setIfInBounds_toArray, List.set_cons_zero, List.set_cons_succ]
      refine wpAnyH_ready (rs := [3, 4]) (by kernel_rfl) (by simp) ?_
      refine AllReadyH.cons rfl (fun K hK => ?_) (AllReadyH.cons rfl (fun K hK => ?_) AllReadyH.nil)
      · go_simp
        refine (S2.out _).mono ?_
        rintro e w6 ⟨rfl, hb⟩
        have H2 := hid_mk (H1.out.next hb)
        have zH2 := hb.size
        clear hb
        refine hK.out _ _ H2.out (fun hHeld => ?_)
        clear hK K
        try simp only [Act.put, List.setIfInBounds_toArray, List.set_cons_zero, List.set_cons_succ]
        refine wpAnyH_ready (rs := [4]) (by kernel_rfl) (by simp) ?_
        refine AllReadyH.cons rfl (fun K hK => ?_) AllReadyH.nil
        go_simp
        have H3 := hid_mk (H2.out.alloc (.cells ([.int .i64 0, .int .i64 0, .int .i64 0, .bool false, .int .i64 0, .int .i64 0, .int .i64 0, .int .i64 0, .int .i64 0, .bool false, .int .i64 0, .int .i64 0, .int .i64 0, .int .i64 0, .int .i64 0, .int .i64 0, .bool false, .int .i64 0, .int .i64 0, .int .i64 0, .int .i64 0, .int .i64 0] : List Value).toArray 82))
        have BH3 := hid_mk (H2.out.box ([.int .i64 0, .int .i64 0, .int .i64 0, .bool false, .int .i64 0, .int .i64 0, .int .i64 0, .int .i64 0, .int .i64 0, .bool false, .int .i64 0, .int .i64 0, .int .i64 0, .int .i64 0, .int .i64 0, .int .i64 0, .bool false, .int .i64 0, .int .i64 0, .int .i64 0, .int .i64 0, .int .i64 0] : List Value) 82 w6.heap.size rfl)
        refine hK.out _ _ H3.out (fun hHeld => ?_)
        clear hK K
        try simp only [Act.put, List.setIfInBounds_toArray, List.set_cons_zero, List.set_cons_succ]
        have hre : w.heap.size + 1 < w6.heap.size := by omega
        obtain ⟨re, hrr⟩ : ∃ re, re = w6.heap.size := ⟨_, rfl⟩
        rw [← hrr] at BH3 hre ⊢
        generalize w6.alloc _ = wv at H3 BH3 hHeld ⊢
        clear hrr
        refine wpAnyH_ready (rs := [5]) (by kernel_rfl) (by simp) ?_
        refine AllReadyH.cons rfl (fun K hK => ?_) AllReadyH.nil
        have TH : Hid (wv.there re 0 22) := (BH3.out.cel (.head _)).there
        have DD : Hid (∀ f ∈ [celF (w.heap.size + 1) ([.int .i64 0, .int .i64 0, .int .i64 0, .bool false, .int .i64 0, .int .i64 0, .int .i64 0, .int .i64 0, .int .i64 0, .bool false, .int .i64 0, .int .i64 0, .int .i64 0, .int .i64 0, .int .i64 0, .int .i64 0, .bool false, .int .i64 0, .int .i64 0, .int .i64 0, .int .i64 0, .int .i64 0]), celF (w.heap.size) (sitl o r ra rb n pc a b got)], ∀ k, f.S k → k ≠ re) := fun f hf k hk => by
          simp only [List.mem_cons, List.not_mem_nil, or_false] at hf
          rcases hf with rfl | rfl
          all_goals
            simp only [celF] at hk
            omega
        have HN : Hid (Hold w (wv.setCells re 0 (effl ⟨0, r, q, q, -1, wd0, -1⟩)) [celF re [.int .i64 0, .int .i64 r, .int .i64 q.n, .bool q.i, .int .i64 q.b, .int .i64 q.t, .int .i64 q.p, .int .i64 q.s, .int .i64 q.n, .bool q.i, .int .i64 q.b, .int .i64 q.t, .int .i64 q.p, .int .i64 q.s, .int .i64 (-1), .int .i64 0, .bool false, .int .i64 0, .int .i64 0, .int .i64 0, .int .i64 0, .int .i64 (-1)], celF (w.heap.size + 1) ([.int .i64 0, .int .i64 0, .int .i64 0, .bool false, .int .i64 0, .int .i64 0, .int .i64 0, .int .i64 0, .int .i64 0, .bool false, .int .i64 0, .int .i64 0, .int .i64 0, .int .i64 0, .int .i64 0, .int .i64 0, .bool false, .int .i64 0, .int .i64 0, .int .i64 0, .int .i64 0, .int .i64 0]), celF (w.heap.size) (sitl o r ra rb n pc a b got)]) := BH3.out.sets (effl ⟨0, r, q, q, -1, wd0, -1⟩) (by omega) DD.out rfl
        refine step_stm (by rfl) 82 _ _ (by rfl) re 0 (effl ⟨0, r, q, q, -1, wd0, -1⟩).toArray (by rfl) (by rfl) TH.out sizeEff (effl_one _) ?_
        refine hK.out _ _ HN.out.tail (fun hHeld => ?_)
        clear hK K
        refine wpAnyH_done (by kernel_rfl) ?_ _
        go_wp2_with fail
        go_meet
        case rel => exact ⟨re, rfl, hre, HN.out⟩
      · go_simp
        have H2 := hid_mk (H1.out.alloc (.cells ([.int .i64 0, .int .i64 0, .int .i64 0, .bool false, .int .i64 0, .int .i64 0, .int .i64 0, .int .i64 0, .int .i64 0, .bool false, .int .i64 0, .int .i64 0, .int .i64 0, .int .i64 0, .int .i64 0, .int .i64 0, .bool false, .int .i64 0, .int .i64 0, .int .i64 0, .int .i64 0, .int .i64 0] : List Value).toArray 82))
        have BH2 := hid_mk (H1.out.box ([.int .i64 0, .int .i64 0, .int .i64 0, .bool false, .int .i64 0, .int .i64 0, .int .i64 0, .int .i64 0, .int .i64 0, .bool false, .int .i64 0, .int .i64 0, .int .i64 0, .int .i64 0, .int .i64 0, .int .i64 0, .bool false, .int .i64 0, .int .i64 0, .int .i64 0, .int .i64 0, .int .i64 0] : List Value) 82 w5.heap.size rfl)
        refine hK.out _ _ H2.out (fun hHeld => ?_)
        clear hK K
        try simp only [Act.put, List.setIfInBounds_toArray, List.set_cons_zero, List.set_cons_succ]
        have hre : w.heap.size + 1 < w5.heap.size := by omega
        obtain ⟨re, hrr⟩ : ∃ re, re = w5.heap.size := ⟨_, rfl⟩
        rw [← hrr] at BH2 hre ⊢
        generalize w5.alloc _ = wv at H2 BH2 hHeld ⊢
        clear hrr
        refine wpAnyH_ready (rs := [3]) (by kernel_rfl) (by simp) ?_
        refine AllReadyH.cons rfl (fun K hK => ?_) AllReadyH.nil
        go_simp
        refine (S2.out _).mono ?_
        rintro e w6 ⟨rfl, hb⟩
        have H3 := hid_mk (H2.out.next hb)
        have BH3 := hid_mk (BH2.out.next hb)
        clear hb
        refine hK.out _ _ H3.out (fun hHeld => ?_)
        clear hK K
        try simp only [Act.put, List.setIfInBounds_toArray, List.set_cons_zero, List.set_cons_succ]
        refine wpAnyH_ready (rs := [5]) (by kernel_rfl) (by simp) ?_
        refine AllReadyH.cons rfl (fun K hK => ?_) AllReadyH.nil
        have TH : Hid (w6.there re 0 22) := (BH3.out.cel (.head _)).there
        have DD : Hid (∀ f ∈ [celF (w.heap.size + 1) ([.int .i64 0, .int .i64 0, .int .i64 0, .bool false, .int .i64 0, .int .i64 0, .int .i64 0, .int .i64 0, .int .i64 0, .bool false, .int .i64 0, .int .i64 0, .int .i64 0, .int .i64 0, .int .i64 0, .int .i64 0, .bool false, .int .i64 0, .int .i64 0, .int .i64 0, .int .i64 0, .int .i64 0]), celF (w.heap.size) (sitl o r ra rb n pc a b got)], ∀ k, f.S k → k ≠ re) := fun f hf k hk => by
          simp only [List.mem_cons, List.not_mem_nil, or_false] at hf
          rcases hf with rfl | rfl
          all_goals
            simp only [celF] at hk
            omega
        have HN : Hid (Hold w (w6.setCells re 0 (effl ⟨0, r, q, q, -1, wd0, -1⟩)) [celF re [.int .i64 0, .int .i64 r, .int .i64 q.n, .bool q.i, .int .i64 q.b, .int .i64 q.t, .int .i64 q.p, .int .i64 q.s, .int .i64 q.n, .bool q.i, .int .i64 q.b, .int .i64 q.t, .int .i64 q.p, .int .i64 q.s, .int .i64 (-1), .int .i64 0, .bool false, .int .i64 0, .int .i64 0, .int .i64 0, .int .i64 0, .int .i64 (-1)], celF (w.heap.size + 1) ([.int .i64 0, .int .i64 0, .int .i64 0, .bool false, .int .i64 0, .int .i64 0, .int .i64 0, .int .i64 0, .int .i64 0, .bool false, .int .i64 0, .int .i64 0, .int .i64 0, .int .i64 0, .int .i64 0, .int .i64 0, .bool false, .int .i64 0, .int .i64 0, .int .i64 0, .int .i64 0, .int .i64 0]), celF (w.heap.size) (sitl o r ra rb n pc a b got)]) := BH3.out.sets (effl ⟨0, r, q, q, -1, wd0, -1⟩) (by omega) DD.out rfl
        refine step_stm (by rfl) 82 _ _ (by rfl) re 0 (effl ⟨0, r, q, q, -1, wd0, -1⟩).toArray (by rfl) (by rfl) TH.out sizeEff (effl_one _) ?_
        refine hK.out _ _ HN.out.tail (fun hHeld => ?_)
        clear hK K
        refine wpAnyH_done (by kernel_rfl) ?_ _
        go_wp2_with fail
        go_meet
        case rel => exact ⟨re, rfl, hre, HN.out⟩
    · go_simp
      have H1 := hid_mk (D0.out.alloc (.cells ([.int .i64 0, .int .i64 0, .int .i64 0, .bool false, .int .i64 0, .int .i64 0, .int .i64 0, .int .i64 0, .int .i64 0, .bool false, .int .i64 0, .int .i64 0, .int .i64 0, .int .i64 0, .int .i64 0, .int .i64 0, .bool false, .int .i64 0, .int .i64 0, .int .i64 0, .int .i64 0, .int .i64 0] : List Value).toArray 82))
      have BH1 := hid_mk (D0.out.box ([.int .i64 0, .int .i64 0, .int .i64 0, .bool false, .int .i64 0, .int .i64 0, .int .i64 0, .int .i64 0, .int .i64 0, .bool false, .int .i64 0, .int .i64 0, .int .i64 0, .int .i64 0, .int .i64 0, .int .i64 0, .bool false, .int .i64 0, .int .i64 0, .int .i64 0, .int .i64 0, .int .i64 0] : List Value) 82 wd.heap.size rfl)
      refine hK.out _ _ H1.out (fun hHeld => ?_)
      clear hK K
      try simp only [Act.put, List.setIfInBounds_toArray, List.set_cons_zero, List.set_cons_succ]
      have hre : w.heap.size + 1 < wd.heap.size := by omega
      obtain ⟨re, hrr⟩ : ∃ re, re = wd.heap.size := ⟨_, rfl⟩
      rw [← hrr] at BH1 hre ⊢
      generalize wd.alloc _ = wv at H1 BH1 hHeld ⊢
      clear hrr
      refine wpAnyH_ready (rs := [2]) (by kernel_rfl) (by simp) ?_
      refine AllReadyH.cons rfl (fun K hK => ?_) AllReadyH.nil
      go_simp
      refine (S1.out _).mono ?_
      rintro e w5 ⟨rfl, hb⟩
      have H2 := hid_mk (H1.out.next hb)
      have BH2 := hid_mk (BH1.out.next hb)
      clear hb
      refine hK.out _ _ H2.out (fun hHeld => ?_)
      clear hK K
      try simp only [Act.put, List.setIfInBounds_toArray, List.set_cons_zero, List.set_cons_succ]
      refine wpAnyH_ready (rs := [3]) (by kernel_rfl) (by simp) ?_
      refine AllReadyH.cons rfl (fun K hK => ?_) AllReadyH.nil
      go_simp
      refine (S2.out _).mono ?_
      rintro e w6 ⟨rfl, hb⟩
      have H3 := hid_mk (H2.out.next hb)
      have BH3 := hid_mk (BH2.out.next hb)
      clear hb
      refine hK.out _ _ H3.out (fun hHeld => ?_)
      clear hK K
      try simp only [Act.put, List.setIfInBounds_toArray, List.set_cons_zero, List.set_cons_succ]
      refine wpAnyH_ready (rs := [5]) (by kernel_rfl) (by simp) ?_
      refine AllReadyH.cons rfl (fun K hK => ?_) AllReadyH.nil
      have TH : Hid (w6.there re 0 22) := (BH3.out.cel (.head _)).there
      have DD : Hid (∀ f ∈ [celF (w.heap.size + 1) ([.int .i64 0, .int .i64 0, .int .i64 0, .bool false, .int .i64 0, .int .i64 0, .int .i64 0, .int .i64 0, .int .i64 0, .bool false, .int .i64 0, .int .i64 0, .int .i64 0, .int .i64 0, .int .i64 0, .int .i64 0, .bool false, .int .i64 0, .int .i64 0, .int .i64 0, .int .i64 0, .int .i64 0]), celF (w.heap.size) (sitl o r ra rb n pc a b got)], ∀ k, f.S k → k ≠ re) := fun f hf k hk => by
        simp only [List.mem_cons, List.not_mem_nil, or_false] at hf
        rcases hf with rfl | rfl
        all_goals
          simp only [celF] at hk
          omega
      have HN : Hid (Hold w (w6.setCells re 0 (effl ⟨0, r, q, q, -1, wd0, -1⟩)) [celF re [.int .i64 0, .int .i64 r, .int .i64 q.n, .bool q.i, .int .i64 q.b, .int .i64 q.t, .int .i64 q.p, .int .i64 q.s, .int .i64 q.n, .bool q.i, .int .i64 q.b, .int .i64 q.t, .int .i64 q.p, .int .i64 q.s, .int .i64 (-1), .int .i64 0, .bool false, .int .i64 0, .int .i64 0, .int .i64 0, .int .i64 0, .int .i64 (-1)], celF (w.heap.size + 1) ([.int .i64 0, .int .i64 0, .int .i64 0, .bool false, .int .i64 0, .int .i64 0, .int .i64 0, .int .i64 0, .int .i64 0, .bool false, .int .i64 0, .int .i64 0, .int .i64 0, .int .i64 0, .int .i64 0, .int .i64 0, .bool false, .int .i64 0, .int .i64 0, .int .i64 0, .int .i64 0, .int .i64 0]), celF (w.heap.size) (sitl o r ra rb n pc a b got)]) := BH3.out.sets (effl ⟨0, r, q, q, -1, wd0, -1⟩) (by omega) DD.out rfl
      refine step_stm (by rfl) 82 _ _ (by rfl) re 0 (effl ⟨0, r, q, q, -1, wd0, -1⟩).toArray (by rfl) (by rfl) TH.out sizeEff (effl_one _) ?_
      refine hK.out _ _ HN.out.tail (fun hHeld => ?_)
      clear hK K
      refine wpAnyH_done (by kernel_rfl) ?_ _
      go_wp2_with fail
      go_meet
      case rel => exact ⟨re, rfl, hre, HN.out⟩
  case' rest =>
    obtain ⟨re, rfl, hz2, H⟩ := hcut
    have DD : Hid (∀ f ∈ [celF (w.heap.size + 1) ([.int .i64 0, .int .i64 0, .int .i64 0, .bool false, .int .i64 0, .int .i64 0, .int .i64 0, .int .i64 0, .int .i64 0, .bool false, .int .i64 0, .int .i64 0, .int .i64 0, .int .i64 0, .int .i64 0, .int .i64 0, .bool false, .int .i64 0, .int .i64 0, .int .i64 0, .int .i64 0, .int .i64 0]), celF (w.heap.size) (sitl o r ra rb n pc a b got)], ∀ k, f.S k → k ≠ re) := fun f hf k hk => by
      simp only [List.mem_cons, List.not_mem_nil, or_false] at hf
      rcases hf with rfl | rfl
      all_goals
        simp only [celF] at hk
        omega
    have HS : Hid (Hold w wc.drew [resF re, celF (w.heap.size + 1) ([.int .i64 0, .int .i64 0, .int .i64 0, .bool false, .int .i64 0, .int .i64 0, .int .i64 0, .int .i64 0, .int .i64 0, .bool false, .int .i64 0, .int .i64 0, .int .i64 0, .int .i64 0, .int .i64 0, .int .i64 0, .bool false, .int .i64 0, .int .i64 0, .int .i64 0, .int .i64 0, .int .i64 0]), celF (w.heap.size) (sitl o r ra rb n pc a b got)]) := H.out.drew.tail.push (resF re) ⟨_, rfl, H.out.drew.cel (.head _)⟩
    have ALL : Hid (∀ w' : World, Hold w w' [resF re, celF (w.heap.size + 1) ([.int .i64 0, .int .i64 0, .int .i64 0, .bool false, .int .i64 0, .int .i64 0, .int .i64 0, .int .i64 0, .int .i64 0, .bool false, .int .i64 0, .int .i64 0, .int .i64 0, .int .i64 0, .int .i64 0, .int .i64 0, .bool false, .int .i64 0, .int .i64 0, .int .i64 0, .int .i64 0, .int .i64 0]), celF (w.heap.size) (sitl o r ra rb n pc a b got)] → (w'.cell? ⟨w.heap.size, 11, none⟩ = some (.int .i64 a.n) ∧ w'.cell? ⟨w.heap.size, 12, none⟩ = some (.bool a.i) ∧ w'.cell? ⟨w.heap.size, 13, none⟩ = some (.int .i64 a.b) ∧ w'.cell? ⟨w.heap.size, 14, none⟩ = some (.int .i64 a.t) ∧ w'.cell? ⟨w.heap.size, 15, none⟩ = some (.int .i64 a.p) ∧ w'.cell? ⟨w.heap.size, 16, none⟩ = some (.int .i64 a.s) ∧ Hid (Hold w w' [resF re, celF (w.heap.size + 1) ([.int .i64 0, .int .i64 0, .int .i64 0, .bool false, .int .i64 0, .int .i64 0, .int .i64 0, .int .i64 0, .int .i64 0, .bool false, .int .i64 0, .int .i64 0, .int .i64 0, .int .i64 0, .int .i64 0, .int .i64 0, .bool false, .int .i64 0, .int .i64 0, .int .i64 0, .int .i64 0, .int .i64 0]), celF (w.heap.size) (sitl o r ra rb n pc a b got)]))) := fun w' h => ⟨(h.cel (.tail _ (.tail _ (.head _)))).c 11 _ rfl, (h.cel (.tail _ (.tail _ (.head _)))).c 12 _ rfl, (h.cel (.tail _ (.tail _ (.head _)))).c 13 _ rfl, (h.cel (.tail _ (.tail _ (.head _)))).c 14 _ rfl, (h.cel (.tail _ (.tail _ (.head _)))).c 15 _ rfl, (h.cel (.tail _ (.tail _ (.head _)))).c 16 _ rfl, h⟩
    have GET : Hid (∀ w' : World, (w'.cell? ⟨w.heap.size, 11, none⟩ = some (.int .i64 a.n) ∧ w'.cell? ⟨w.heap.size, 12, none⟩ = some (.bool a.i) ∧ w'.cell? ⟨w.heap.size, 13, none⟩ = some (.int .i64 a.b) ∧ w'.cell? ⟨w.heap.size, 14, none⟩ = some (.int .i64 a.t) ∧ w'.cell? ⟨w.heap.size, 15, none⟩ = some (.int .i64 a.p) ∧ w'.cell? ⟨w.heap.size, 16, none⟩ = some (.int .i64 a.s) ∧ Hid (Hold w w' [resF re, celF (w.heap.size + 1) ([.int .i64 0, .int .i64 0, .int .i64 0, .bool false, .int .i64 0, .int .i64 0, .int .i64 0, .int .i64 0, .int .i64 0, .bool false, .int .i64 0, .int .i64 0, .int .i64 0, .int .i64 0, .int .i64 0, .int .i64 0, .bool false, .int .i64 0, .int .i64 0, .int .i64 0, .int .i64 0, .int .i64 0]), celF (w.heap.size) (sitl o r ra rb n pc a b got)])) → Hold w w' [resF re, celF (w.heap.size + 1) ([.int .i64 0, .int .i64 0, .int .i64 0, .bool false, .int .i64 0, .int .i64 0, .int .i64 0, .int .i64 0, .int .i64 0, .bool false, .int .i64 0, .int .i64 0, .int .i64 0, .int .i64 0, .int .i64 0, .int .i64 0, .bool false, .int .i64 0, .int .i64 0, .int .i64 0, .int .i64 0, .int .i64 0]), celF (w.heap.size) (sitl o r ra rb n pc a b got)]) := fun w' h => h.2.2.2.2.2.2
    have RS : Hid (∀ (w1 : World) (i : Nat) (v : Value), Hold w w1 [resF re, celF (w.heap.size + 1) ([.int .i64 0, .int .i64 0, .int .i64 0, .bool false, .int .i64 0, .int .i64 0, .int .i64 0, .int .i64 0, .int .i64 0, .bool false, .int .i64 0, .int .i64 0, .int .i64 0, .int .i64 0, .int .i64 0, .int .i64 0, .bool false, .int .i64 0, .int .i64 0, .int .i64 0, .int .i64 0, .int .i64 0]), celF (w.heap.size) (sitl o r ra rb n pc a b got)] → Hold w (w1.setCell ⟨re, i, none⟩ v) [resF re, celF (w.heap.size + 1) ([.int .i64 0, .int .i64 0, .int .i64 0, .bool false, .int .i64 0, .int .i64 0, .int .i64 0, .int .i64 0, .int .i64 0, .bool false, .int .i64 0, .int .i64 0, .int .i64 0, .int .i64 0, .int .i64 0, .int .i64 0, .bool false, .int .i64 0, .int .i64 0, .int .i64 0, .int .i64 0, .int .i64 0]), celF (w.heap.size) (sitl o r ra rb n pc a b got)]) := fun w1 i v h => by
      obtain ⟨vs, hl, hC⟩ := h.res (.head _)
      exact ((h.tail.push (celF re vs) hC).setd (by omega) DD.out i v).tail.push (resF re) ⟨vs.set i v, by simpa using hl, hC.set i v⟩
    clear S1 S2 Q hz
    go_wp2_with fail
    go_region_held3 (fun w' => w'.cell? ⟨w.heap.size, 11, none⟩ = some (.int .i64 a.n) ∧ w'.cell? ⟨w.heap.size, 12, none⟩ = some (.bool a.i) ∧ w'.cell? ⟨w.heap.size, 13, none⟩ = some (.int .i64 a.b) ∧ w'.cell? ⟨w.heap.size, 14, none⟩ = some (.int .i64 a.t) ∧ w'.cell? ⟨w.heap.size, 15, none⟩ = some (.int .i64 a.p) ∧ w'.cell? ⟨w.heap.size, 16, none⟩ = some (.int .i64 a.s) ∧ Hid (Hold w w' [resF re, celF (w.heap.size + 1) ([.int .i64 0, .int .i64 0, .int .i64 0, .bool false, .int .i64 0, .int .i64 0, .int .i64 0, .int .i64 0, .int .i64 0, .bool false, .int .i64 0, .int .i64 0, .int .i64 0, .int .i64 0, .int .i64 0, .int .i64 0, .bool false, .int .i64 0, .int .i64 0, .int .i64 0, .int .i64 0, .int .i64 0]), celF (w.heap.size) (sitl o r ra rb n pc a b got)]))
      (first | (with_reducible assumption) | (((with_reducible refine ALL.out _ ?_); (repeat' (first | (with_reducible exact HS.out) | (with_reducible exact GET.out _ (by with_reducible assumption)) | (with_reducible exact HF.out) | (with_reducible apply RS.out) | fail)))))
      (first | (go_at_call 111; refine (S3.out _ (HE.out.below H.out.drew.bel)).mono ?_; rintro e w7 ⟨rfl, hb⟩; have HC := hid_mk (H.out.drew.next hb); have HF := hid_mk (HS.out.next hb); clear hb; have e0 := (HC.out.cel (.head _)).c 0 _ rfl; have g0 := (HC.out.cel (.head _)).f 0 (by simp); have e8 := (HC.out.cel (.head _)).c 8 _ rfl; have g8 := (HC.out.cel (.head _)).f 8 (by simp); have e9 := (HC.out.cel (.head _)).c 9 _ rfl; have g9 := (HC.out.cel (.head _)).f 9 (by simp); have e10 := (HC.out.cel (.head _)).c 10 _ rfl; have g10 := (HC.out.cel (.head _)).f 10 (by simp); have e11 := (HC.out.cel (.head _)).c 11 _ rfl; have g11 := (HC.out.cel (.head _)).f 11 (by simp); have e12 := (HC.out.cel (.head _)).c 12 _ rfl; have g12 := (HC.out.cel (.head _)).f 12 (by simp); have e13 := (HC.out.cel (.head _)).c 13 _ rfl; have g13 := (HC.out.cel (.head _)).f 13 (by simp)))
    all_goals
      clear H HS ALL GET RS HF
      go_upto_region 3 with fail
      have H : Hid (Hold w (((((((w7.setCell ⟨re, 0, none⟩ (.int .i64 z)).setCell ⟨re, 8, none⟩ (.int .i64 a.n)).setCell ⟨re, 9, none⟩ (.bool a.i)).setCell ⟨re, 10, none⟩ (.int .i64 a.b)).setCell ⟨re, 11, none⟩ (.int .i64 a.t)).setCell ⟨re, 12, none⟩ (.int .i64 a.p)).setCell ⟨re, 13, none⟩ (.int .i64 a.s)) [celF re [.int .i64 z, .int .i64 r, .int .i64 q.n, .bool q.i, .int .i64 q.b, .int .i64 q.t, .int .i64 q.p, .int .i64 q.s, .int .i64 a.n, .bool a.i, .int .i64 a.b, .int .i64 a.t, .int .i64 a.p, .int .i64 a.s, .int .i64 (-1), .int .i64 0, .bool false, .int .i64 0, .int .i64 0, .int .i64 0, .int .i64 0, .int .i64 (-1)], celF (w.heap.size + 1) ([.int .i64 0, .int .i64 0, .int .i64 0, .bool false, .int .i64 0, .int .i64 0, .int .i64 0, .int .i64 0, .int .i64 0, .bool false, .int .i64 0, .int .i64 0, .int .i64 0, .int .i64 0, .int .i64 0, .int .i64 0, .bool false, .int .i64 0, .int .i64 0, .int .i64 0, .int .i64 0, .int .i64 0]), celF (w.heap.size) (sitl o r ra rb n pc a b got)]) := (((((((HC.out.setd (by omega) DD.out 0 (.int .i64 z)).setd (by omega) DD.out 8 (.int .i64 a.n)).setd (by omega) DD.out 9 (.bool a.i)).setd (by omega) DD.out 10 (.int .i64 a.b)).setd (by omega) DD.out 11 (.int .i64 a.t)).setd (by omega) DD.out 12 (.int .i64 a.p)).setd (by omega) DD.out 13 (.int .i64 a.s))
      generalize (((((((w7.setCell ⟨re, 0, none⟩ (.int .i64 z)).setCell ⟨re, 8, none⟩ (.int .i64 a.n)).setCell ⟨re, 9, none⟩ (.bool a.i)).setCell ⟨re, 10, none⟩ (.int .i64 a.b)).setCell ⟨re, 11, none⟩ (.int .i64 a.t)).setCell ⟨re, 12, none⟩ (.int .i64 a.p)).setCell ⟨re, 13, none⟩ (.int .i64 a.s)) = w8 at H ⊢
      clear e0 g0 e8 g8 e9 g9 e10 g10 e11 g11 e12 g12 e13 g13 HC
      have CE : Hid (Cel _ re (effl ⟨z, r, q, a, -1, wd0, -1⟩)) := H.out.cel (.head _)
      have CZ := hid_mk (H.out.cel (.tail _ (.head _)))
      have C2 := hid_mk (CZ.out.sets (us := effl ⟨z, r, q, a, -1, wd0, -1⟩) rfl)
      have B2 := hid_mk (below_sets (effl ⟨z, r, q, a, -1, wd0, -1⟩) H.out.bel (r := w.heap.size + 1) (by omega))
      have hlv := hid_mk (lv_eff C2.out)
      go_wp2_with (first | (refine wpList_load_mid (by rfl) 82 _ (by rfl) re 0 (by rfl) (effl ⟨z, r, q, a, -1, wd0, -1⟩) _ CE.out.range Tryz.underlying82 rfl sizeEff ?_) | (refine wpList_store_mid (by rfl) 82 _ _ (by rfl) (w.heap.size + 1) 0 (effl ⟨z, r, q, a, -1, wd0, -1⟩).toArray (by rfl) (by rfl) CZ.out.there sizeEff (effl_one _) ?_))
      refine bodyPost_ret (v := .agg (effl ⟨z, r, q, a, -1, wd0, -1⟩).toArray) (results_cell1 Tryz.results163 (by rfl) hlv.out) rfl ⟨rfl, B2.out⟩
end Go.Proofs.YtpkhnajhamnggaaGreatDoor
