/- The deferred function of the program's Work: an effect that traps is taken back. No condition. · A step of the program by its op, ahead of the deferred function. The four errors of the program hold what its text lays. · Work of the program: what it answers, at the ops 1 to 15: what the specification's Work answers. The four errors of the program hold what its text lays. -/
import Derived.Test.YtpkhnajhamnggaaGreatDoorZL
import Derived.Test.YtpkhnajhamnggaaGreatDoorWrkF
import Derived.Defers
namespace Go.Proofs.YtpkhnajhamnggaaGreatDoor
open Go.ChangeShapes Go.WideShapes Go.ChangeAt Go.RowKit
set_option maxRecDepth 100000

/-- An effect behind the deferred function. -/
def bckE (e : Eff) (pc : Wd) : Eff := if e.t = 0 then e else trpE e.t pc
theorem keep_sets {r : Nat} : ∀ (us : List Value) (o : Nat) (w : World), KeepBut r w (w.setCells r o us)
  | [], _, _ => KeepBut.refl _ _
  | u :: us, o, w => by rw [World.setCells]; exact ((KeepBut.refl r w).setCell o u).trans (keep_sets us _ _)

set_option maxHeartbeats 4000000 in
theorem workDone_any (rs rp : Nat) (E : Eff) (pc : Wd) (u : FrameMode) (w : World) (hC : Cel w rs (effl E)) (hP : Cel w rp (wl pc)) :
    CallsD Tryz.prog 132 #[.pointer (some ⟨rs, 0, none⟩), .pointer (some ⟨rp, 0, none⟩)] u w fun e u' w' => u' = u ∧ (e = .returned (.tuple #[]) ∧ Cel w' rs (effl (bckE E pc)) ∧ KeepBut rs w w') := by
  have c0 := hC.c 0 _ rfl
  obtain ⟨p0, p1, p2, p3, p4, p5⟩ := hP.c6
  by_cases ht : E.t = 0
  · have hcm : (E.t != 0) = false := by simp [ht]
    have hb : bckE E pc = E := if_pos ht
    rw [hb]
    have C := hid_mk hC
    clear hC hP
    go_enter_d Tryz.func132, Tryz.ntmps132
    go_wp2
    go_end0
    exact ⟨rfl, C.out, KeepBut.refl _ _⟩
  · have hcm : (E.t != 0) = true := by simp [ht]
    have hb : bckE E pc = trpE E.t pc := if_neg ht
    rw [hb]
    have C := hid_mk hC
    have s1 := hid_mk (trapped_any E.t pc)
    clear hC hP
    go_enter_d Tryz.func132, Tryz.ntmps132
    go_wp2_with (go_at_call 65; refine (s1.out _).mono ?_; rintro e w2 ⟨rfl, hb⟩; refine Hid.out ?_)
    refine Lib.hid ?_
    have C2 := hid_mk (C.out.below hb)
    have C3 := hid_mk (C2.out.sets (us := effl (trpE E.t pc)) rfl)
    have K3 := hid_mk ((KeepBut.ofBelow (q := rs) hb).trans (keep_sets (effl (trpE E.t pc)) 0 w2))
    go_wp2_with (refine wpList_store_mid (by rfl) 82 _ _ (by rfl) rs 0 (effl (trpE E.t pc)).toArray (by rfl) (by rfl) C2.out.there sizeEff (effl_one _) ?_)
    go_end0
    exact ⟨rfl, C3.out, K3.out⟩
end Go.Proofs.YtpkhnajhamnggaaGreatDoor

namespace Go.Proofs.YtpkhnajhamnggaaGreatDoor
open Go.ChangeShapes Go.WideShapes Go.ChangeAt Go.RowKit
set_option maxRecDepth 100000

/-- What a step answers, ahead of the deferred function. -/
def rawE (o r n : Int) (pc a b got : Wd) : Eff :=
  if o = 11 then ⟨0, -1, wd0, pntW pc (wrap64 (pc.n + 1)), wrap64 (a.n + n), b, -1⟩
  else if o = 12 then ⟨runZ a.n a.i a.b a.t a.p a.s, r, pntW pc (wrap64 (pc.n + 1)), a, -1, wd0, -1⟩
  else if o = 13 then ⟨0, -1, wd0, if a.n = 0 then pntW pc (wrap64 (pc.n + n)) else pntW pc (wrap64 (pc.n + 1)), -1, wd0, -1⟩
  else if o = 14 then ⟨tryZ a.n a.i a.b a.t a.p a.s a.n 32, -1, wd0, pntW pc (wrap64 (pc.n + 1)), -1, wd0, a.b⟩
  else if o = 15 then ⟨5, -1, wd0, pntW pc (wrap64 (pc.n + 1)), -1, wd0, -1⟩
  else ⟨0, r, valX o n a b got, pntW pc (wrap64 (pc.n + 1)), -1, wd0, -1⟩
theorem bck_raw (o r n : Int) (pc a b got : Wd) : bckE (rawE o r n pc a b got) pc = wrkE o r n pc a b got := by
  unfold rawE wrkE
  by_cases h1 : o = 11
  · simp only [if_pos h1]; rfl
  by_cases h2 : o = 12
  · simp only [if_neg h1, if_pos h2]
    by_cases hz : runZ a.n a.i a.b a.t a.p a.s = 0 <;> simp [bckE, hz]
  by_cases h3 : o = 13
  · simp only [if_neg h1, if_neg h2, if_pos h3]; rfl
  by_cases h4 : o = 14
  · simp only [if_neg h1, if_neg h2, if_neg h3, if_pos h4]
    by_cases hz : tryZ a.n a.i a.b a.t a.p a.s a.n 32 = 0 <;> simp [bckE, hz]
  by_cases h5 : o = 15
  · simp only [if_neg h1, if_neg h2, if_neg h3, if_neg h4, if_pos h5]; rfl
  simp only [if_neg h1, if_neg h2, if_neg h3, if_neg h4, if_neg h5]; rfl
/-- The number of an op's step. -/
def stpN (o : Int) : FuncId :=
  if o = 1 then 152 else if o = 2 then 153 else if o = 3 then 154 else if o = 4 then 155 else if o = 5 then 156 else if o = 6 then 157 else if o = 7 then 158 else if o = 8 then 159 else if o = 9 then 160 else if o = 10 then 161 else if o = 11 then 162 else if o = 12 then 163 else if o = 13 then 164 else if o = 14 then 165 else 166
theorem stpF_eq {o : Int} (ho : 1 ≤ o ∧ o ≤ 15) : stpF o = .func (.func (stpN o)) #[] #[] := by
  rcases op_cases ho with rfl | rfl | rfl | rfl | rfl | rfl | rfl | rfl | rfl | rfl | rfl | rfl | rfl | rfl | rfl <;> rfl
theorem stp_call {o : Int} (ho : 1 ≤ o ∧ o ≤ 15) (args : Array Value) (w : World) : (callFunc (stpN o) args).run Tryz.prog w = .ok (.enter (stpN o) args) w := by
  rcases op_cases ho with rfl | rfl | rfl | rfl | rfl | rfl | rfl | rfl | rfl | rfl | rfl | rfl | rfl | rfl | rfl <;> first | rfl | (simp [stpN, callFunc, go_sem]; done)
theorem step_any (a0 a1 a2 a3 : Addr) (o r ra rb n : Int) (pc a b got : Wd) (ho : 1 ≤ o ∧ o ≤ 15) (w : World) (hE : Errs a0 a1 a2 a3 w) :
    Calls Tryz.prog (stpN o) #[.agg (sitl o r ra rb n pc a b got).toArray] w fun e w' => e = .returned (.agg (effl (rawE o r n pc a b got)).toArray) ∧ Below w.heap.size w w' := by
  rcases op_cases ho with rfl | rfl | rfl | rfl | rfl | rfl | rfl | rfl | rfl | rfl | rfl | rfl | rfl | rfl | rfl
  · exact site_set _ r ra rb n pc a b got w
  · exact site_add _ r ra rb n pc a b got w
  · exact site_move _ r ra rb n pc a b got w
  · exact site_weak _ r ra rb n pc a b got w
  · exact site_bound _ r ra rb n pc a b got w
  · exact site_point _ r ra rb n pc a b got w
  · exact site_seal _ r ra rb n pc a b got w
  · exact site_open _ r ra rb n pc a b got w
  · exact site_is _ r ra rb n pc a b got w
  · exact site_load _ r ra rb n pc a b got w
  · exact site_store _ r ra rb n pc a b got w
  · exact site_jump a0 a1 a2 a3 _ r ra rb n pc a b got w hE
  · exact site_zero _ r ra rb n pc a b got w
  · exact site_gone a0 a1 a2 a3 _ r ra rb n pc a b got w hE
  · exact site_halt _ r ra rb n pc a b got w
end Go.Proofs.YtpkhnajhamnggaaGreatDoor

namespace Go.Proofs.YtpkhnajhamnggaaGreatDoor
open Go.ChangeShapes Go.WideShapes Go.ChangeAt Go.RowKit
set_option maxRecDepth 100000

set_option maxHeartbeats 8000000 in
theorem implWork_any (a0 a1 a2 a3 : Addr) (o r ra rb n : Int) (pc a b got : Wd) (ho : 1 ≤ o ∧ o ≤ 15) (w : World) (hE0 : Errs a0 a1 a2 a3 w) :
    Calls Tryz.prog 95 #[.agg #[.int .i64 o, .int .i64 r, .int .i64 ra, .int .i64 rb, .int .i64 n], .agg #[.int .i64 pc.n, .bool pc.i, .int .i64 pc.b, .int .i64 pc.t, .int .i64 pc.p, .int .i64 pc.s], .agg #[.int .i64 a.n, .bool a.i, .int .i64 a.b, .int .i64 a.t, .int .i64 a.p, .int .i64 a.s], .agg #[.int .i64 b.n, .bool b.i, .int .i64 b.b, .int .i64 b.t, .int .i64 b.p, .int .i64 b.s], .agg #[.int .i64 got.n, .bool got.i, .int .i64 got.b, .int .i64 got.t, .int .i64 got.p, .int .i64 got.s]] w fun e w' => e = .returned (.agg (effl (wrkE o r n pc a b got)).toArray) ∧ Below w.heap.size w w' := by
  have hmf : ∀ (fn : Fn) (first cap : Array Value) (w : World), (Instr.makeFunc fn first cap).run Tryz.prog w = .ok (.func fn first cap) w := fun _ _ _ _ => rfl
  have H : Hid (Hold w ((((((w.alloc (.cells (il o r ra rb n : List Value).toArray 76)).alloc (.cells (wl pc : List Value).toArray 38)).alloc (.cells (wl a : List Value).toArray 38)).alloc (.cells (wl b : List Value).toArray 38)).alloc (.cells (wl got : List Value).toArray 38)).alloc (.cells ([.int .i64 0, .int .i64 0, .int .i64 0, .bool false, .int .i64 0, .int .i64 0, .int .i64 0, .int .i64 0, .int .i64 0, .bool false, .int .i64 0, .int .i64 0, .int .i64 0, .int .i64 0, .int .i64 0, .int .i64 0, .bool false, .int .i64 0, .int .i64 0, .int .i64 0, .int .i64 0, .int .i64 0] : List Value).toArray 82)) [celF (w.heap.size + 1 + 1 + 1 + 1 + 1) ([.int .i64 0, .int .i64 0, .int .i64 0, .bool false, .int .i64 0, .int .i64 0, .int .i64 0, .int .i64 0, .int .i64 0, .bool false, .int .i64 0, .int .i64 0, .int .i64 0, .int .i64 0, .int .i64 0, .int .i64 0, .bool false, .int .i64 0, .int .i64 0, .int .i64 0, .int .i64 0, .int .i64 0]), celF (w.heap.size + 1 + 1 + 1 + 1) (wl got), celF (w.heap.size + 1 + 1 + 1) (wl b), celF (w.heap.size + 1 + 1) (wl a), celF (w.heap.size + 1) (wl pc), celF (w.heap.size) (il o r ra rb n)]) := (((((((Hold.new w).box (il o r ra rb n : List Value) 76 (w.heap.size) (by simp)).box (wl pc : List Value) 38 (w.heap.size + 1) (by simp)).box (wl a : List Value) 38 (w.heap.size + 1 + 1) (by simp)).box (wl b : List Value) 38 (w.heap.size + 1 + 1 + 1) (by simp)).box (wl got : List Value) 38 (w.heap.size + 1 + 1 + 1 + 1) (by simp)).box ([.int .i64 0, .int .i64 0, .int .i64 0, .bool false, .int .i64 0, .int .i64 0, .int .i64 0, .int .i64 0, .int .i64 0, .bool false, .int .i64 0, .int .i64 0, .int .i64 0, .int .i64 0, .int .i64 0, .int .i64 0, .bool false, .int .i64 0, .int .i64 0, .int .i64 0, .int .i64 0, .int .i64 0] : List Value) 82 (w.heap.size + 1 + 1 + 1 + 1 + 1) (by simp))
  obtain ⟨E, HEE⟩ : ∃ E, Hid (E = rawE o r n pc a b got) := ⟨_, rfl⟩
  obtain ⟨f, hf⟩ : ∃ f, f = stpN o := ⟨_, rfl⟩
  have s1 := fun w => stepOf_any o ho w
  rw [stpF_eq ho, ← hf] at s1
  have s2 := fun w h => step_any a0 a1 a2 a3 o r ra rb n pc a b got ho w h
  rw [← HEE.out, ← hf] at s2
  have hcf : ∀ (args : Array Value) (w : World), (callFunc f args).run Tryz.prog w = .ok (.enter f args) w := fun args w => by rw [hf]; exact stp_call ho args w
  have S1 := hid_mk s1
  have S2 := hid_mk s2
  have HE := hid_mk hE0
  rw [show wrkE o r n pc a b got = bckE E pc from by rw [HEE.out, bck_raw]]
  clear s1 s2 hE0 hf ho HEE
  generalize hw1 : ((((((w.alloc (.cells (il o r ra rb n : List Value).toArray 76)).alloc (.cells (wl pc : List Value).toArray 38)).alloc (.cells (wl a : List Value).toArray 38)).alloc (.cells (wl b : List Value).toArray 38)).alloc (.cells (wl got : List Value).toArray 38)).alloc (.cells ([.int .i64 0, .int .i64 0, .int .i64 0, .bool false, .int .i64 0, .int .i64 0, .int .i64 0, .int .i64 0, .int .i64 0, .bool false, .int .i64 0, .int .i64 0, .int .i64 0, .int .i64 0, .int .i64 0, .int .i64 0, .bool false, .int .i64 0, .int .i64 0, .int .i64 0, .int .i64 0, .int .i64 0] : List Value).toArray 82)) = w1 at H
  go_enter_defers Tryz.func95, Tryz.ntmps95
  go_upto_region 2 with fail
  clear hw1
  have D0 : Hid (Hold w w1.drew [resF (w.heap.size + 1 + 1 + 1 + 1 + 1), celF (w.heap.size + 1 + 1 + 1 + 1) (wl got), celF (w.heap.size + 1 + 1 + 1) (wl b), celF (w.heap.size + 1 + 1) (wl a), celF (w.heap.size + 1) (wl pc), celF (w.heap.size) (il o r ra rb n)]) := H.out.drew.tail.push (resF (w.heap.size + 1 + 1 + 1 + 1 + 1)) ⟨_, rfl, H.out.drew.cel (.head _)⟩
  have RZ : Hid (∀ (us : List Value) (w1 : World), us.length = 22 → Hold w w1 [resF (w.heap.size + 1 + 1 + 1 + 1 + 1), celF (w.heap.size + 1 + 1 + 1 + 1) (wl got), celF (w.heap.size + 1 + 1 + 1) (wl b), celF (w.heap.size + 1 + 1) (wl a), celF (w.heap.size + 1) (wl pc), celF (w.heap.size) (il o r ra rb n)] → Hold w (w1.setCells (w.heap.size + 1 + 1 + 1 + 1 + 1) 0 us) [resF (w.heap.size + 1 + 1 + 1 + 1 + 1), celF (w.heap.size + 1 + 1 + 1 + 1) (wl got), celF (w.heap.size + 1 + 1 + 1) (wl b), celF (w.heap.size + 1 + 1) (wl a), celF (w.heap.size + 1) (wl pc), celF (w.heap.size) (il o r ra rb n)]) := fun us w1 hl h => h.sets_res us (by omega) (fun f hf k hk => by
    simp only [List.mem_cons, List.not_mem_nil, or_false] at hf
    rcases hf with rfl | rfl | rfl | rfl | rfl
    all_goals
      simp only [celF] at hk
      omega) hl
  refine wp_region_noPanic ?_
  refine wp_region_held_drew (S := fun w' => Hold w w' [resF (w.heap.size + 1 + 1 + 1 + 1 + 1), celF (w.heap.size + 1 + 1 + 1 + 1) (wl got), celF (w.heap.size + 1 + 1 + 1) (wl b), celF (w.heap.size + 1 + 1) (wl a), celF (w.heap.size + 1) (wl pc), celF (w.heap.size) (il o r ra rb n)]) (by kernel_rfl) D0.out (fun hHeld => ?_)
  refine take_on (i := 0) (d := 12) (v := .pointer (some ⟨w.heap.size, 0, none⟩)) rfl rfl (by kernel_rfl) (by kernel_rfl) (by kernel_rfl) (fun _ _ _ h => h) (by rfl) ?_ hHeld ?_
  · (intro w' hSw; go_simp)
  simp only [Act.put, List.setIfInBounds_toArray, List.set_cons_zero, List.set_cons_succ]
  refine take_on (i := 1) (d := 13) (v := .int .i64 o) rfl rfl (by kernel_rfl) (by kernel_rfl) (by kernel_rfl) (fun _ _ _ h => h) (by rfl) ?_ hHeld ?_
  · (intro w' hSw; have hSx : Hold w w' [resF (w.heap.size + 1 + 1 + 1 + 1 + 1), celF (w.heap.size + 1 + 1 + 1 + 1) (wl got), celF (w.heap.size + 1 + 1 + 1) (wl b), celF (w.heap.size + 1 + 1) (wl a), celF (w.heap.size + 1) (wl pc), celF (w.heap.size) (il o r ra rb n)] := hSw; have c0 := (hSx.cel (.tail _ (.tail _ (.tail _ (.tail _ (.tail _ (.head _))))))).c 0 _ rfl; go_simp)
  simp only [Act.put, List.setIfInBounds_toArray, List.set_cons_zero, List.set_cons_succ]
  refine take_on (i := 3) (d := 15) (v := .agg #[.int .i64 o, .int .i64 r, .int .i64 ra, .int .i64 rb, .int .i64 n]) rfl rfl (by kernel_rfl) (by kernel_rfl) (by kernel_rfl) (fun _ _ _ h => h) (by rfl) ?_ hHeld ?_
  · (intro w' hSw; have hSx : Hold w w' [resF (w.heap.size + 1 + 1 + 1 + 1 + 1), celF (w.heap.size + 1 + 1 + 1 + 1) (wl got), celF (w.heap.size + 1 + 1 + 1) (wl b), celF (w.heap.size + 1 + 1) (wl a), celF (w.heap.size + 1) (wl pc), celF (w.heap.size) (il o r ra rb n)] := hSw; have c0 := (hSx.cel (.tail _ (.tail _ (.tail _ (.tail _ (.tail _ (.head _))))))).c 0 _ rfl; have c1 := (hSx.cel (.tail _ (.tail _ (.tail _ (.tail _ (.tail _ (.head _))))))).c 1 _ rfl; have c2 := (hSx.cel (.tail _ (.tail _ (.tail _ (.tail _ (.tail _ (.head _))))))).c 2 _ rfl; have c3 := (hSx.cel (.tail _ (.tail _ (.tail _ (.tail _ (.tail _ (.head _))))))).c 3 _ rfl; have c4 := (hSx.cel (.tail _ (.tail _ (.tail _ (.tail _ (.tail _ (.head _))))))).c 4 _ rfl; go_simp)
  simp only [Act.put, List.setIfInBounds_toArray, List.set_cons_zero, List.set_cons_succ]
  refine take_on (i := 4) (d := 16) (v := .agg #[.int .i64 pc.n, .bool pc.i, .int .i64 pc.b, .int .i64 pc.t, .int .i64 pc.p, .int .i64 pc.s]) rfl rfl (by kernel_rfl) (by kernel_rfl) (by kernel_rfl) (fun _ _ _ h => h) (by rfl) ?_ hHeld ?_
  · (intro w' hSw; have hSx : Hold w w' [resF (w.heap.size + 1 + 1 + 1 + 1 + 1), celF (w.heap.size + 1 + 1 + 1 + 1) (wl got), celF (w.heap.size + 1 + 1 + 1) (wl b), celF (w.heap.size + 1 + 1) (wl a), celF (w.heap.size + 1) (wl pc), celF (w.heap.size) (il o r ra rb n)] := hSw; have c0 := (hSx.cel (.tail _ (.tail _ (.tail _ (.tail _ (.head _)))))).c 0 _ rfl; have c1 := (hSx.cel (.tail _ (.tail _ (.tail _ (.tail _ (.head _)))))).c 1 _ rfl; have c2 := (hSx.cel (.tail _ (.tail _ (.tail _ (.tail _ (.head _)))))).c 2 _ rfl; have c3 := (hSx.cel (.tail _ (.tail _ (.tail _ (.tail _ (.head _)))))).c 3 _ rfl; have c4 := (hSx.cel (.tail _ (.tail _ (.tail _ (.tail _ (.head _)))))).c 4 _ rfl; have c5 := (hSx.cel (.tail _ (.tail _ (.tail _ (.tail _ (.head _)))))).c 5 _ rfl; go_simp)
  simp only [Act.put, List.setIfInBounds_toArray, List.set_cons_zero, List.set_cons_succ]
  refine take_on (i := 5) (d := 17) (v := .agg #[.int .i64 a.n, .bool a.i, .int .i64 a.b, .int .i64 a.t, .int .i64 a.p, .int .i64 a.s]) rfl rfl (by kernel_rfl) (by kernel_rfl) (by kernel_rfl) (fun _ _ _ h => h) (by rfl) ?_ hHeld ?_
  · (intro w' hSw; have hSx : Hold w w' [resF (w.heap.size + 1 + 1 + 1 + 1 + 1), celF (w.heap.size + 1 + 1 + 1 + 1) (wl got), celF (w.heap.size + 1 + 1 + 1) (wl b), celF (w.heap.size + 1 + 1) (wl a), celF (w.heap.size + 1) (wl pc), celF (w.heap.size) (il o r ra rb n)] := hSw; have c0 := (hSx.cel (.tail _ (.tail _ (.tail _ (.head _))))).c 0 _ rfl; have c1 := (hSx.cel (.tail _ (.tail _ (.tail _ (.head _))))).c 1 _ rfl; have c2 := (hSx.cel (.tail _ (.tail _ (.tail _ (.head _))))).c 2 _ rfl; have c3 := (hSx.cel (.tail _ (.tail _ (.tail _ (.head _))))).c 3 _ rfl; have c4 := (hSx.cel (.tail _ (.tail _ (.tail _ (.head _))))).c 4 _ rfl; have c5 := (hSx.cel (.tail _ (.tail _ (.tail _ (.head _))))).c 5 _ rfl; go_simp)
  simp only [Act.put, List.setIfInBounds_toArray, List.set_cons_zero, List.set_cons_succ]
  refine take_on (i := 6) (d := 18) (v := .agg #[.int .i64 b.n, .bool b.i, .int .i64 b.b, .int .i64 b.t, .int .i64 b.p, .int .i64 b.s]) rfl rfl (by kernel_rfl) (by kernel_rfl) (by kernel_rfl) (fun _ _ _ h => h) (by rfl) ?_ hHeld ?_
  · (intro w' hSw; have hSx : Hold w w' [resF (w.heap.size + 1 + 1 + 1 + 1 + 1), celF (w.heap.size + 1 + 1 + 1 + 1) (wl got), celF (w.heap.size + 1 + 1 + 1) (wl b), celF (w.heap.size + 1 + 1) (wl a), celF (w.heap.size + 1) (wl pc), celF (w.heap.size) (il o r ra rb n)] := hSw; have c0 := (hSx.cel (.tail _ (.tail _ (.head _)))).c 0 _ rfl; have c1 := (hSx.cel (.tail _ (.tail _ (.head _)))).c 1 _ rfl; have c2 := (hSx.cel (.tail _ (.tail _ (.head _)))).c 2 _ rfl; have c3 := (hSx.cel (.tail _ (.tail _ (.head _)))).c 3 _ rfl; have c4 := (hSx.cel (.tail _ (.tail _ (.head _)))).c 4 _ rfl; have c5 := (hSx.cel (.tail _ (.tail _ (.head _)))).c 5 _ rfl; go_simp)
  simp only [Act.put, List.setIfInBounds_toArray, List.set_cons_zero, List.set_cons_succ]
  refine take_on (i := 7) (d := 19) (v := .agg #[.int .i64 got.n, .bool got.i, .int .i64 got.b, .int .i64 got.t, .int .i64 got.p, .int .i64 got.s]) rfl rfl (by kernel_rfl) (by kernel_rfl) (by kernel_rfl) (fun _ _ _ h => h) (by rfl) ?_ hHeld ?_
  · (intro w' hSw; have hSx : Hold w w' [resF (w.heap.size + 1 + 1 + 1 + 1 + 1), celF (w.heap.size + 1 + 1 + 1 + 1) (wl got), celF (w.heap.size + 1 + 1 + 1) (wl b), celF (w.heap.size + 1 + 1) (wl a), celF (w.heap.size + 1) (wl pc), celF (w.heap.size) (il o r ra rb n)] := hSw; have c0 := (hSx.cel (.tail _ (.head _))).c 0 _ rfl; have c1 := (hSx.cel (.tail _ (.head _))).c 1 _ rfl; have c2 := (hSx.cel (.tail _ (.head _))).c 2 _ rfl; have c3 := (hSx.cel (.tail _ (.head _))).c 3 _ rfl; have c4 := (hSx.cel (.tail _ (.head _))).c 4 _ rfl; have c5 := (hSx.cel (.tail _ (.head _))).c 5 _ rfl; go_simp)
  simp only [Act.put, List.setIfInBounds_toArray, List.set_cons_zero, List.set_cons_succ]
  refine take_on (i := 8) (d := 20) (v := .agg #[.int .i64 o, .int .i64 r, .int .i64 ra, .int .i64 rb, .int .i64 n, .int .i64 pc.n, .bool pc.i, .int .i64 pc.b, .int .i64 pc.t, .int .i64 pc.p, .int .i64 pc.s, .int .i64 a.n, .bool a.i, .int .i64 a.b, .int .i64 a.t, .int .i64 a.p, .int .i64 a.s, .int .i64 b.n, .bool b.i, .int .i64 b.b, .int .i64 b.t, .int .i64 b.p, .int .i64 b.s, .int .i64 got.n, .bool got.i, .int .i64 got.b, .int .i64 got.t, .int .i64 got.p, .int .i64 got.s]) rfl rfl (by kernel_rfl) (by kernel_rfl) (by kernel_rfl) (fun _ _ _ h => h) (by rfl) ?_ hHeld ?_
  · (intro w' hSw; go_simp)
  simp only [Act.put, List.setIfInBounds_toArray, List.set_cons_zero, List.set_cons_succ]
  refine wpAnyH_ready (rs := [2]) (by kernel_rfl) (by simp) ?_
  refine AllReadyH.cons rfl (fun K hK => ?_) AllReadyH.nil
  go_simp
  refine (S1.out _).mono ?_
  rintro e w2 ⟨rfl, hb⟩
  have H1 := hid_mk (D0.out.next hb)
  clear hb
  refine hK.out _ _ H1.out (fun hHeld => ?_)
  clear hK K
  try simp only [Act.put, List.setIfInBounds_toArray, List.set_cons_zero, List.set_cons_succ]
  refine wpAnyH_ready (rs := [9]) (by kernel_rfl) (by simp) ?_
  refine AllReadyH.cons rfl (fun K hK => ?_) AllReadyH.nil
  go_simp
  refine (S2.out _ (HE.out.below H1.out.bel)).mono ?_
  rintro e w3 ⟨rfl, hb⟩
  have H2 := hid_mk (H1.out.next hb)
  clear hb
  obtain ⟨vs, hvl, CZ⟩ := H2.out.res (.head _)
  have TH := hid_mk (by have h := CZ.there; rw [hvl] at h; exact h)
  have CE := hid_mk (CZ.sets (us := effl E) (by rw [hvl]; rfl))
  clear CZ
  refine hK.out _ _ H2.out (fun hHeld => ?_)
  clear hK K
  try simp only [Act.put, List.setIfInBounds_toArray, List.set_cons_zero, List.set_cons_succ]
  refine wpAnyH_ready (rs := [10]) (by kernel_rfl) (by simp) ?_
  refine AllReadyH.cons rfl (fun K hK => ?_) AllReadyH.nil
  refine step_stm (by rfl) 82 _ _ (by rfl) (w.heap.size + 1 + 1 + 1 + 1 + 1) 0 (effl E).toArray (by rfl) (by rfl) TH.out sizeEff (effl_one _) ?_
  refine hK.out _ _ (RZ.out (effl E) _ rfl H2.out) (fun hHeld => ?_)
  clear hK K
  refine wpAnyH_done (by kernel_rfl) ?_ _
  have HZ := hid_mk hHeld
  refine NoPanic.normal ?_
  go_wp2
  refine leaves_cons (f := 132) (args := #[.pointer (some ⟨w.heap.size + 1 + 1 + 1 + 1 + 1, 0, none⟩), .pointer (some ⟨w.heap.size + 1, 0, none⟩)]) (by simp) (by simp [go_sem]) ?_
  refine (workDone_any _ _ E pc .returning _ CE.out (HZ.out.cel (.tail _ (.tail _ (.tail _ (.tail _ (.head _))))))).mono ?_
  rintro e u' w4 ⟨rfl, rfl, hC, hK⟩
  have hlv := lv_eff hC
  have B := HZ.out.bel.trans (hK.below (B := w.heap.size) (by omega) HZ.out.bel.size)
  exact ⟨_, results_cell1 Tryz.results95 (by rfl) hlv, rfl, B⟩
end Go.Proofs.YtpkhnajhamnggaaGreatDoor
