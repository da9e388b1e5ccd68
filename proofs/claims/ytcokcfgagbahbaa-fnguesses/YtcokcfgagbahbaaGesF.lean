/- Learn of the program. No condition but that there are no more places than a list of the laws may have, and that the numbers are ints. -/
import Derived.Test.YtcokcfgagbahbaaGesE
namespace Go.Proofs.Ytcokcfgagbahbaa
open Go.ChangeShapes Go.WideShapes Go.ChangeAt Go.RowKit Go.Maps Go.Sort Go.Shelf
set_option maxRecDepth 100000

/-- What Learn leaves at a place. -/
def lrnL (L : List Int) (n m : Int) : List Int := if 0 ≤ n ∧ n < (L.length : Int) then L.set n.toNat (m % 65536) else L

theorem isNum_any (n c : Int) (w : World) :
    Calls Try.prog 32 #[.int .i64 n, .int .i64 c] w fun e w' => e = .returned (.bool (decide (0 ≤ n ∧ n < c))) ∧ w' = w := by
  have hn : decide (0 ≤ n ∧ n < c) = (decide (0 ≤ n) && decide (n < c)) := by
    by_cases h0 : 0 ≤ n <;> by_cases h1 : n < c <;> simp [h0, h1]
  rw [hn]
  clear hn
  by_cases h0 : 0 ≤ n <;> by_cases h1 : n < c
  all_goals
    simp only [h0, h1, decide_true, decide_false, Bool.and_false, Bool.and_true]
    go_enter Try.func32, Try.ntmps32
    go_wp2
    go_ret
    exact ⟨rfl, rfl⟩

/-- A store into a map of ints, as one step of a region that draws. -/
theorem step_mapPut {ops : Array Oper} {o : Oper} {a : Act} {w : World} {K : Act → World → Prop} {Q : Exit → Act → World → Prop} {E : Prop} (hgd : o.guard = none) (m x v : Operand)
    (ho : o.op = .mapUpdate 54 m x v) (b n : Nat) (D : DataW Unit) (hm : a.eval m = .map (some b)) (hown : w.ownsMap Try.prog 3 (plainElem Try.prog 3) b n D) (hn : n < maxLen) (kx vx : Int) (hx : a.eval x = .int .i64 kx) (hv : a.eval v = .int .i64 vx)
    (hwk : (Lit.int .i64 kx).wf = true) (hwv : (Lit.int .i64 vx).wf = true)
    (h : ∀ w', w'.ownsMap Try.prog 3 (plainElem Try.prog 3) b (n + 1) (D.put (kI kx) (.lit (kI vx))) → w.grownBy w' (some b) → K (a.put o.dst undef) w') :
    if Region.wanted o (yielded ops a.tmps) = true then Oper.wp Try.prog o a w K Q else E := by
  have hw : Region.wanted o (yielded ops a.tmps) = true := by simp [Region.wanted, hgd]
  rw [if_pos hw]
  obtain ⟨w', hrun, r1, r2⟩ := hown.update lawI Try.underlying54 hn (keyOf_int_mk Try.underlying3 hwk) (plainElem_int Try.underlying3 hwv)
  unfold Oper.wp
  simp [execOp, ho, hm, hx, hv, hrun, Result.andThen]
  exact h w' r1 r2

set_option maxHeartbeats 8000000 in
theorem implLearn_any (a : Option Addr) (len cap : Nat) (L : List Int) (x y : Wd) (w : World) (hl : len ≤ 1048576) (hS : SliceN w.heap.size w a len L) (hW : ∀ x ∈ L, (Lit.int .i64 x).wf = true) :
    Calls Try.prog 10 #[.slice a len cap, .agg #[.int .i64 x.n, .bool x.i, .int .i64 x.b, .int .i64 x.t, .int .i64 x.p, .int .i64 x.s], .agg #[.int .i64 y.n, .bool y.i, .int .i64 y.b, .int .i64 y.t, .int .i64 y.p, .int .i64 y.s]] w fun e w' => ∃ q, e = .returned (.slice (some ⟨q, 0, none⟩) len len) ∧ w.heap.size ≤ q ∧ RoomN w' q len len (lrnL L x.n y.n) ∧ Below w.heap.size w w' := by
  have hlL := hid_mk hS.2.1
  have HW := hid_mk hW
  have H := hid_mk (((((Hold.new w).push (sinF w.heap.size a len L) ⟨hS, Nat.le_refl _⟩).alloc (.cells #[.int .i64 x.n, .bool x.i, .int .i64 x.b, .int .i64 x.t, .int .i64 x.p, .int .i64 x.s] 28)).push (celF w.heap.size [.int .i64 x.n, .bool x.i, .int .i64 x.b, .int .i64 x.t, .int .i64 x.p, .int .i64 x.s]) (Cel.new w _ _)).alloc (.cells #[.int .i64 y.n, .bool y.i, .int .i64 y.b, .int .i64 y.t, .int .i64 y.p, .int .i64 y.s] 28))
  have HC := Cel.new (w.alloc (.cells #[.int .i64 x.n, .bool x.i, .int .i64 x.b, .int .i64 x.t, .int .i64 x.p, .int .i64 x.s] 28)) [.int .i64 y.n, .bool y.i, .int .i64 y.b, .int .i64 y.t, .int .i64 y.p, .int .i64 y.s] 28
  rw [World.size_alloc] at HC
  replace H := hid_mk (H.out.push (celF (w.heap.size + 1) [.int .i64 y.n, .bool y.i, .int .i64 y.b, .int .i64 y.t, .int .i64 y.p, .int .i64 y.s]) HC)
  have A := hid_mk (isNum_any x.n (len : Int))
  have Bm := hid_mk (leftBy_any y.n)
  obtain ⟨m, hm⟩ : ∃ m, m = y.n % 65536 := ⟨_, rfl⟩
  rw [← hm] at Bm
  have hm1 : 0 ≤ m ∧ m ≤ 65535 := by omega
  have hwm : (Lit.int .i64 m).wf = true := WalkArith.wf_i64 (by omega)
  have HM := hid_mk hm
  clear hS hW HC hm
  generalize hw1 : (w.alloc (.cells #[.int .i64 x.n, .bool x.i, .int .i64 x.b, .int .i64 x.t, .int .i64 x.p, .int .i64 x.s] 28)).alloc (.cells #[.int .i64 y.n, .bool y.i, .int .i64 y.b, .int .i64 y.t, .int .i64 y.p, .int .i64 y.s] 28) = w1 at H
  go_enter Try.func10, Try.ntmps10
  go_upto_region 1 with fail
  clear hw1
  go_wp2_with fail
  refine (learntIn_any a len cap L _ hl (H.out.sin (.tail _ (.tail _ (.head _)))) HW.out).mono ?_
  rintro e w2 ⟨b, D, rfl, hb0, hO, hG, hb⟩
  have hz1 := (H.out.cel (.head _)).lt
  replace H := hid_mk ((H.out.next hb).push (ownF b len D) hO)
  have G := hid_mk hG
  have hbw : w.heap.size ≤ b := by omega
  clear hO hG hb
  obtain ⟨c0, -⟩ := (H.out.cel (.tail _ (.tail _ (.head _)))).c6
  have hgr : ∀ z, (gE L z).isSome = true → 0 ≤ z ∧ z < (len : Int) := fun z hz => by
    by_cases hr : 0 ≤ z ∧ z < (L.length : Int)
    · rw [hlL.out] at hr; exact hr
    · rw [gE_out hr] at hz; cases hz
  have HGR := hid_mk hgr
  clear hgr
  by_cases hin : 0 ≤ x.n ∧ x.n < (len : Int)
  · have hd : decide (0 ≤ x.n ∧ x.n < (len : Int)) = true := by simp [hin]
    rw [hd] at A
    go_wp2_with fail
    refine (A.out _).mono ?_
    rintro e w3 ⟨rfl, rfl⟩
    have hwx : (Lit.int .i64 x.n).wf = true := WalkArith.wf_i64 (by omega)
    go_upto_region 3 with fail
    have D0 := hid_mk H.out.drew
    refine wp_region_held_drew (S := fun w' => Hold w w' [celF (w.heap.size + 1) [.int .i64 y.n, .bool y.i, .int .i64 y.b, .int .i64 y.t, .int .i64 y.p, .int .i64 y.s], celF w.heap.size [.int .i64 x.n, .bool x.i, .int .i64 x.b, .int .i64 x.t, .int .i64 x.p, .int .i64 x.s]]) (by kernel_rfl) D0.out.mid2 (fun hHeld => ?_)
    generalize w3.drew = wd at D0 hHeld ⊢
    clear H c0
    refine take_on (i := 0) (d := 15) (v := .map (some b)) rfl rfl (by kernel_rfl) (by kernel_rfl) (by kernel_rfl) (fun _ _ _ h => h) (by rfl) ?_ hHeld ?_
    · (intro w' hSw; go_simp)
    (try simp only [Act.put]); (try simp only [List.setIfInBounds_toArray]); (try simp only [List.set_cons_succ]); (try simp only [List.set_cons_zero]); (try simp only [List.set_cons_succ]); (try simp only [List.set_cons_zero]); (try simp only [Nat.zero_add])
    refine take_on (i := 1) (d := 16) (v := .pointer (some ⟨w.heap.size, 0, none⟩)) rfl rfl (by kernel_rfl) (by kernel_rfl) (by kernel_rfl) (fun _ _ _ h => h) (by rfl) ?_ hHeld ?_
    · (intro w' hSw; go_simp)
    (try simp only [Act.put]); (try simp only [List.setIfInBounds_toArray]); (try simp only [List.set_cons_succ]); (try simp only [List.set_cons_zero]); (try simp only [List.set_cons_succ]); (try simp only [List.set_cons_zero]); (try simp only [Nat.zero_add])
    refine take_on (i := 2) (d := 17) (v := .int .i64 x.n) rfl rfl (by kernel_rfl) (by kernel_rfl) (by kernel_rfl) (fun _ _ _ h => h) (by rfl) ?_ hHeld ?_
    · (intro w' hSw; have hSx : Hold w w' [celF (w.heap.size + 1) [.int .i64 y.n, .bool y.i, .int .i64 y.b, .int .i64 y.t, .int .i64 y.p, .int .i64 y.s], celF w.heap.size [.int .i64 x.n, .bool x.i, .int .i64 x.b, .int .i64 x.t, .int .i64 x.p, .int .i64 x.s]] := hSw; have c0 := (hSx.cel (.tail _ (.head _))).c 0 _ rfl; go_simp)
    (try simp only [Act.put]); (try simp only [List.setIfInBounds_toArray]); (try simp only [List.set_cons_succ]); (try simp only [List.set_cons_zero]); (try simp only [List.set_cons_succ]); (try simp only [List.set_cons_zero]); (try simp only [Nat.zero_add])
    refine take_on (i := 3) (d := 18) (v := .pointer (some ⟨w.heap.size + 1, 0, none⟩)) rfl rfl (by kernel_rfl) (by kernel_rfl) (by kernel_rfl) (fun _ _ _ h => h) (by rfl) ?_ hHeld ?_
    · (intro w' hSw; go_simp)
    (try simp only [Act.put]); (try simp only [List.setIfInBounds_toArray]); (try simp only [List.set_cons_succ]); (try simp only [List.set_cons_zero]); (try simp only [List.set_cons_succ]); (try simp only [List.set_cons_zero]); (try simp only [Nat.zero_add])
    refine take_on (i := 4) (d := 19) (v := .int .i64 y.n) rfl rfl (by kernel_rfl) (by kernel_rfl) (by kernel_rfl) (fun _ _ _ h => h) (by rfl) ?_ hHeld ?_
    · (intro w' hSw; have hSx : Hold w w' [celF (w.heap.size + 1) [.int .i64 y.n, .bool y.i, .int .i64 y.b, .int .i64 y.t, .int .i64 y.p, .int .i64 y.s], celF w.heap.size [.int .i64 x.n, .bool x.i, .int .i64 x.b, .int .i64 x.t, .int .i64 x.p, .int .i64 x.s]] := hSw; have c0 := (hSx.cel (.head _)).c 0 _ rfl; go_simp)
    (try simp only [Act.put]); (try simp only [List.setIfInBounds_toArray]); (try simp only [List.set_cons_succ]); (try simp only [List.set_cons_zero]); (try simp only [List.set_cons_succ]); (try simp only [List.set_cons_zero]); (try simp only [Nat.zero_add])
    refine wpAnyH_ready (rs := [5]) (by kernel_rfl) (by simp) ?_
    refine AllReadyH.cons rfl (fun K1 hK => ?_) AllReadyH.nil
    go_simp
    refine (Bm.out _).mono ?_
    rintro e w4 ⟨rfl, rfl⟩
    refine hK.out _ _ hHeld (fun hHeld => ?_)
    clear hK K1
    (try simp only [Act.put]); (try simp only [List.setIfInBounds_toArray]); (try simp only [List.set_cons_succ]); (try simp only [List.set_cons_zero]); (try simp only [List.set_cons_succ]); (try simp only [List.set_cons_zero]); (try simp only [Nat.zero_add])
    refine wpAnyH_ready (rs := [6]) (by kernel_rfl) (by simp) ?_
    refine AllReadyH.cons rfl (fun K1 hK => ?_) AllReadyH.nil
    refine step_mapPut rfl _ _ _ rfl b len D rfl (D0.out.own (.head _)) (by unfold maxLen; omega) x.n m rfl rfl hwx hwm ?_
    intro w5 hO hgw
    have G2 := hid_mk (G.out.put x.n m)
    have J := hid_mk ((D0.out.tail.wrote (KeptS.ofGrown hgw) (fun k hk => by subst hk; exact hbw) (fun f hf k hk e => by
      subst e
      simp only [List.mem_cons, List.not_mem_nil, or_false] at hf
      rcases hf with rfl | rfl | rfl
      · simp only [celF] at hk; omega
      · simp only [celF] at hk; omega
      · simp only [sinF] at hk; omega)).push (ownF b (len + 1) (D.put (kI x.n) (.lit (kI m)))) hO)
    clear hO hgw D0
    refine hK.out _ _ J.out.mid2 (fun hHeld => ?_)
    clear hK K1
    (try simp only [Act.put]); (try simp only [List.setIfInBounds_toArray]); (try simp only [List.set_cons_succ]); (try simp only [List.set_cons_zero]); (try simp only [List.set_cons_succ]); (try simp only [List.set_cons_zero]); (try simp only [Nat.zero_add])
    refine wpAnyH_done (by kernel_rfl) ?_ _
    clear hHeld
    try dsimp only
    have U := hid_mk (told_some b (len + 1) (D.put (kI x.n) (.lit (kI m))) (fun z => if z = x.n then some m else gE L z) len w5 hl (by omega) (J.out.own (.head _)) G2.out (fun z hz => by
      by_cases e : z = x.n
      · subst e; exact hin
      · simp only [e, if_false] at hz; exact HGR.out z hz))
    have hb5 := hid_mk J.out.bel
    clear J
    go_wp2_with fail
    refine U.out.mono ?_
    rintro e w6 ⟨q, rfl, hq, hR, hb⟩
    have hz5 := hb5.out.size
    have R : Hid (RoomN w6 q len len (lrnL L x.n y.n)) := by
      have e1 : lrnL L x.n y.n = toldL (fun z => if z = x.n then some m else gE L z) len := by
        unfold lrnL
        rw [← HM.out, if_pos (by rw [hlL.out]; exact hin)]
        obtain ⟨k, hk⟩ : ∃ k : Nat, x.n = (k : Int) := ⟨x.n.toNat, by omega⟩
        have hkl : k < L.length := by rw [hlL.out]; omega
        have := told_put L k m hkl
        rw [hk, Int.toNat_natCast, ← this, hlL.out]
      rw [e1]
      exact hR
    have HB := hid_mk (hb5.out.trans (hb.mono hz5))
    clear hR hb U
    go_wp2
    go_ret
    exact ⟨q, rfl, by omega, R.out, HB.out⟩
  · have hd : decide (0 ≤ x.n ∧ x.n < (len : Int)) = false := by simp; omega
    rw [hd] at A
    go_wp2_with fail
    refine (A.out _).mono ?_
    rintro e w3 ⟨rfl, rfl⟩
    have U := hid_mk (told_some b len D (gE L) len w3 hl (by omega) (H.out.own (.head _)) G.out HGR.out)
    have hb5 := hid_mk H.out.bel
    clear H c0
    go_wp2_with fail
    refine U.out.mono ?_
    rintro e w6 ⟨q, rfl, hq, hR, hb⟩
    have hz5 := hb5.out.size
    have R : Hid (RoomN w6 q len len (lrnL L x.n y.n)) := by
      have e1 : lrnL L x.n y.n = toldL (gE L) len := by
        unfold lrnL
        rw [if_neg (by rw [hlL.out]; exact hin), ← hlL.out, told_gE]
      rw [e1]
      exact hR
    have HB := hid_mk (hb5.out.trans (hb.mono hz5))
    clear hR hb U
    go_wp2
    go_ret
    exact ⟨q, rfl, by omega, R.out, HB.out⟩
end Go.Proofs.Ytcokcfgagbahbaa
