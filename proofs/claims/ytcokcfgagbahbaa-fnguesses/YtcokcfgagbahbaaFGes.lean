/- The walk of FnGuesses: over drawn lists and places what Learn, Guess, GuessOk and GuessNew answer. No condition. -/
import Derived.Test.YtcokcfgagbahbaaBig
import Derived.Test.YtcokcfgagbahbaaDrawH
import Derived.Test.YtcokcfgagbahbaaGesS
import Derived.Test.YtcokcfgagbahbaaWMath
import Derived.Test.YtcokcfgagbahbaaTakeOn
namespace Go.Proofs.Ytcokcfgagbahbaa
open Go.ChangeShapes Go.WideShapes Go.ChangeAt Go.RowKit Go.Maps Go.Sort Go.Shelf
set_option maxRecDepth 100000

theorem big_true (a : Option Addr) (len cap : Nat) (w : World) (S : Hid (∀ w, Calls Try.prog 8 #[.slice a len cap] w fun e w' => e = .returned (.bool true) ∧ w' = w)) :
    Calls Try.prog 3 #[.slice a len cap] w fun e w' => e = .returned (.bool true) ∧ Below w.heap.size w w' := by
  go_enter Try.func3, Try.ntmps3
  go_wp2_with fail
  refine (S.out _).mono ?_
  rintro e w0 ⟨rfl, rfl⟩
  go_wp2
  go_ret
  exact ⟨rfl, Below.refl _ _⟩
theorem fieldW (n : Int) (i : Bool) (b t p s : Int) (w : World) : (Instr.field 28 (.agg #[.int .i64 n, .bool i, .int .i64 b, .int .i64 t, .int .i64 p, .int .i64 s]) 0).run Try.prog w = .ok (.int .i64 n) w := by kernel_rfl
theorem new_ok (a : Option Addr) (c : Nat) (w : World) (hS : SliceN w.heap.size w a 48 (List.replicate 48 (-1))) : Calls Try.prog 13 #[.slice a 48 c] w fun e w' => e = .returned (.bool true) ∧ Below w.heap.size w w' := by
  have h := implGuessOk_any a 48 c _ w hS
  have e : gokB (List.replicate 48 (-1)) = true := by decide
  rw [e] at h
  exact h
theorem Hold.one {w0 w : World} {fs : List Fct} {f : Fct} (h : Hold w0 w fs) (hm : f ∈ fs) : Hold w0 w [f] := h.sub fun x hx => by
  simp only [List.mem_cons, List.not_mem_nil, or_false] at hx
  subst hx
  exact hm
theorem Hold.two {w0 w : World} {fs : List Fct} {f g : Fct} (h : Hold w0 w fs) (hm : f ∈ fs) (hg : g ∈ fs) : Hold w0 w [f, g] := h.sub fun x hx => by
  simp only [List.mem_cons, List.not_mem_nil, or_false] at hx
  rcases hx with rfl | rfl
  · exact hm
  · exact hg
theorem Hold.four {w0 w : World} {fs : List Fct} {f g f2 g2 : Fct} (h : Hold w0 w fs) (hm : f ∈ fs) (hg : g ∈ fs) (hm2 : f2 ∈ fs) (hg2 : g2 ∈ fs) : Hold w0 w [f, g, f2, g2] := h.sub fun x hx => by
  simp only [List.mem_cons, List.not_mem_nil, or_false] at hx
  rcases hx with rfl | rfl | rfl | rfl
  · exact hm
  · exact hg
  · exact hm2
  · exact hg2

set_option maxHeartbeats 3000000 in
theorem fnGuesses_walk (a : Option Addr) (len cap : Nat) (w : World) (hc : Code8 w.heap.size w a len) :
    Calls Try.prog 3 #[.slice a len cap] w fun e w' => e = .returned (.bool true) ∧ Below w.heap.size w w' := by
  have C : Hid (Code8 w.heap.size w a len) := hc
  have sb := big_any a len cap hc.1
  clear hc
  cases hbig : decide ((1048576 : Int) < len)
  case true =>
    rw [hbig] at sb
    exact big_true a len cap w sb
  case false =>
    rw [hbig] at sb
    have SB : Hid _ := sb
    clear sb hbig
    go_enter Try.func3, Try.ntmps3
    go_wp2_with fail
    refine (SB.out _).mono ?_
    rintro e w0 ⟨rfl, hw0⟩
    subst w0
    clear SB
    go_wp2_with fail
    refine (drawLearn_any C.out).mono ?_
    rintro e w1 ⟨g, o, n, c, L, m, i, b, t, p, s, m2, i2, b2, t2, p2, s2, rfl, hG, hm, hm2, hb⟩
    have hn := hG.n48
    have hn2 : n ≤ 1048576 := by omega
    have hLn := hG.row.2.1
    have HW := hid_mk hG.wf
    have hBD := hid_mk hG.bd
    have H := hid_mk (((((Hold.new w).next hb).push (sloF (some ⟨g, o, none⟩) n L) hG.row).boxG [.int .i64 m, .bool i, .int .i64 b, .int .i64 t, .int .i64 p, .int .i64 s] 28 w1.heap.size rfl).boxG [.int .i64 m2, .bool i2, .int .i64 b2, .int .i64 t2, .int .i64 p2, .int .i64 s2] 28 (w1.heap.size + 1) (by simp))
    clear hG hb
    go_upto_region 4 with fail
    obtain ⟨r4, hr4⟩ : ∃ r, r = w1.heap.size := ⟨_, rfl⟩
    rw [← hr4] at H ⊢
    clear hr4
    generalize (w1.alloc (.cells #[.int .i64 m, .bool i, .int .i64 b, .int .i64 t, .int .i64 p, .int .i64 s] 28)).alloc (.cells #[.int .i64 m2, .bool i2, .int .i64 b2, .int .i64 t2, .int .i64 p2, .int .i64 s2] 28) = w2 at H ⊢
    obtain ⟨LR, hLR⟩ : ∃ LR, LR = lrnL L m m2 := ⟨_, rfl⟩
    have hlr : LR.length = n := by rw [hLR]; unfold lrnL; split <;> simp [hLn]
    have s1 := fun w hS => specLearn_any g o n c L m i b t p s m2 i2 b2 t2 p2 s2 w hn2 hS
    have s2 := fun w hS => implLearn_any (some ⟨g, o, none⟩) n c L ⟨m, i, b, t, p, s⟩ ⟨m2, i2, b2, t2, p2, s2⟩ w hn2 hS HW.out
    dsimp only at s2
    rw [← hLR] at s2
    simp only [← hLR] at s1
    have S1 := hid_mk s1
    have S2 := hid_mk s2
    have HLR := hid_mk hLR
    have HLN := hid_mk hLn
    have HLL := hid_mk hlr
    clear s1 s2 hLR hLn hlr
    have g1 := fun a c w hS => implGuessOk_any a n c L w hS
    have g2 := fun a c w hS => specGuessOk_any a n c L w hS
    generalize gokB L = z at g1 g2
    have hzz : (z != z) = false := by cases z <;> rfl
    have G1 := hid_mk g1
    have G2 := hid_mk g2
    clear g1 g2
    obtain ⟨c0, c1, c2, c3, c4, c5⟩ := (H.out.cel (.tail _ (.head _))).c6
    obtain ⟨d0, d1, d2, d3, d4, d5⟩ := (H.out.cel (.head _)).c6
    go_wp2_with fail
    refine (S2.out _ (H.out.slo (.tail _ (.tail _ (.head _))))).mono ?_
    rintro e w3 ⟨qo, rfl, hqo, hR, hb⟩
    replace H := hid_mk ((H.out.next hb).push (sloF (some ⟨qo, 0, none⟩) n LR) (hR.out.slice HLL.out (by unfold maxLen; omega)))
    clear hb hR c0 c1 c2 c3 c4 c5 d0 d1 d2 d3 d4 d5
    obtain ⟨c0, c1, c2, c3, c4, c5⟩ := (H.out.cel (.tail _ (.tail _ (.head _)))).c6
    obtain ⟨d0, d1, d2, d3, d4, d5⟩ := (H.out.cel (.tail _ (.head _))).c6
    go_wp2_with fail
    refine (S1.out _ (H.out.slo (.tail _ (.tail _ (.tail _ (.head _)))))).mono ?_
    rintro e w4 ⟨qw, cw, rfl, _, hQ, hb⟩
    replace H := hid_mk ((H.out.next hb).push (intF qw n LR) hQ)
    clear hb hQ c0 c1 c2 c3 c4 c5 d0 d1 d2 d3 d4 d5
    go_wp2_with fail
    refine (sameInts_same _ _ _ _ _ LR _ (H.out.slo (.tail _ (.head _))) (H.out.isl (.head _) hn2)).mono ?_
    rintro e w5 ⟨rfl, hb⟩
    replace H := hid_mk (H.out.next hb)
    clear hb
    go_wp2_with fail
    refine (G1.out _ _ _ (H.out.slo (.tail _ (.tail _ (.tail _ (.tail _ (.head _))))))).mono ?_
    rintro e w6 ⟨rfl, hb⟩
    replace H := hid_mk (H.out.next hb)
    clear hb
    go_wp2_with fail
    refine (G2.out _ _ _ (H.out.slo (.tail _ (.tail _ (.tail _ (.tail _ (.head _))))))).mono ?_
    rintro e w7 ⟨rfl, hb⟩
    replace H := hid_mk (H.out.next hb)
    clear hb
    go_wp2_with fail
    refine (drawGuess_any (C.out.later H.out.bel)).mono ?_
    rintro e w8 ⟨g2, o2, n2, c2, L2, px, pi, pb, pt, pp, ps, rfl, hG, hpx, hb⟩
    have hp := hG.n48
    have hp2 : n2 ≤ 1048576 := by omega
    have HW2 := hid_mk hG.wf
    replace H := hid_mk (((H.out.next hb).push (sloF (some ⟨g2, o2, none⟩) n2 L2) hG.row).boxG [.int .i64 px, .bool pi, .int .i64 pb, .int .i64 pt, .int .i64 pp, .int .i64 ps] 28 w8.heap.size rfl)
    clear hG hb
    go_upto_region 8 with fail
    obtain ⟨r8, hr8⟩ : ∃ r, r = w8.heap.size := ⟨_, rfl⟩
    rw [← hr8] at H ⊢
    clear hr8
    generalize w8.alloc (.cells #[.int .i64 px, .bool pi, .int .i64 pb, .int .i64 pt, .int .i64 pp, .int .i64 ps] 28) = w9 at H ⊢
    go_wp2_with fail
    refine (drawGuessOk_any (C.out.later H.out.bel)).mono ?_
    rintro e w10 ⟨g3, o3, n3, c3, L3, rfl, hG, hb⟩
    replace H := hid_mk ((H.out.next hb).push (sloF (some ⟨g3, o3, none⟩) n3 L3) hG.row)
    clear hG hb
    have hwp : (Lit.int .i64 px).wf = true := WalkArith.wf_i64 (by omega)
    have s1 := fun w hS => implGuess_any (some ⟨g2, o2, none⟩) n2 c2 L2 ⟨px, pi, pb, pt, pp, ps⟩ w hp2 hS HW2.out hwp
    dsimp only at s1
    have s2 := fun w hS => specGuess_any (some ⟨g2, o2, none⟩) n2 c2 L2 px pi pb pt pp ps w hp2 hS
    obtain ⟨u0, u1, u2, u3, u4, u5, hV⟩ : ∃ (u0 : Int) (u1 : Bool) (u2 u3 u4 u5 : Int), madeV (gueN L2 px % 65536) (openB px pi pb pt pp ps) pb pt pp ps = .agg #[.int .i64 u0, .bool u1, .int .i64 u2, .int .i64 u3, .int .i64 u4, .int .i64 u5] := ⟨_, _, _, _, _, _, rfl⟩
    rw [hV] at s1 s2
    have P1 := hid_mk s1
    have P2 := hid_mk s2
    clear s1 s2 hV hwp HW2 hp hpx
    have g1 := fun a c w hS => implGuessOk_any a n3 c L3 w hS
    have g2 := fun a c w hS => specGuessOk_any a n3 c L3 w hS
    generalize gokB L3 = y at g1 g2
    have hyy : (y != y) = false := by cases y <;> rfl
    have K1 := hid_mk g1
    have K2 := hid_mk g2
    clear g1 g2
    have N1 := hid_mk (fun a c w hS => new_ok a c w hS)
    go_upto_region 9 with fail
    replace H := hid_mk H.out.drew
    refine wp_region_held_drew (S := fun w' => Hold w w' [celF r8 [.int .i64 px, .bool pi, .int .i64 pb, .int .i64 pt, .int .i64 pp, .int .i64 ps]]) (by kernel_rfl) (H.out.one (.tail _ (.head _))) (fun hHeld => ?_)
    generalize w10.drew = wd at H hHeld ⊢
    refine take_on (i := 0) (d := 44) (v := .slice (some ⟨g2, o2, none⟩) n2 c2) rfl rfl (by kernel_rfl) (by kernel_rfl) (by kernel_rfl) (fun _ _ _ h => h) (by rfl) ?_ hHeld ?_
    · (intro w' hSw; go_simp)
    (try simp only [Act.put]); (try simp only [List.setIfInBounds_toArray]); (try simp only [List.set_cons_succ]); (try simp only [List.set_cons_zero]); (try simp only [List.set_cons_succ]); (try simp only [List.set_cons_zero]); (try simp only [Nat.zero_add])
    refine take_on (i := 1) (d := 45) (v := .agg #[.int .i64 px, .bool pi, .int .i64 pb, .int .i64 pt, .int .i64 pp, .int .i64 ps]) rfl rfl (by kernel_rfl) (by kernel_rfl) (by kernel_rfl) (fun _ _ _ h => h) (by rfl) ?_ hHeld ?_
    · (intro w' hSw; have hSx : Hold w w' [celF r8 [.int .i64 px, .bool pi, .int .i64 pb, .int .i64 pt, .int .i64 pp, .int .i64 ps]] := hSw; obtain ⟨c0, c1, c2, c3, c4, c5⟩ := (hSx.cel (.head _)).c6; go_simp)
    (try simp only [Act.put]); (try simp only [List.setIfInBounds_toArray]); (try simp only [List.set_cons_succ]); (try simp only [List.set_cons_zero]); (try simp only [List.set_cons_succ]); (try simp only [List.set_cons_zero]); (try simp only [Nat.zero_add])
    refine take_on (i := 3) (d := 47) (v := .slice (some ⟨g2, o2, none⟩) n2 c2) rfl rfl (by kernel_rfl) (by kernel_rfl) (by kernel_rfl) (fun _ _ _ h => h) (by rfl) ?_ hHeld ?_
    · (intro w' hSw; go_simp)
    (try simp only [Act.put]); (try simp only [List.setIfInBounds_toArray]); (try simp only [List.set_cons_succ]); (try simp only [List.set_cons_zero]); (try simp only [List.set_cons_succ]); (try simp only [List.set_cons_zero]); (try simp only [Nat.zero_add])
    refine take_on (i := 4) (d := 48) (v := .agg #[.int .i64 px, .bool pi, .int .i64 pb, .int .i64 pt, .int .i64 pp, .int .i64 ps]) rfl rfl (by kernel_rfl) (by kernel_rfl) (by kernel_rfl) (fun _ _ _ h => h) (by rfl) ?_ hHeld ?_
    · (intro w' hSw; have hSx : Hold w w' [celF r8 [.int .i64 px, .bool pi, .int .i64 pb, .int .i64 pt, .int .i64 pp, .int .i64 ps]] := hSw; obtain ⟨c0, c1, c2, c3, c4, c5⟩ := (hSx.cel (.head _)).c6; go_simp)
    (try simp only [Act.put]); (try simp only [List.setIfInBounds_toArray]); (try simp only [List.set_cons_succ]); (try simp only [List.set_cons_zero]); (try simp only [List.set_cons_succ]); (try simp only [List.set_cons_zero]); (try simp only [Nat.zero_add])
    refine wpAnyH_ready (rs := [2]) (by kernel_rfl) (by simp) ?_
    refine AllReadyH.cons rfl (fun K9 hK => ?_) AllReadyH.nil
    go_simp
    refine (P1.out _ (H.out.slo (.tail _ (.tail _ (.head _))))).mono ?_
    rintro e w11 ⟨rfl, hb⟩
    replace H := hid_mk (H.out.next hb)
    clear hb
    refine hK.out _ _ (H.out.one (.tail _ (.head _))) (fun hHeld => ?_)
    clear hK K9
    (try simp only [Act.put]); (try simp only [List.setIfInBounds_toArray]); (try simp only [List.set_cons_succ]); (try simp only [List.set_cons_zero]); (try simp only [List.set_cons_succ]); (try simp only [List.set_cons_zero]); (try simp only [Nat.zero_add])
    refine wpAnyH_ready (rs := [5]) (by kernel_rfl) (by simp) ?_
    refine AllReadyH.cons rfl (fun K9 hK => ?_) AllReadyH.nil
    go_simp
    refine (P2.out _ (H.out.slo (.tail _ (.tail _ (.head _))))).mono ?_
    rintro e w12 ⟨rfl, hb⟩
    replace H := hid_mk (H.out.next hb)
    clear hb
    refine hK.out _ _ (H.out.one (.tail _ (.head _))) (fun hHeld => ?_)
    clear hK K9
    (try simp only [Act.put]); (try simp only [List.setIfInBounds_toArray]); (try simp only [List.set_cons_succ]); (try simp only [List.set_cons_zero]); (try simp only [List.set_cons_succ]); (try simp only [List.set_cons_zero]); (try simp only [Nat.zero_add])
    refine take_on (i := 6) (d := 50) (v := .bool false) rfl rfl (by kernel_rfl) (by kernel_rfl) (by kernel_rfl) (fun _ _ _ h => h) (by rfl) ?_ hHeld ?_
    · (intro w' hSw; have e0 := neq_word u0 u1 u2 u3 u4 u5 w'; go_simp)
    (try simp only [Act.put]); (try simp only [List.setIfInBounds_toArray]); (try simp only [List.set_cons_succ]); (try simp only [List.set_cons_zero]); (try simp only [List.set_cons_succ]); (try simp only [List.set_cons_zero]); (try simp only [Nat.zero_add])
    refine take_on (i := 7) (d := 51) (v := .bool false) rfl rfl (by kernel_rfl) (by kernel_rfl) (by kernel_rfl) (fun _ _ _ h => h) (by rfl) ?_ hHeld ?_
    · (intro w' hSw; go_simp)
    (try simp only [Act.put]); (try simp only [List.setIfInBounds_toArray]); (try simp only [List.set_cons_succ]); (try simp only [List.set_cons_zero]); (try simp only [List.set_cons_succ]); (try simp only [List.set_cons_zero]); (try simp only [Nat.zero_add])
    refine take_on (i := 8) (d := 52) (v := .slice (some ⟨g3, o3, none⟩) n3 c3) rfl rfl (by kernel_rfl) (by kernel_rfl) (by kernel_rfl) (fun _ _ _ h => h) (by rfl) ?_ hHeld ?_
    · (intro w' hSw; go_simp)
    (try simp only [Act.put]); (try simp only [List.setIfInBounds_toArray]); (try simp only [List.set_cons_succ]); (try simp only [List.set_cons_zero]); (try simp only [List.set_cons_succ]); (try simp only [List.set_cons_zero]); (try simp only [Nat.zero_add])
    refine take_on (i := 10) (d := 54) (v := .slice (some ⟨g3, o3, none⟩) n3 c3) rfl rfl (by kernel_rfl) (by kernel_rfl) (by kernel_rfl) (fun _ _ _ h => h) (by rfl) ?_ hHeld ?_
    · (intro w' hSw; go_simp)
    (try simp only [Act.put]); (try simp only [List.setIfInBounds_toArray]); (try simp only [List.set_cons_succ]); (try simp only [List.set_cons_zero]); (try simp only [List.set_cons_succ]); (try simp only [List.set_cons_zero]); (try simp only [Nat.zero_add])
    refine wpAnyH_ready (rs := [9]) (by kernel_rfl) (by simp) ?_
    refine AllReadyH.cons rfl (fun K9 hK => ?_) AllReadyH.nil
    go_simp
    refine (K1.out _ _ _ (H.out.slo (.head _))).mono ?_
    rintro e w13 ⟨rfl, hb⟩
    replace H := hid_mk (H.out.next hb)
    clear hb
    refine hK.out _ _ (H.out.one (.tail _ (.head _))) (fun hHeld => ?_)
    clear hK K9
    (try simp only [Act.put]); (try simp only [List.setIfInBounds_toArray]); (try simp only [List.set_cons_succ]); (try simp only [List.set_cons_zero]); (try simp only [List.set_cons_succ]); (try simp only [List.set_cons_zero]); (try simp only [Nat.zero_add])
    refine wpAnyH_ready (rs := [11]) (by kernel_rfl) (by simp) ?_
    refine AllReadyH.cons rfl (fun K9 hK => ?_) AllReadyH.nil
    go_simp
    refine (K2.out _ _ _ (H.out.slo (.head _))).mono ?_
    rintro e w14 ⟨rfl, hb⟩
    replace H := hid_mk (H.out.next hb)
    clear hb
    refine hK.out _ _ (H.out.one (.tail _ (.head _))) (fun hHeld => ?_)
    clear hK K9
    (try simp only [Act.put]); (try simp only [List.setIfInBounds_toArray]); (try simp only [List.set_cons_succ]); (try simp only [List.set_cons_zero]); (try simp only [List.set_cons_succ]); (try simp only [List.set_cons_zero]); (try simp only [Nat.zero_add])
    refine take_on (i := 12) (d := 56) (v := .bool false) rfl rfl (by kernel_rfl) (by kernel_rfl) (by kernel_rfl) (fun _ _ _ h => h) (by rfl) ?_ hHeld ?_
    · (intro w' hSw; go_simp)
    (try simp only [Act.put]); (try simp only [List.setIfInBounds_toArray]); (try simp only [List.set_cons_succ]); (try simp only [List.set_cons_zero]); (try simp only [List.set_cons_succ]); (try simp only [List.set_cons_zero]); (try simp only [Nat.zero_add])
    refine take_on (i := 13) (d := 57) (v := .bool false) rfl rfl (by kernel_rfl) (by kernel_rfl) (by kernel_rfl) (fun _ _ _ h => h) (by rfl) ?_ hHeld ?_
    · (intro w' hSw; go_simp)
    (try simp only [Act.put]); (try simp only [List.setIfInBounds_toArray]); (try simp only [List.set_cons_succ]); (try simp only [List.set_cons_zero]); (try simp only [List.set_cons_succ]); (try simp only [List.set_cons_zero]); (try simp only [Nat.zero_add])
    refine take_on (i := 14) (d := 58) (v := .bool false) rfl rfl (by kernel_rfl) (by kernel_rfl) (by kernel_rfl) (fun _ _ _ h => h) (by rfl) ?_ hHeld ?_
    · (intro w' hSw; go_simp)
    (try simp only [Act.put]); (try simp only [List.setIfInBounds_toArray]); (try simp only [List.set_cons_succ]); (try simp only [List.set_cons_zero]); (try simp only [List.set_cons_succ]); (try simp only [List.set_cons_zero]); (try simp only [Nat.zero_add])
    refine wpAnyH_ready (rs := [15]) (by kernel_rfl) (by simp) ?_
    refine AllReadyH.cons rfl (fun K9 hK => ?_) AllReadyH.nil
    go_simp
    refine (implGuessNew_any _).mono ?_
    rintro e w15 ⟨qn, rfl, _, hR, hb⟩
    replace H := hid_mk ((H.out.next hb).push (sloF (some ⟨qn, 0, none⟩) 48 (List.replicate 48 (-1))) (hR.out.slice (by simp) (by unfold maxLen; omega)))
    clear hb hR
    refine hK.out _ _ (H.out.one (.tail _ (.tail _ (.head _)))) (fun hHeld => ?_)
    clear hK K9
    (try simp only [Act.put]); (try simp only [List.setIfInBounds_toArray]); (try simp only [List.set_cons_succ]); (try simp only [List.set_cons_zero]); (try simp only [List.set_cons_succ]); (try simp only [List.set_cons_zero]); (try simp only [Nat.zero_add])
    refine wpAnyH_ready (rs := [16]) (by kernel_rfl) (by simp) ?_
    refine AllReadyH.cons rfl (fun K9 hK => ?_) AllReadyH.nil
    go_simp
    refine (N1.out _ _ _ (H.out.slo (.head _))).mono ?_
    rintro e w16 ⟨rfl, hb⟩
    replace H := hid_mk (H.out.next hb)
    clear hb
    refine hK.out _ _ (H.out.one (.tail _ (.tail _ (.head _)))) (fun hHeld => ?_)
    clear hK K9
    (try simp only [Act.put]); (try simp only [List.setIfInBounds_toArray]); (try simp only [List.set_cons_succ]); (try simp only [List.set_cons_zero]); (try simp only [List.set_cons_succ]); (try simp only [List.set_cons_zero]); (try simp only [Nat.zero_add])
    refine take_on (i := 17) (d := 61) (v := .bool false) rfl rfl (by kernel_rfl) (by kernel_rfl) (by kernel_rfl) (fun _ _ _ h => h) (by rfl) ?_ hHeld ?_
    · (intro w' hSw; go_simp)
    (try simp only [Act.put]); (try simp only [List.setIfInBounds_toArray]); (try simp only [List.set_cons_succ]); (try simp only [List.set_cons_zero]); (try simp only [List.set_cons_succ]); (try simp only [List.set_cons_zero]); (try simp only [Nat.zero_add])
    refine take_on (i := 18) (d := 62) (v := .bool false) rfl rfl (by kernel_rfl) (by kernel_rfl) (by kernel_rfl) (fun _ _ _ h => h) (by rfl) ?_ hHeld ?_
    · (intro w' hSw; go_simp)
    (try simp only [Act.put]); (try simp only [List.setIfInBounds_toArray]); (try simp only [List.set_cons_succ]); (try simp only [List.set_cons_zero]); (try simp only [List.set_cons_succ]); (try simp only [List.set_cons_zero]); (try simp only [Nat.zero_add])
    refine wpAnyH_done (by kernel_rfl) ?_ _
    clear hHeld
    try dsimp only
    clear P1 P2 K1 K2 N1 G1 G2 S1 S2 hzz hyy
    by_cases h0 : m < 0
    · have e1 : LR = L := by
        rw [HLR.out]
        unfold lrnL
        rw [if_neg (by rw [HLN.out]; omega)]
      obtain ⟨c0, -⟩ := (H.out.cel (.tail _ (.tail _ (.tail _ (.tail _ (.tail _ (.tail _ (.tail _ (.head _))))))))).c6
      have hO : Hid (SliceN w16.heap.size w16 (some ⟨qo, 0, none⟩) n L) := by rw [← e1]; exact H.out.slo (.tail _ (.tail _ (.tail _ (.tail _ (.tail _ (.head _))))))
      clear e1
      go_wp2_with fail
      refine (sameInts_same _ _ _ _ _ L _ hO.out (H.out.slo (.tail _ (.tail _ (.tail _ (.tail _ (.tail _ (.tail _ (.tail _ (.tail _ (.head _))))))))))).mono ?_
      rintro e w17 ⟨rfl, hb⟩
      replace H := hid_mk (H.out.next hb)
      clear hb hO c0
      go_wp2
      go_ret
      exact ⟨rfl, H.out.bel⟩
    · by_cases h1 : (n : Int) ≤ m
      · have e1 : LR = L := by
          rw [HLR.out]
          unfold lrnL
          rw [if_neg (by rw [HLN.out]; omega)]
        obtain ⟨c0, -⟩ := (H.out.cel (.tail _ (.tail _ (.tail _ (.tail _ (.tail _ (.tail _ (.tail _ (.head _))))))))).c6
        have hO : Hid (SliceN w16.heap.size w16 (some ⟨qo, 0, none⟩) n L) := by rw [← e1]; exact H.out.slo (.tail _ (.tail _ (.tail _ (.tail _ (.tail _ (.head _))))))
        clear e1
        go_wp2_with fail
        refine (sameInts_same _ _ _ _ _ L _ hO.out (H.out.slo (.tail _ (.tail _ (.tail _ (.tail _ (.tail _ (.tail _ (.tail _ (.tail _ (.head _))))))))))).mono ?_
        rintro e w17 ⟨rfl, hb⟩
        replace H := hid_mk (H.out.next hb)
        clear hb hO c0
        go_wp2
        go_ret
        exact ⟨rfl, H.out.bel⟩
      · obtain ⟨j, rfl⟩ : ∃ j : Nat, m = (j : Int) := ⟨m.toNat, by omega⟩
        have hj : j < n := by omega
        have e1 : LR = L.set j (m2 % 65536) := by
          rw [HLR.out]
          unfold lrnL
          rw [if_pos (by rw [HLN.out]; omega), Int.toNat_natCast]
        have hjL : j < L.length := by rw [HLN.out]; exact hj
        have SAME : Hid (∀ k, k ≠ j → LR[k]? = L[k]?) := fun k hk => by rw [e1, List.getElem?_set_ne (fun e => hk e.symm)]
        have hgj : gueN LR (j : Int) = m2 % 65536 := by
          have h2 : LR[j]? = some (m2 % 65536) := by rw [e1, List.getElem?_set_self hjL]
          have h3 := gE_at h2
          unfold gueN
          rw [h3, if_neg (by omega)]
        have HWR : Hid (∀ x ∈ LR, (Lit.int .i64 x).wf = true) := fun x hx => by
          rw [e1] at hx
          rcases List.mem_or_eq_of_mem_set hx with hx | rfl
          · exact HW.out x hx
          · exact WalkArith.wf_i64 (by omega)
        have hwj : (Lit.int .i64 (j : Int)).wf = true := WalkArith.wf_i64 (by omega)
        have s1 := fun c w hS => implGuess_any (some ⟨qo, 0, none⟩) n c LR ⟨(j : Int), i, b, t, p, s⟩ w hn2 hS HWR.out hwj
        dsimp only at s1
        rw [hgj] at s1
        obtain ⟨lm, hlm⟩ : ∃ lm, lm = m2 % 65536 := ⟨_, rfl⟩
        have hl2 : m2 % 65536 % 65536 = lm := by omega
        rw [hl2] at s1
        obtain ⟨z1, z2, z3, z4, z5, hV⟩ : ∃ (u1 : Bool) (u2 u3 u4 u5 : Int), madeV lm (openB (j : Int) i b t p s) b t p s = .agg #[.int .i64 lm, .bool u1, .int .i64 u2, .int .i64 u3, .int .i64 u4, .int .i64 u5] := by
          cases openB (j : Int) i b t p s
          · exact ⟨_, _, _, _, _, rfl⟩
          · exact ⟨_, _, _, _, _, rfl⟩
        rw [hV] at s1
        have s2 := implPlain_any m2
        rw [← hlm] at s2
        have P1 := hid_mk s1
        have P2 := hid_mk s2
        have hll : (lm == lm) = true := by simp
        clear s1 s2 hV hgj hl2 hlm e1 hjL HWR hwj HLR HW hBD
        obtain ⟨c0, -⟩ := (H.out.cel (.tail _ (.tail _ (.tail _ (.tail _ (.tail _ (.tail _ (.tail _ (.head _))))))))).c6
        have H2 := hid_mk (H.out.four (.tail _ (.tail _ (.tail _ (.tail _ (.tail _ (.tail _ (.tail _ (.tail _ (.head _))))))))) (.tail _ (.tail _ (.tail _ (.tail _ (.tail _ (.head _)))))) (.tail _ (.tail _ (.tail _ (.tail _ (.tail _ (.tail _ (.tail _ (.head _)))))))) (.tail _ (.tail _ (.tail _ (.tail _ (.tail _ (.tail _ (.head _))))))))
        clear H
        go_wp2
        clear c0
        go_loopw [10] (fun v wr => ∃ k : Nat, k ≤ n ∧ v = .int .i64 k ∧ Hid (Hold w wr [sloF (some ⟨g, o, none⟩) n L, sloF (some ⟨qo, 0, none⟩) n LR, celF r4 [.int .i64 (j : Int), .bool i, .int .i64 b, .int .i64 t, .int .i64 p, .int .i64 s], celF (r4 + 1) [.int .i64 m2, .bool i2, .int .i64 b2, .int .i64 t2, .int .i64 p2, .int .i64 s2]])) (fun v _ => n - (RowKit.intOf v).toNat)
        case atStart => exact ⟨0, Nat.zero_le _, rfl, H2.out⟩
        case round =>
          clear H2
          obtain ⟨k, hk, rfl, H⟩ := hrel
          obtain ⟨c0, -⟩ := (H.out.cel (.tail _ (.tail _ (.head _)))).c6
          by_cases hlt : k < n
          · obtain ⟨kb, o', x, hq, _, hx, d0⟩ := (H.out.slo (.head _)).at hlt
            cases hq
            obtain ⟨kb', o'', x', hq, _, hx', d1⟩ := (H.out.slo (.tail _ (.head _))).at hlt
            cases hq
            rw [Nat.zero_add] at d1
            have hu : undef = Value.tuple #[] := rfl
            by_cases hkj : k = j
            · subst hkj
              have hkk : ((k : Int) != (k : Int)) = false := by simp
              clear hx hx' d0 d1
              go_wp2_with fail
              go_quiet (fail)
              all_goals
                go_wp2
                go_roundw
                case rel => exact ⟨k + 1, hlt, by go_num, H.out.next (below_drewN (Below.refl _ _) _)⟩
                case measure => simp [RowKit.intOf]; omega
            · have hkk : ((k : Int) != (j : Int)) = true := by simp; omega
              obtain rfl : x = x' := by rw [SAME.out k hkj, hx] at hx'; exact Option.some.inj hx'
              have hxx : (x != x) = false := by simp
              clear hx hx'
              go_wp2_with fail
              go_quiet (fail)
              all_goals
                go_wp2
                go_roundw
                case rel => exact ⟨k + 1, hlt, by go_num, H.out.next (below_drewN (Below.refl _ _) _)⟩
                case measure => simp [RowKit.intOf]; omega
          · obtain rfl : k = n := by omega
            clear c0
            go_upto_region 18 with fail
            replace H := hid_mk H.out.drew
            refine wp_region_held_drew (S := fun w' => Hold w w' [celF r4 [.int .i64 (j : Int), .bool i, .int .i64 b, .int .i64 t, .int .i64 p, .int .i64 s], celF (r4 + 1) [.int .i64 m2, .bool i2, .int .i64 b2, .int .i64 t2, .int .i64 p2, .int .i64 s2]]) (by kernel_rfl) (H.out.two (.tail _ (.tail _ (.head _))) (.tail _ (.tail _ (.tail _ (.head _))))) (fun hHeld => ?_)
            generalize wr.drew = wd2 at H hHeld ⊢
            refine take_on (i := 0) (d := 97) (v := .slice (some ⟨qo, 0, none⟩) k k) rfl rfl (by kernel_rfl) (by kernel_rfl) (by kernel_rfl) (fun _ _ _ h => h) (by rfl) ?_ hHeld ?_
            · (intro w' hSw; go_simp)
            (try simp only [Act.put]); (try simp only [List.setIfInBounds_toArray]); (try simp only [List.set_cons_succ]); (try simp only [List.set_cons_zero]); (try simp only [List.set_cons_succ]); (try simp only [List.set_cons_zero]); (try simp only [Nat.zero_add])
            refine take_on (i := 1) (d := 98) (v := .agg #[.int .i64 (j : Int), .bool i, .int .i64 b, .int .i64 t, .int .i64 p, .int .i64 s]) rfl rfl (by kernel_rfl) (by kernel_rfl) (by kernel_rfl) (fun _ _ _ h => h) (by rfl) ?_ hHeld ?_
            · (intro w' hSw; have hSx : Hold w w' [celF r4 [.int .i64 (j : Int), .bool i, .int .i64 b, .int .i64 t, .int .i64 p, .int .i64 s], celF (r4 + 1) [.int .i64 m2, .bool i2, .int .i64 b2, .int .i64 t2, .int .i64 p2, .int .i64 s2]] := hSw; obtain ⟨c0, c1, c2, c3, c4, c5⟩ := (hSx.cel (.head _)).c6; go_simp)
            (try simp only [Act.put]); (try simp only [List.setIfInBounds_toArray]); (try simp only [List.set_cons_succ]); (try simp only [List.set_cons_zero]); (try simp only [List.set_cons_succ]); (try simp only [List.set_cons_zero]); (try simp only [Nat.zero_add])
            refine take_on (i := 4) (d := 101) (v := .pointer (some ⟨r4 + 1, 0, none⟩)) rfl rfl (by kernel_rfl) (by kernel_rfl) (by kernel_rfl) (fun _ _ _ h => h) (by rfl) ?_ hHeld ?_
            · (intro w' hSw; go_simp)
            (try simp only [Act.put]); (try simp only [List.setIfInBounds_toArray]); (try simp only [List.set_cons_succ]); (try simp only [List.set_cons_zero]); (try simp only [List.set_cons_succ]); (try simp only [List.set_cons_zero]); (try simp only [Nat.zero_add])
            refine take_on (i := 5) (d := 102) (v := .int .i64 m2) rfl rfl (by kernel_rfl) (by kernel_rfl) (by kernel_rfl) (fun _ _ _ h => h) (by rfl) ?_ hHeld ?_
            · (intro w' hSw; have hSx : Hold w w' [celF r4 [.int .i64 (j : Int), .bool i, .int .i64 b, .int .i64 t, .int .i64 p, .int .i64 s], celF (r4 + 1) [.int .i64 m2, .bool i2, .int .i64 b2, .int .i64 t2, .int .i64 p2, .int .i64 s2]] := hSw; obtain ⟨c0, c1, c2, c3, c4, c5⟩ := (hSx.cel (.tail _ (.head _))).c6; go_simp)
            (try simp only [Act.put]); (try simp only [List.setIfInBounds_toArray]); (try simp only [List.set_cons_succ]); (try simp only [List.set_cons_zero]); (try simp only [List.set_cons_succ]); (try simp only [List.set_cons_zero]); (try simp only [Nat.zero_add])
            refine wpAnyH_ready (rs := [2]) (by kernel_rfl) (by simp) ?_
            refine AllReadyH.cons rfl (fun K9 hK => ?_) AllReadyH.nil
            go_simp
            refine (P1.out _ _ (H.out.slo (.tail _ (.head _)))).mono ?_
            rintro e w21 ⟨rfl, hb⟩
            replace H := hid_mk (H.out.next hb)
            clear hb
            refine hK.out _ _ (H.out.two (.tail _ (.tail _ (.head _))) (.tail _ (.tail _ (.tail _ (.head _))))) (fun hHeld => ?_)
            clear hK K9
            (try simp only [Act.put]); (try simp only [List.setIfInBounds_toArray]); (try simp only [List.set_cons_succ]); (try simp only [List.set_cons_zero]); (try simp only [List.set_cons_succ]); (try simp only [List.set_cons_zero]); (try simp only [Nat.zero_add])
            refine take_on (i := 3) (d := 100) (v := .int .i64 lm) rfl rfl (by kernel_rfl) (by kernel_rfl) (by kernel_rfl) (fun _ _ _ h => h) (by rfl) ?_ hHeld ?_
            · (intro w' hSw; have e0 := fieldW lm z1 z2 z3 z4 z5 w'; go_simp)
            (try simp only [Act.put]); (try simp only [List.setIfInBounds_toArray]); (try simp only [List.set_cons_succ]); (try simp only [List.set_cons_zero]); (try simp only [List.set_cons_succ]); (try simp only [List.set_cons_zero]); (try simp only [Nat.zero_add])
            refine wpAnyH_ready (rs := [6]) (by kernel_rfl) (by simp) ?_
            refine AllReadyH.cons rfl (fun K9 hK => ?_) AllReadyH.nil
            go_simp
            refine (P2.out _).mono ?_
            rintro e w22 ⟨rfl, hb⟩
            replace H := hid_mk (H.out.next hb)
            clear hb
            refine hK.out _ _ (H.out.two (.tail _ (.tail _ (.head _))) (.tail _ (.tail _ (.tail _ (.head _))))) (fun hHeld => ?_)
            clear hK K9
            (try simp only [Act.put]); (try simp only [List.setIfInBounds_toArray]); (try simp only [List.set_cons_succ]); (try simp only [List.set_cons_zero]); (try simp only [List.set_cons_succ]); (try simp only [List.set_cons_zero]); (try simp only [Nat.zero_add])
            refine take_on (i := 7) (d := 104) (v := .int .i64 lm) rfl rfl (by kernel_rfl) (by kernel_rfl) (by kernel_rfl) (fun _ _ _ h => h) (by rfl) ?_ hHeld ?_
            · (intro w' hSw; have e0 := fieldW lm false 0 0 0 0 w'; go_simp)
            (try simp only [Act.put]); (try simp only [List.setIfInBounds_toArray]); (try simp only [List.set_cons_succ]); (try simp only [List.set_cons_zero]); (try simp only [List.set_cons_succ]); (try simp only [List.set_cons_zero]); (try simp only [Nat.zero_add])
            refine take_on (i := 8) (d := 105) (v := .bool true) rfl rfl (by kernel_rfl) (by kernel_rfl) (by kernel_rfl) (fun _ _ _ h => h) (by rfl) ?_ hHeld ?_
            · (intro w' hSw; go_simp)
            (try simp only [Act.put]); (try simp only [List.setIfInBounds_toArray]); (try simp only [List.set_cons_succ]); (try simp only [List.set_cons_zero]); (try simp only [List.set_cons_succ]); (try simp only [List.set_cons_zero]); (try simp only [Nat.zero_add])
            refine take_on (i := 9) (d := 2) (v := .bool true) rfl rfl (by kernel_rfl) (by kernel_rfl) (by kernel_rfl) (fun _ _ _ h => h) (by rfl) ?_ hHeld ?_
            · (intro w' hSw; go_simp)
            (try simp only [Act.put]); (try simp only [List.setIfInBounds_toArray]); (try simp only [List.set_cons_succ]); (try simp only [List.set_cons_zero]); (try simp only [List.set_cons_succ]); (try simp only [List.set_cons_zero]); (try simp only [Nat.zero_add])
            refine wpAnyH_done (by kernel_rfl) ?_ _
            clear hHeld
            try dsimp only
            go_wp2
            go_ret
            exact ⟨rfl, H.out.bel⟩
end Go.Proofs.Ytcokcfgagbahbaa
