/- For every two States Closed of the program answers as the specification's Closed; it leaves both states as they were, and the law returns true; states of more than 2^20 elements in all the law passes by. No condition. -/
import Derived.Test.YtfeoaegkhbjaeaaRows
import Derived.Test.YtfeoaegkhbjaeaaKysE
import Derived.Test.YtfeoaegkhbjaeaaMarkX
import Derived.Test.YtfeoaegkhbjaeaaStT
import Derived.Test.YtfeoaegkhbjaeaaStO
import Derived.Test.YtfeoaegkhbjaeaaStM
import Derived.Test.YtfeoaegkhbjaeaaStD
import Derived.WalkKit
import Derived.ProofKit
import Derived.OpenShut
import Derived.Lib.SmallJoins
import Derived.ChangeOld
import Derived.Below
import Derived.Deep.Slices
import Derived.Deep.Strs
namespace Go.Proofs.Ytfeoaegkhbjaeaa.fnExactClosed
open Go.ChangeShapes Go.WideShapes Go.ChangeAt Go.RowKit Go.Joins Go.Deep

theorem own : ownKnob Try.prog.godebug = none := by kernel_rfl
theorem laidOut : laidOutB Try.prog = true := by kernel_rfl

set_option maxRecDepth 100000 in
set_option maxHeartbeats 20000000 in
theorem walk (ra0 : Option Addr) (rn0 rc0 : Nat) (rx0 : Wd) (wa0 : Option Addr) (wn0 wc0 : Nat) (ga0 : Option Addr) (gn0 gc0 : Nat) (rt0 : Int) (R0 L0 : List Wd) (G0 : List Bool) (ra1 : Option Addr) (rn1 rc1 : Nat) (rx1 : Wd) (wa1 : Option Addr) (wn1 wc1 : Nat) (ga1 : Option Addr) (gn1 gc1 : Nat) (rt1 : Int) (R1 L1 : List Wd) (G1 : List Bool) (w : World) (hS0 : StS w ra0 rn0 wa0 wn0 ga0 gn0 R0 L0 G0) (hS1 : StS w ra1 rn1 wa1 wn1 ga1 gn1 R1 L1 G1) :
    Calls Try.prog 7 #[.agg #[.slice ra0 rn0 rc0, .int .i64 rx0.n, .bool rx0.i, .int .i64 rx0.b, .int .i64 rx0.t, .int .i64 rx0.p, .int .i64 rx0.s, .slice wa0 wn0 wc0, .slice ga0 gn0 gc0, .int .i64 rt0], .agg #[.slice ra1 rn1 rc1, .int .i64 rx1.n, .bool rx1.i, .int .i64 rx1.b, .int .i64 rx1.t, .int .i64 rx1.p, .int .i64 rx1.s, .slice wa1 wn1 wc1, .slice ga1 gn1 gc1, .int .i64 rt1]] w fun e w' => e = .returned (.bool true) ∧ Below w.heap.size w w' := by
  have sz := szState_at ra0 rn0 rc0 rx0 wa0 wn0 wc0 ga0 gn0 gc0 rt0 1048576 (by decide) (by decide) hS0.rs.1 hS0.mem.ws.1 hS0.mem.gs.1
  have H : Hid (Hold w ((w.alloc (.cells (stl ra0 rn0 rc0 rx0 wa0 wn0 wc0 ga0 gn0 gc0 rt0).toArray 42)).alloc (.cells (stl ra1 rn1 rc1 rx1 wa1 wn1 wc1 ga1 gn1 gc1 rt1).toArray 42)) [celF (w.heap.size + 1) (stl ra1 rn1 rc1 rx1 wa1 wn1 wc1 ga1 gn1 gc1 rt1), celF w.heap.size (stl ra0 rn0 rc0 rx0 wa0 wn0 wc0 ga0 gn0 gc0 rt0), argSF w.heap.size ra1 rn1 wa1 wn1 ga1 gn1 R1 L1 G1, argSF w.heap.size ra0 rn0 wa0 wn0 ga0 gn0 R0 L0 G0]) := by
    have h1 := ((((Hold.new w).push (argSF w.heap.size ra0 rn0 wa0 wn0 ga0 gn0 R0 L0 G0) hS0.arg).push (argSF w.heap.size ra1 rn1 wa1 wn1 ga1 gn1 R1 L1 G1) hS1.arg).alloc (.cells (stl ra0 rn0 rc0 rx0 wa0 wn0 wc0 ga0 gn0 gc0 rt0).toArray 42)).push (celF w.heap.size (stl ra0 rn0 rc0 rx0 wa0 wn0 wc0 ga0 gn0 gc0 rt0)) (Cel.new w _ _)
    have g2 := Cel.new (w.alloc (.cells (stl ra0 rn0 rc0 rx0 wa0 wn0 wc0 ga0 gn0 gc0 rt0).toArray 42)) (stl ra1 rn1 rc1 rx1 wa1 wn1 wc1 ga1 gn1 gc1 rt1) 42
    rw [World.size_alloc] at g2
    exact (h1.alloc (.cells (stl ra1 rn1 rc1 rx1 wa1 wn1 wc1 ga1 gn1 gc1 rt1).toArray 42)).push (celF (w.heap.size + 1) (stl ra1 rn1 rc1 rx1 wa1 wn1 wc1 ga1 gn1 gc1 rt1)) g2
  generalize hw1 : (w.alloc (.cells (stl ra0 rn0 rc0 rx0 wa0 wn0 wc0 ga0 gn0 gc0 rt0).toArray 42)).alloc (.cells (stl ra1 rn1 rc1 rx1 wa1 wn1 wc1 ga1 gn1 gc1 rt1).toArray 42) = w1 at H
  by_cases hl : (rn0 : Int) + (wn0 : Int) + (gn0 : Int) ≤ 1048576
  · obtain ⟨m, hm, hm0, hm1⟩ : ∃ m : Int, Hid (m = 1048576 - (rn0 : Int) - (wn0 : Int) - (gn0 : Int)) ∧ 0 ≤ m ∧ m ≤ 1048576 := ⟨_, rfl, by omega, by omega⟩
    simp only [if_pos hl, ← hm.out] at sz
    have SZ := hid_mk sz
    have sy := szState_at ra1 rn1 rc1 rx1 wa1 wn1 wc1 ga1 gn1 gc1 rt1 m hm0 hm1 hS1.rs.1 hS1.mem.ws.1 hS1.mem.gs.1
    have hn0 : rn0 ≤ 1048576 := by omega
    have hw0 : wn0 ≤ 1048576 := by omega
    have hg0 : gn0 ≤ 1048576 := by omega
    clear sz
    by_cases hl2 : (rn1 : Int) + (wn1 : Int) + (gn1 : Int) ≤ m
    · obtain ⟨m2, hm2, hm20⟩ : ∃ m2 : Int, Hid (m2 = m - (rn1 : Int) - (wn1 : Int) - (gn1 : Int)) ∧ 0 ≤ m2 := ⟨_, rfl, by omega⟩
      simp only [if_pos hl2, ← hm2.out] at sy
      have SY := hid_mk sy
      have hn1 : rn1 ≤ 1048576 := by omega
      have hw1' : wn1 ≤ 1048576 := by omega
      have hg1 : gn1 ≤ 1048576 := by omega
      have hls : rn0 + 1 + wn0 ≤ 2097153 := by omega
      have hlt : rn1 + 1 + wn1 ≤ 2097153 := by omega
      have hkl : (keyL R0 rx0 L0).length ≤ 2097153 := by
        refine Nat.le_trans (List.length_filter_le _ _) ?_
        rw [List.length_append, List.length_append, hS0.rs.2.1, hS0.mem.ws.2.1]
        simpa using hls
      obtain ⟨z, Z⟩ : ∃ z, Hid (z = clsB R0 rx0 L0 G0 rt0 R1 rx1 L1 G1 rt1) := ⟨_, rfl⟩
      have X1 : Hid (∀ b bw bg d dw dg w2, AnsS b bw bg rn0 wn0 gn0 R0 L0 G0 w2 → AnsS d dw dg rn1 wn1 gn1 R1 L1 G1 w2 → Calls Try.prog 24 #[.agg #[.slice b rn0 rn0, .int .i64 rx0.n, .bool rx0.i, .int .i64 rx0.b, .int .i64 rx0.t, .int .i64 rx0.p, .int .i64 rx0.s, .slice bw wn0 wn0, .slice bg gn0 gn0, .int .i64 rt0], .agg #[.slice d rn1 rn1, .int .i64 rx1.n, .bool rx1.i, .int .i64 rx1.b, .int .i64 rx1.t, .int .i64 rx1.p, .int .i64 rx1.s, .slice dw wn1 wn1, .slice dg gn1 gn1, .int .i64 rt1]] w2 fun e w' => e = .returned (.bool z) ∧ Below w2.heap.size w2 w') := fun b bw bg d dw dg w2 h1 h2 => by
        rw [Z.out]
        exact specClosed_any b rn0 rn0 rx0 bw wn0 wn0 bg gn0 gn0 rt0 R0 L0 G0 d rn1 rn1 rx1 dw wn1 wn1 dg gn1 gn1 rt1 R1 L1 G1 w2 (fun h => h1.rs.nil0 h) (fun h => h1.ws.nil0 h) (fun h => h2.rs.nil0 h) (fun h => h2.ws.nil0 h) hls hlt (h1.sts hn0 hw0 hg0) (h2.sts hn1 hw1' hg1)
      have X2 : Hid (∀ b bw bg d dw dg w2, AnsS b bw bg rn0 wn0 gn0 R0 L0 G0 w2 → AnsS d dw dg rn1 wn1 gn1 R1 L1 G1 w2 → Calls Try.prog 25 #[.agg #[.slice b rn0 rn0, .int .i64 rx0.n, .bool rx0.i, .int .i64 rx0.b, .int .i64 rx0.t, .int .i64 rx0.p, .int .i64 rx0.s, .slice bw wn0 wn0, .slice bg gn0 gn0, .int .i64 rt0], .agg #[.slice d rn1 rn1, .int .i64 rx1.n, .bool rx1.i, .int .i64 rx1.b, .int .i64 rx1.t, .int .i64 rx1.p, .int .i64 rx1.s, .slice dw wn1 wn1, .slice dg gn1 gn1, .int .i64 rt1]] w2 fun e w' => e = .returned (.bool z) ∧ Below w2.heap.size w2 w') := fun b bw bg d dw dg w2 h1 h2 => by
        rw [Z.out]
        exact implClosed_any b rn0 rn0 rx0 bw wn0 wn0 bg gn0 gn0 rt0 R0 L0 G0 d rn1 rn1 rx1 dw wn1 wn1 dg gn1 gn1 rt1 R1 L1 G1 w2 hkl (h1.sts hn0 hw0 hg0) (h2.sts hn1 hw1' hg1)
      have T0 : Hid (∀ w2, StS w2 ra0 rn0 wa0 wn0 ga0 gn0 R0 L0 G0 → Calls Try.prog 21 #[.agg #[.slice ra0 rn0 rc0, .int .i64 rx0.n, .bool rx0.i, .int .i64 rx0.b, .int .i64 rx0.t, .int .i64 rx0.p, .int .i64 rx0.s, .slice wa0 wn0 wc0, .slice ga0 gn0 gc0, .int .i64 rt0]] w2 fun e w' => ∃ b b1 b2, e = .returned (.agg #[.slice b rn0 rn0, .int .i64 rx0.n, .bool rx0.i, .int .i64 rx0.b, .int .i64 rx0.t, .int .i64 rx0.p, .int .i64 rx0.s, .slice b1 wn0 wn0, .slice b2 gn0 gn0, .int .i64 rt0]) ∧ AnsS b b1 b2 rn0 wn0 gn0 R0 L0 G0 w' ∧ Below w2.heap.size w2 w') := fun w2 h => by
        refine (toState_ans _ _ _ _ _ _ _ _ _ _ _ R0 L0 G0 w2 hn0 hw0 hg0 h).mono ?_
        rintro e w' ⟨b, b1, b2, rfl, hA, _, hb⟩
        exact ⟨b, b1, b2, rfl, hA, hb⟩
      have T1 : Hid (∀ w2, StS w2 ra1 rn1 wa1 wn1 ga1 gn1 R1 L1 G1 → Calls Try.prog 21 #[.agg #[.slice ra1 rn1 rc1, .int .i64 rx1.n, .bool rx1.i, .int .i64 rx1.b, .int .i64 rx1.t, .int .i64 rx1.p, .int .i64 rx1.s, .slice wa1 wn1 wc1, .slice ga1 gn1 gc1, .int .i64 rt1]] w2 fun e w' => ∃ b b1 b2, e = .returned (.agg #[.slice b rn1 rn1, .int .i64 rx1.n, .bool rx1.i, .int .i64 rx1.b, .int .i64 rx1.t, .int .i64 rx1.p, .int .i64 rx1.s, .slice b1 wn1 wn1, .slice b2 gn1 gn1, .int .i64 rt1]) ∧ AnsS b b1 b2 rn1 wn1 gn1 R1 L1 G1 w' ∧ Below w2.heap.size w2 w') := fun w2 h => by
        refine (toState_ans _ _ _ _ _ _ _ _ _ _ _ R1 L1 G1 w2 hn1 hw1' hg1 h).mono ?_
        rintro e w' ⟨b, b1, b2, rfl, hA, _, hb⟩
        exact ⟨b, b1, b2, rfl, hA, hb⟩
      have U0 := hid_mk (fun w2 (h : Hold w w2 [celF (w.heap.size + 1) (stl ra1 rn1 rc1 rx1 wa1 wn1 wc1 ga1 gn1 gc1 rt1), celF w.heap.size (stl ra0 rn0 rc0 rx0 wa0 wn0 wc0 ga0 gn0 gc0 rt0), argSF w.heap.size ra1 rn1 wa1 wn1 ga1 gn1 R1 L1 G1, argSF w.heap.size ra0 rn0 wa0 wn0 ga0 gn0 R0 L0 G0]) => T0.out w2 (h.argS (.tail _ (.tail _ (.tail _ (.head _))))))
      have U1 := hid_mk (fun w2 (h : Hold w w2 [celF (w.heap.size + 1) (stl ra1 rn1 rc1 rx1 wa1 wn1 wc1 ga1 gn1 gc1 rt1), celF w.heap.size (stl ra0 rn0 rc0 rx0 wa0 wn0 wc0 ga0 gn0 gc0 rt0), argSF w.heap.size ra1 rn1 wa1 wn1 ga1 gn1 R1 L1 G1, argSF w.heap.size ra0 rn0 wa0 wn0 ga0 gn0 R0 L0 G0]) => T1.out w2 (h.argS (.tail _ (.tail _ (.head _)))))
      have hy : (z != z) = false := by simp
      clear sy hS0 hS1 hl hl2 hls hlt hkl Z
      go_enter Try.func7, Try.ntmps7
      go_upto_region 1 with fail
      clear hw1
      obtain ⟨m0, m1, m2, m3, m4, m5, m6, m7, m8, m9⟩ := (H.out.cel (.tail _ (.head _))).c10
      go_wp2_with fail
      refine (SZ.out _).mono ?_
      rintro e w2 ⟨rfl, hb2⟩
      replace H := hid_mk (H.out.next hb2)
      clear hb2 m0 m1 m2 m3 m4 m5 m6 m7 m8 m9 SZ
      obtain ⟨m0, m1, m2, m3, m4, m5, m6, m7, m8, m9⟩ := (H.out.cel (.head _)).c10
      go_wp2_with fail
      refine (SY.out _).mono ?_
      rintro e w3 ⟨rfl, hb2⟩
      replace H := hid_mk (H.out.next hb2)
      clear hb2 m0 m1 m2 m3 m4 m5 m6 m7 m8 m9 SY
      go_upto_region 8 with fail
      have ALL : Hid (∀ w', Hold w w' [celF (w.heap.size + 1) (stl ra1 rn1 rc1 rx1 wa1 wn1 wc1 ga1 gn1 gc1 rt1), celF w.heap.size (stl ra0 rn0 rc0 rx0 wa0 wn0 wc0 ga0 gn0 gc0 rt0), argSF w.heap.size ra1 rn1 wa1 wn1 ga1 gn1 R1 L1 G1, argSF w.heap.size ra0 rn0 wa0 wn0 ga0 gn0 R0 L0 G0] → (w'.cell? ⟨w.heap.size, 0, none⟩ = some (.slice ra0 rn0 rc0) ∧ w'.cell? ⟨w.heap.size, 1, none⟩ = some (.int .i64 rx0.n) ∧ w'.cell? ⟨w.heap.size, 2, none⟩ = some (.bool rx0.i) ∧ w'.cell? ⟨w.heap.size, 3, none⟩ = some (.int .i64 rx0.b) ∧ w'.cell? ⟨w.heap.size, 4, none⟩ = some (.int .i64 rx0.t) ∧ w'.cell? ⟨w.heap.size, 5, none⟩ = some (.int .i64 rx0.p) ∧ w'.cell? ⟨w.heap.size, 6, none⟩ = some (.int .i64 rx0.s) ∧ w'.cell? ⟨w.heap.size, 7, none⟩ = some (.slice wa0 wn0 wc0) ∧ w'.cell? ⟨w.heap.size, 8, none⟩ = some (.slice ga0 gn0 gc0) ∧ w'.cell? ⟨w.heap.size, 9, none⟩ = some (.int .i64 rt0) ∧ w'.cell? ⟨w.heap.size + 1, 0, none⟩ = some (.slice ra1 rn1 rc1) ∧ w'.cell? ⟨w.heap.size + 1, 1, none⟩ = some (.int .i64 rx1.n) ∧ w'.cell? ⟨w.heap.size + 1, 2, none⟩ = some (.bool rx1.i) ∧ w'.cell? ⟨w.heap.size + 1, 3, none⟩ = some (.int .i64 rx1.b) ∧ w'.cell? ⟨w.heap.size + 1, 4, none⟩ = some (.int .i64 rx1.t) ∧ w'.cell? ⟨w.heap.size + 1, 5, none⟩ = some (.int .i64 rx1.p) ∧ w'.cell? ⟨w.heap.size + 1, 6, none⟩ = some (.int .i64 rx1.s) ∧ w'.cell? ⟨w.heap.size + 1, 7, none⟩ = some (.slice wa1 wn1 wc1) ∧ w'.cell? ⟨w.heap.size + 1, 8, none⟩ = some (.slice ga1 gn1 gc1) ∧ w'.cell? ⟨w.heap.size + 1, 9, none⟩ = some (.int .i64 rt1) ∧ Hid (Hold w w' [celF (w.heap.size + 1) (stl ra1 rn1 rc1 rx1 wa1 wn1 wc1 ga1 gn1 gc1 rt1), celF w.heap.size (stl ra0 rn0 rc0 rx0 wa0 wn0 wc0 ga0 gn0 gc0 rt0), argSF w.heap.size ra1 rn1 wa1 wn1 ga1 gn1 R1 L1 G1, argSF w.heap.size ra0 rn0 wa0 wn0 ga0 gn0 R0 L0 G0]))) := fun w' h => by
        have h0 := h.cel (.tail _ (.head _))
        have h1 := h.cel (.head _)
        exact ⟨h0.c 0 _ rfl, h0.c 1 _ rfl, h0.c 2 _ rfl, h0.c 3 _ rfl, h0.c 4 _ rfl, h0.c 5 _ rfl, h0.c 6 _ rfl, h0.c 7 _ rfl, h0.c 8 _ rfl, h0.c 9 _ rfl, h1.c 0 _ rfl, h1.c 1 _ rfl, h1.c 2 _ rfl, h1.c 3 _ rfl, h1.c 4 _ rfl, h1.c 5 _ rfl, h1.c 6 _ rfl, h1.c 7 _ rfl, h1.c 8 _ rfl, h1.c 9 _ rfl, h⟩
      have GET : Hid (∀ w', (w'.cell? ⟨w.heap.size, 0, none⟩ = some (.slice ra0 rn0 rc0) ∧ w'.cell? ⟨w.heap.size, 1, none⟩ = some (.int .i64 rx0.n) ∧ w'.cell? ⟨w.heap.size, 2, none⟩ = some (.bool rx0.i) ∧ w'.cell? ⟨w.heap.size, 3, none⟩ = some (.int .i64 rx0.b) ∧ w'.cell? ⟨w.heap.size, 4, none⟩ = some (.int .i64 rx0.t) ∧ w'.cell? ⟨w.heap.size, 5, none⟩ = some (.int .i64 rx0.p) ∧ w'.cell? ⟨w.heap.size, 6, none⟩ = some (.int .i64 rx0.s) ∧ w'.cell? ⟨w.heap.size, 7, none⟩ = some (.slice wa0 wn0 wc0) ∧ w'.cell? ⟨w.heap.size, 8, none⟩ = some (.slice ga0 gn0 gc0) ∧ w'.cell? ⟨w.heap.size, 9, none⟩ = some (.int .i64 rt0) ∧ w'.cell? ⟨w.heap.size + 1, 0, none⟩ = some (.slice ra1 rn1 rc1) ∧ w'.cell? ⟨w.heap.size + 1, 1, none⟩ = some (.int .i64 rx1.n) ∧ w'.cell? ⟨w.heap.size + 1, 2, none⟩ = some (.bool rx1.i) ∧ w'.cell? ⟨w.heap.size + 1, 3, none⟩ = some (.int .i64 rx1.b) ∧ w'.cell? ⟨w.heap.size + 1, 4, none⟩ = some (.int .i64 rx1.t) ∧ w'.cell? ⟨w.heap.size + 1, 5, none⟩ = some (.int .i64 rx1.p) ∧ w'.cell? ⟨w.heap.size + 1, 6, none⟩ = some (.int .i64 rx1.s) ∧ w'.cell? ⟨w.heap.size + 1, 7, none⟩ = some (.slice wa1 wn1 wc1) ∧ w'.cell? ⟨w.heap.size + 1, 8, none⟩ = some (.slice ga1 gn1 gc1) ∧ w'.cell? ⟨w.heap.size + 1, 9, none⟩ = some (.int .i64 rt1) ∧ Hid (Hold w w' [celF (w.heap.size + 1) (stl ra1 rn1 rc1 rx1 wa1 wn1 wc1 ga1 gn1 gc1 rt1), celF w.heap.size (stl ra0 rn0 rc0 rx0 wa0 wn0 wc0 ga0 gn0 gc0 rt0), argSF w.heap.size ra1 rn1 wa1 wn1 ga1 gn1 R1 L1 G1, argSF w.heap.size ra0 rn0 wa0 wn0 ga0 gn0 R0 L0 G0])) → Hold w w' [celF (w.heap.size + 1) (stl ra1 rn1 rc1 rx1 wa1 wn1 wc1 ga1 gn1 gc1 rt1), celF w.heap.size (stl ra0 rn0 rc0 rx0 wa0 wn0 wc0 ga0 gn0 gc0 rt0), argSF w.heap.size ra1 rn1 wa1 wn1 ga1 gn1 R1 L1 G1, argSF w.heap.size ra0 rn0 wa0 wn0 ga0 gn0 R0 L0 G0]) := fun w' h => h.2.2.2.2.2.2.2.2.2.2.2.2.2.2.2.2.2.2.2.2
      have F0 := hid_mk H.out.drew
      clear H
      go_region_held3 (fun w' => w'.cell? ⟨w.heap.size, 0, none⟩ = some (.slice ra0 rn0 rc0) ∧ w'.cell? ⟨w.heap.size, 1, none⟩ = some (.int .i64 rx0.n) ∧ w'.cell? ⟨w.heap.size, 2, none⟩ = some (.bool rx0.i) ∧ w'.cell? ⟨w.heap.size, 3, none⟩ = some (.int .i64 rx0.b) ∧ w'.cell? ⟨w.heap.size, 4, none⟩ = some (.int .i64 rx0.t) ∧ w'.cell? ⟨w.heap.size, 5, none⟩ = some (.int .i64 rx0.p) ∧ w'.cell? ⟨w.heap.size, 6, none⟩ = some (.int .i64 rx0.s) ∧ w'.cell? ⟨w.heap.size, 7, none⟩ = some (.slice wa0 wn0 wc0) ∧ w'.cell? ⟨w.heap.size, 8, none⟩ = some (.slice ga0 gn0 gc0) ∧ w'.cell? ⟨w.heap.size, 9, none⟩ = some (.int .i64 rt0) ∧ w'.cell? ⟨w.heap.size + 1, 0, none⟩ = some (.slice ra1 rn1 rc1) ∧ w'.cell? ⟨w.heap.size + 1, 1, none⟩ = some (.int .i64 rx1.n) ∧ w'.cell? ⟨w.heap.size + 1, 2, none⟩ = some (.bool rx1.i) ∧ w'.cell? ⟨w.heap.size + 1, 3, none⟩ = some (.int .i64 rx1.b) ∧ w'.cell? ⟨w.heap.size + 1, 4, none⟩ = some (.int .i64 rx1.t) ∧ w'.cell? ⟨w.heap.size + 1, 5, none⟩ = some (.int .i64 rx1.p) ∧ w'.cell? ⟨w.heap.size + 1, 6, none⟩ = some (.int .i64 rx1.s) ∧ w'.cell? ⟨w.heap.size + 1, 7, none⟩ = some (.slice wa1 wn1 wc1) ∧ w'.cell? ⟨w.heap.size + 1, 8, none⟩ = some (.slice ga1 gn1 gc1) ∧ w'.cell? ⟨w.heap.size + 1, 9, none⟩ = some (.int .i64 rt1) ∧ Hid (Hold w w' [celF (w.heap.size + 1) (stl ra1 rn1 rc1 rx1 wa1 wn1 wc1 ga1 gn1 gc1 rt1), celF w.heap.size (stl ra0 rn0 rc0 rx0 wa0 wn0 wc0 ga0 gn0 gc0 rt0), argSF w.heap.size ra1 rn1 wa1 wn1 ga1 gn1 R1 L1 G1, argSF w.heap.size ra0 rn0 wa0 wn0 ga0 gn0 R0 L0 G0]))
        (first | (with_reducible assumption) | (((with_reducible refine ALL.out _ ?_); (first | (with_reducible exact F0.out) | ((with_reducible apply Hold.next ?_ K9.out); (with_reducible exact GET.out _ (by with_reducible assumption))) | ((with_reducible apply Hold.next ?_ K8.out); (with_reducible exact GET.out _ (by with_reducible assumption))) | ((with_reducible apply Hold.next ?_ K7.out); (with_reducible exact GET.out _ (by with_reducible assumption))) | fail))))
        (first
          | (go_at_call 24; refine (X1.out _ _ _ _ _ _ _ AA.out AB.out).mono ?_; rintro e wv ⟨rfl, hbv⟩; have K9 := hid_mk hbv; clear hbv)
          | (go_at_call 21; with_reducible refine (U0.out _ (GET.out _ (by with_reducible assumption))).mono ?_; rintro e wt ⟨b3, b3w, b3g, rfl, hA, hbt⟩; have K7 := hid_mk hbt; have AA := hid_mk hA; (first | (have AB := hid_mk (AB.out.below hbt)) | skip); clear hbt hA)
          | (go_at_call 21; with_reducible refine (U1.out _ (GET.out _ (by with_reducible assumption))).mono ?_; rintro e wu ⟨b4, b4w, b4g, rfl, hA, hbt⟩; have K8 := hid_mk hbt; have AB := hid_mk hA; (first | (have AA := hid_mk (AA.out.below hbt)) | skip); clear hbt hA))
      all_goals
        have H := hid_mk (GET.out _ (by with_reducible assumption))
        clear ALL GET F0 K7 K8 K9 AA AB
        go_upto_region 9 with fail
        obtain ⟨m0, m1, m2, m3, m4, m5, m6, m7, m8, m9⟩ := (H.out.cel (.tail _ (.head _))).c10
        go_wp2_with fail
        refine (T0.out _ (H.out.argS (.tail _ (.tail _ (.tail _ (.head _)))))).mono ?_
        rintro e w5 ⟨b5, b5w, b5g, rfl, A5, hb5⟩
        replace H := hid_mk ((((H.out.next hb5).push (ansSF b5 b5w b5g rn0 wn0 gn0 R0 L0 G0) A5).alloc (.cells (stl b5 rn0 rn0 rx0 b5w wn0 wn0 b5g gn0 gn0 rt0).toArray 49)).push (celF w5.heap.size (stl b5 rn0 rn0 rx0 b5w wn0 wn0 b5g gn0 gn0 rt0)) (Cel.new _ _ _))
        clear hb5 m0 m1 m2 m3 m4 m5 m6 m7 m8 m9 A5
        go_upto_region 10 with fail
        generalize w5.alloc (.cells (stl b5 rn0 rn0 rx0 b5w wn0 wn0 b5g gn0 gn0 rt0).toArray 49) = w6 at H ⊢
        generalize w5.heap.size = r5 at H ⊢
        obtain ⟨m0, m1, m2, m3, m4, m5, m6, m7, m8, m9⟩ := (H.out.cel (.tail _ (.tail _ (.head _)))).c10
        go_wp2_with fail
        refine (T1.out _ (H.out.argS (.tail _ (.tail _ (.tail _ (.tail _ (.head _))))))).mono ?_
        rintro e w7 ⟨b6, b6w, b6g, rfl, A6, hb6⟩
        replace H := hid_mk ((((H.out.next hb6).push (ansSF b6 b6w b6g rn1 wn1 gn1 R1 L1 G1) A6).alloc (.cells (stl b6 rn1 rn1 rx1 b6w wn1 wn1 b6g gn1 gn1 rt1).toArray 49)).push (celF w7.heap.size (stl b6 rn1 rn1 rx1 b6w wn1 wn1 b6g gn1 gn1 rt1)) (Cel.new _ _ _))
        clear hb6 m0 m1 m2 m3 m4 m5 m6 m7 m8 m9 A6
        go_upto_region 11 with fail
        generalize w7.alloc (.cells (stl b6 rn1 rn1 rx1 b6w wn1 wn1 b6g gn1 gn1 rt1).toArray 49) = w8 at H ⊢
        generalize w7.heap.size = r6 at H ⊢
        obtain ⟨m0, m1, m2, m3, m4, m5, m6, m7, m8, m9⟩ := (H.out.cel (.tail _ (.tail _ (.head _)))).c10
        obtain ⟨o0, o1, o2, o3, o4, o5, o6, o7, o8, o9⟩ := (H.out.cel (.head _)).c10
        go_wp2_with fail
        refine (X2.out _ _ _ _ _ _ _ (H.out.ansS (.tail _ (.tail _ (.tail _ (.head _))))) (H.out.ansS (.tail _ (.head _)))).mono ?_
        rintro e w9 ⟨rfl, hb9⟩
        replace H := hid_mk (H.out.next hb9)
        clear hb9 m0 m1 m2 m3 m4 m5 m6 m7 m8 m9 o0 o1 o2 o3 o4 o5 o6 o7 o8 o9 X1 X2
        go_upto_region 14 with fail
        have ALL : Hid (∀ w', Hold w w' [celF r6 (stl b6 rn1 rn1 rx1 b6w wn1 wn1 b6g gn1 gn1 rt1), ansSF b6 b6w b6g rn1 wn1 gn1 R1 L1 G1, celF r5 (stl b5 rn0 rn0 rx0 b5w wn0 wn0 b5g gn0 gn0 rt0), ansSF b5 b5w b5g rn0 wn0 gn0 R0 L0 G0, celF (w.heap.size + 1) (stl ra1 rn1 rc1 rx1 wa1 wn1 wc1 ga1 gn1 gc1 rt1), celF w.heap.size (stl ra0 rn0 rc0 rx0 wa0 wn0 wc0 ga0 gn0 gc0 rt0), argSF w.heap.size ra1 rn1 wa1 wn1 ga1 gn1 R1 L1 G1, argSF w.heap.size ra0 rn0 wa0 wn0 ga0 gn0 R0 L0 G0] → (w'.cell? ⟨r5, 0, none⟩ = some (.slice b5 rn0 rn0) ∧ w'.cell? ⟨r5, 1, none⟩ = some (.int .i64 rx0.n) ∧ w'.cell? ⟨r5, 2, none⟩ = some (.bool rx0.i) ∧ w'.cell? ⟨r5, 3, none⟩ = some (.int .i64 rx0.b) ∧ w'.cell? ⟨r5, 4, none⟩ = some (.int .i64 rx0.t) ∧ w'.cell? ⟨r5, 5, none⟩ = some (.int .i64 rx0.p) ∧ w'.cell? ⟨r5, 6, none⟩ = some (.int .i64 rx0.s) ∧ w'.cell? ⟨r5, 7, none⟩ = some (.slice b5w wn0 wn0) ∧ w'.cell? ⟨r5, 8, none⟩ = some (.slice b5g gn0 gn0) ∧ w'.cell? ⟨r5, 9, none⟩ = some (.int .i64 rt0) ∧ w'.cell? ⟨w.heap.size, 0, none⟩ = some (.slice ra0 rn0 rc0) ∧ w'.cell? ⟨w.heap.size, 1, none⟩ = some (.int .i64 rx0.n) ∧ w'.cell? ⟨w.heap.size, 2, none⟩ = some (.bool rx0.i) ∧ w'.cell? ⟨w.heap.size, 3, none⟩ = some (.int .i64 rx0.b) ∧ w'.cell? ⟨w.heap.size, 4, none⟩ = some (.int .i64 rx0.t) ∧ w'.cell? ⟨w.heap.size, 5, none⟩ = some (.int .i64 rx0.p) ∧ w'.cell? ⟨w.heap.size, 6, none⟩ = some (.int .i64 rx0.s) ∧ w'.cell? ⟨w.heap.size, 7, none⟩ = some (.slice wa0 wn0 wc0) ∧ w'.cell? ⟨w.heap.size, 8, none⟩ = some (.slice ga0 gn0 gc0) ∧ w'.cell? ⟨w.heap.size, 9, none⟩ = some (.int .i64 rt0) ∧ Hid (Hold w w' [celF r6 (stl b6 rn1 rn1 rx1 b6w wn1 wn1 b6g gn1 gn1 rt1), ansSF b6 b6w b6g rn1 wn1 gn1 R1 L1 G1, celF r5 (stl b5 rn0 rn0 rx0 b5w wn0 wn0 b5g gn0 gn0 rt0), ansSF b5 b5w b5g rn0 wn0 gn0 R0 L0 G0, celF (w.heap.size + 1) (stl ra1 rn1 rc1 rx1 wa1 wn1 wc1 ga1 gn1 gc1 rt1), celF w.heap.size (stl ra0 rn0 rc0 rx0 wa0 wn0 wc0 ga0 gn0 gc0 rt0), argSF w.heap.size ra1 rn1 wa1 wn1 ga1 gn1 R1 L1 G1, argSF w.heap.size ra0 rn0 wa0 wn0 ga0 gn0 R0 L0 G0]))) := fun w' h => by
          have h0 := h.cel (.tail _ (.tail _ (.head _)))
          have h1 := h.cel (.tail _ (.tail _ (.tail _ (.tail _ (.tail _ (.head _))))))
          exact ⟨h0.c 0 _ rfl, h0.c 1 _ rfl, h0.c 2 _ rfl, h0.c 3 _ rfl, h0.c 4 _ rfl, h0.c 5 _ rfl, h0.c 6 _ rfl, h0.c 7 _ rfl, h0.c 8 _ rfl, h0.c 9 _ rfl, h1.c 0 _ rfl, h1.c 1 _ rfl, h1.c 2 _ rfl, h1.c 3 _ rfl, h1.c 4 _ rfl, h1.c 5 _ rfl, h1.c 6 _ rfl, h1.c 7 _ rfl, h1.c 8 _ rfl, h1.c 9 _ rfl, h⟩
        have GET : Hid (∀ w', (w'.cell? ⟨r5, 0, none⟩ = some (.slice b5 rn0 rn0) ∧ w'.cell? ⟨r5, 1, none⟩ = some (.int .i64 rx0.n) ∧ w'.cell? ⟨r5, 2, none⟩ = some (.bool rx0.i) ∧ w'.cell? ⟨r5, 3, none⟩ = some (.int .i64 rx0.b) ∧ w'.cell? ⟨r5, 4, none⟩ = some (.int .i64 rx0.t) ∧ w'.cell? ⟨r5, 5, none⟩ = some (.int .i64 rx0.p) ∧ w'.cell? ⟨r5, 6, none⟩ = some (.int .i64 rx0.s) ∧ w'.cell? ⟨r5, 7, none⟩ = some (.slice b5w wn0 wn0) ∧ w'.cell? ⟨r5, 8, none⟩ = some (.slice b5g gn0 gn0) ∧ w'.cell? ⟨r5, 9, none⟩ = some (.int .i64 rt0) ∧ w'.cell? ⟨w.heap.size, 0, none⟩ = some (.slice ra0 rn0 rc0) ∧ w'.cell? ⟨w.heap.size, 1, none⟩ = some (.int .i64 rx0.n) ∧ w'.cell? ⟨w.heap.size, 2, none⟩ = some (.bool rx0.i) ∧ w'.cell? ⟨w.heap.size, 3, none⟩ = some (.int .i64 rx0.b) ∧ w'.cell? ⟨w.heap.size, 4, none⟩ = some (.int .i64 rx0.t) ∧ w'.cell? ⟨w.heap.size, 5, none⟩ = some (.int .i64 rx0.p) ∧ w'.cell? ⟨w.heap.size, 6, none⟩ = some (.int .i64 rx0.s) ∧ w'.cell? ⟨w.heap.size, 7, none⟩ = some (.slice wa0 wn0 wc0) ∧ w'.cell? ⟨w.heap.size, 8, none⟩ = some (.slice ga0 gn0 gc0) ∧ w'.cell? ⟨w.heap.size, 9, none⟩ = some (.int .i64 rt0) ∧ Hid (Hold w w' [celF r6 (stl b6 rn1 rn1 rx1 b6w wn1 wn1 b6g gn1 gn1 rt1), ansSF b6 b6w b6g rn1 wn1 gn1 R1 L1 G1, celF r5 (stl b5 rn0 rn0 rx0 b5w wn0 wn0 b5g gn0 gn0 rt0), ansSF b5 b5w b5g rn0 wn0 gn0 R0 L0 G0, celF (w.heap.size + 1) (stl ra1 rn1 rc1 rx1 wa1 wn1 wc1 ga1 gn1 gc1 rt1), celF w.heap.size (stl ra0 rn0 rc0 rx0 wa0 wn0 wc0 ga0 gn0 gc0 rt0), argSF w.heap.size ra1 rn1 wa1 wn1 ga1 gn1 R1 L1 G1, argSF w.heap.size ra0 rn0 wa0 wn0 ga0 gn0 R0 L0 G0])) → Hold w w' [celF r6 (stl b6 rn1 rn1 rx1 b6w wn1 wn1 b6g gn1 gn1 rt1), ansSF b6 b6w b6g rn1 wn1 gn1 R1 L1 G1, celF r5 (stl b5 rn0 rn0 rx0 b5w wn0 wn0 b5g gn0 gn0 rt0), ansSF b5 b5w b5g rn0 wn0 gn0 R0 L0 G0, celF (w.heap.size + 1) (stl ra1 rn1 rc1 rx1 wa1 wn1 wc1 ga1 gn1 gc1 rt1), celF w.heap.size (stl ra0 rn0 rc0 rx0 wa0 wn0 wc0 ga0 gn0 gc0 rt0), argSF w.heap.size ra1 rn1 wa1 wn1 ga1 gn1 R1 L1 G1, argSF w.heap.size ra0 rn0 wa0 wn0 ga0 gn0 R0 L0 G0]) := fun w' h => h.2.2.2.2.2.2.2.2.2.2.2.2.2.2.2.2.2.2.2.2
        have F0 := hid_mk H.out.drew
        clear H
        go_region_held3 (fun w' => w'.cell? ⟨r5, 0, none⟩ = some (.slice b5 rn0 rn0) ∧ w'.cell? ⟨r5, 1, none⟩ = some (.int .i64 rx0.n) ∧ w'.cell? ⟨r5, 2, none⟩ = some (.bool rx0.i) ∧ w'.cell? ⟨r5, 3, none⟩ = some (.int .i64 rx0.b) ∧ w'.cell? ⟨r5, 4, none⟩ = some (.int .i64 rx0.t) ∧ w'.cell? ⟨r5, 5, none⟩ = some (.int .i64 rx0.p) ∧ w'.cell? ⟨r5, 6, none⟩ = some (.int .i64 rx0.s) ∧ w'.cell? ⟨r5, 7, none⟩ = some (.slice b5w wn0 wn0) ∧ w'.cell? ⟨r5, 8, none⟩ = some (.slice b5g gn0 gn0) ∧ w'.cell? ⟨r5, 9, none⟩ = some (.int .i64 rt0) ∧ w'.cell? ⟨w.heap.size, 0, none⟩ = some (.slice ra0 rn0 rc0) ∧ w'.cell? ⟨w.heap.size, 1, none⟩ = some (.int .i64 rx0.n) ∧ w'.cell? ⟨w.heap.size, 2, none⟩ = some (.bool rx0.i) ∧ w'.cell? ⟨w.heap.size, 3, none⟩ = some (.int .i64 rx0.b) ∧ w'.cell? ⟨w.heap.size, 4, none⟩ = some (.int .i64 rx0.t) ∧ w'.cell? ⟨w.heap.size, 5, none⟩ = some (.int .i64 rx0.p) ∧ w'.cell? ⟨w.heap.size, 6, none⟩ = some (.int .i64 rx0.s) ∧ w'.cell? ⟨w.heap.size, 7, none⟩ = some (.slice wa0 wn0 wc0) ∧ w'.cell? ⟨w.heap.size, 8, none⟩ = some (.slice ga0 gn0 gc0) ∧ w'.cell? ⟨w.heap.size, 9, none⟩ = some (.int .i64 rt0) ∧ Hid (Hold w w' [celF r6 (stl b6 rn1 rn1 rx1 b6w wn1 wn1 b6g gn1 gn1 rt1), ansSF b6 b6w b6g rn1 wn1 gn1 R1 L1 G1, celF r5 (stl b5 rn0 rn0 rx0 b5w wn0 wn0 b5g gn0 gn0 rt0), ansSF b5 b5w b5g rn0 wn0 gn0 R0 L0 G0, celF (w.heap.size + 1) (stl ra1 rn1 rc1 rx1 wa1 wn1 wc1 ga1 gn1 gc1 rt1), celF w.heap.size (stl ra0 rn0 rc0 rx0 wa0 wn0 wc0 ga0 gn0 gc0 rt0), argSF w.heap.size ra1 rn1 wa1 wn1 ga1 gn1 R1 L1 G1, argSF w.heap.size ra0 rn0 wa0 wn0 ga0 gn0 R0 L0 G0]))
          (first | (with_reducible assumption) | (((with_reducible refine ALL.out _ ?_); (first | (with_reducible exact F0.out) | ((with_reducible apply Hold.next ?_ K8.out); (with_reducible exact GET.out _ (by with_reducible assumption))) | ((with_reducible apply Hold.next ?_ K9.out); (with_reducible exact GET.out _ (by with_reducible assumption))) | fail))))
          (first
            | (go_at_call 21; refine (T0.out _ ((GET.out _ (by with_reducible assumption)).argS (.tail _ (.tail _ (.tail _ (.tail _ (.tail _ (.tail _ (.tail _ (.head _)))))))))).mono ?_; rintro e wt ⟨b8, b8w, b8g, rfl, A8, hbt⟩; have K8 := hid_mk hbt; have A8 := hid_mk A8; clear hbt)
            | (go_at_call 23; refine (eqState_same _ _ _ _ _ _ _ _ _ _ _ _ _ _ _ _ _ R0 L0 G0 _ (((GET.out _ (by with_reducible assumption)).ansS (.tail _ (.tail _ (.tail _ (.head _))))).sts hn0 hw0 hg0) (A8.out.sts hn0 hw0 hg0)).mono ?_; rintro e wu ⟨rfl, hbu⟩; have K9 := hid_mk hbu; clear hbu))
        have H := hid_mk (GET.out _ (by with_reducible assumption))
        clear ALL GET F0 K8 K9 A8
        go_upto_region 16 with fail
        have ALL : Hid (∀ w', Hold w w' [celF r6 (stl b6 rn1 rn1 rx1 b6w wn1 wn1 b6g gn1 gn1 rt1), ansSF b6 b6w b6g rn1 wn1 gn1 R1 L1 G1, celF r5 (stl b5 rn0 rn0 rx0 b5w wn0 wn0 b5g gn0 gn0 rt0), ansSF b5 b5w b5g rn0 wn0 gn0 R0 L0 G0, celF (w.heap.size + 1) (stl ra1 rn1 rc1 rx1 wa1 wn1 wc1 ga1 gn1 gc1 rt1), celF w.heap.size (stl ra0 rn0 rc0 rx0 wa0 wn0 wc0 ga0 gn0 gc0 rt0), argSF w.heap.size ra1 rn1 wa1 wn1 ga1 gn1 R1 L1 G1, argSF w.heap.size ra0 rn0 wa0 wn0 ga0 gn0 R0 L0 G0] → (w'.cell? ⟨r6, 0, none⟩ = some (.slice b6 rn1 rn1) ∧ w'.cell? ⟨r6, 1, none⟩ = some (.int .i64 rx1.n) ∧ w'.cell? ⟨r6, 2, none⟩ = some (.bool rx1.i) ∧ w'.cell? ⟨r6, 3, none⟩ = some (.int .i64 rx1.b) ∧ w'.cell? ⟨r6, 4, none⟩ = some (.int .i64 rx1.t) ∧ w'.cell? ⟨r6, 5, none⟩ = some (.int .i64 rx1.p) ∧ w'.cell? ⟨r6, 6, none⟩ = some (.int .i64 rx1.s) ∧ w'.cell? ⟨r6, 7, none⟩ = some (.slice b6w wn1 wn1) ∧ w'.cell? ⟨r6, 8, none⟩ = some (.slice b6g gn1 gn1) ∧ w'.cell? ⟨r6, 9, none⟩ = some (.int .i64 rt1) ∧ w'.cell? ⟨w.heap.size + 1, 0, none⟩ = some (.slice ra1 rn1 rc1) ∧ w'.cell? ⟨w.heap.size + 1, 1, none⟩ = some (.int .i64 rx1.n) ∧ w'.cell? ⟨w.heap.size + 1, 2, none⟩ = some (.bool rx1.i) ∧ w'.cell? ⟨w.heap.size + 1, 3, none⟩ = some (.int .i64 rx1.b) ∧ w'.cell? ⟨w.heap.size + 1, 4, none⟩ = some (.int .i64 rx1.t) ∧ w'.cell? ⟨w.heap.size + 1, 5, none⟩ = some (.int .i64 rx1.p) ∧ w'.cell? ⟨w.heap.size + 1, 6, none⟩ = some (.int .i64 rx1.s) ∧ w'.cell? ⟨w.heap.size + 1, 7, none⟩ = some (.slice wa1 wn1 wc1) ∧ w'.cell? ⟨w.heap.size + 1, 8, none⟩ = some (.slice ga1 gn1 gc1) ∧ w'.cell? ⟨w.heap.size + 1, 9, none⟩ = some (.int .i64 rt1) ∧ Hid (Hold w w' [celF r6 (stl b6 rn1 rn1 rx1 b6w wn1 wn1 b6g gn1 gn1 rt1), ansSF b6 b6w b6g rn1 wn1 gn1 R1 L1 G1, celF r5 (stl b5 rn0 rn0 rx0 b5w wn0 wn0 b5g gn0 gn0 rt0), ansSF b5 b5w b5g rn0 wn0 gn0 R0 L0 G0, celF (w.heap.size + 1) (stl ra1 rn1 rc1 rx1 wa1 wn1 wc1 ga1 gn1 gc1 rt1), celF w.heap.size (stl ra0 rn0 rc0 rx0 wa0 wn0 wc0 ga0 gn0 gc0 rt0), argSF w.heap.size ra1 rn1 wa1 wn1 ga1 gn1 R1 L1 G1, argSF w.heap.size ra0 rn0 wa0 wn0 ga0 gn0 R0 L0 G0]))) := fun w' h => by
          have h0 := h.cel (.head _)
          have h1 := h.cel (.tail _ (.tail _ (.tail _ (.tail _ (.head _)))))
          exact ⟨h0.c 0 _ rfl, h0.c 1 _ rfl, h0.c 2 _ rfl, h0.c 3 _ rfl, h0.c 4 _ rfl, h0.c 5 _ rfl, h0.c 6 _ rfl, h0.c 7 _ rfl, h0.c 8 _ rfl, h0.c 9 _ rfl, h1.c 0 _ rfl, h1.c 1 _ rfl, h1.c 2 _ rfl, h1.c 3 _ rfl, h1.c 4 _ rfl, h1.c 5 _ rfl, h1.c 6 _ rfl, h1.c 7 _ rfl, h1.c 8 _ rfl, h1.c 9 _ rfl, h⟩
        have GET : Hid (∀ w', (w'.cell? ⟨r6, 0, none⟩ = some (.slice b6 rn1 rn1) ∧ w'.cell? ⟨r6, 1, none⟩ = some (.int .i64 rx1.n) ∧ w'.cell? ⟨r6, 2, none⟩ = some (.bool rx1.i) ∧ w'.cell? ⟨r6, 3, none⟩ = some (.int .i64 rx1.b) ∧ w'.cell? ⟨r6, 4, none⟩ = some (.int .i64 rx1.t) ∧ w'.cell? ⟨r6, 5, none⟩ = some (.int .i64 rx1.p) ∧ w'.cell? ⟨r6, 6, none⟩ = some (.int .i64 rx1.s) ∧ w'.cell? ⟨r6, 7, none⟩ = some (.slice b6w wn1 wn1) ∧ w'.cell? ⟨r6, 8, none⟩ = some (.slice b6g gn1 gn1) ∧ w'.cell? ⟨r6, 9, none⟩ = some (.int .i64 rt1) ∧ w'.cell? ⟨w.heap.size + 1, 0, none⟩ = some (.slice ra1 rn1 rc1) ∧ w'.cell? ⟨w.heap.size + 1, 1, none⟩ = some (.int .i64 rx1.n) ∧ w'.cell? ⟨w.heap.size + 1, 2, none⟩ = some (.bool rx1.i) ∧ w'.cell? ⟨w.heap.size + 1, 3, none⟩ = some (.int .i64 rx1.b) ∧ w'.cell? ⟨w.heap.size + 1, 4, none⟩ = some (.int .i64 rx1.t) ∧ w'.cell? ⟨w.heap.size + 1, 5, none⟩ = some (.int .i64 rx1.p) ∧ w'.cell? ⟨w.heap.size + 1, 6, none⟩ = some (.int .i64 rx1.s) ∧ w'.cell? ⟨w.heap.size + 1, 7, none⟩ = some (.slice wa1 wn1 wc1) ∧ w'.cell? ⟨w.heap.size + 1, 8, none⟩ = some (.slice ga1 gn1 gc1) ∧ w'.cell? ⟨w.heap.size + 1, 9, none⟩ = some (.int .i64 rt1) ∧ Hid (Hold w w' [celF r6 (stl b6 rn1 rn1 rx1 b6w wn1 wn1 b6g gn1 gn1 rt1), ansSF b6 b6w b6g rn1 wn1 gn1 R1 L1 G1, celF r5 (stl b5 rn0 rn0 rx0 b5w wn0 wn0 b5g gn0 gn0 rt0), ansSF b5 b5w b5g rn0 wn0 gn0 R0 L0 G0, celF (w.heap.size + 1) (stl ra1 rn1 rc1 rx1 wa1 wn1 wc1 ga1 gn1 gc1 rt1), celF w.heap.size (stl ra0 rn0 rc0 rx0 wa0 wn0 wc0 ga0 gn0 gc0 rt0), argSF w.heap.size ra1 rn1 wa1 wn1 ga1 gn1 R1 L1 G1, argSF w.heap.size ra0 rn0 wa0 wn0 ga0 gn0 R0 L0 G0])) → Hold w w' [celF r6 (stl b6 rn1 rn1 rx1 b6w wn1 wn1 b6g gn1 gn1 rt1), ansSF b6 b6w b6g rn1 wn1 gn1 R1 L1 G1, celF r5 (stl b5 rn0 rn0 rx0 b5w wn0 wn0 b5g gn0 gn0 rt0), ansSF b5 b5w b5g rn0 wn0 gn0 R0 L0 G0, celF (w.heap.size + 1) (stl ra1 rn1 rc1 rx1 wa1 wn1 wc1 ga1 gn1 gc1 rt1), celF w.heap.size (stl ra0 rn0 rc0 rx0 wa0 wn0 wc0 ga0 gn0 gc0 rt0), argSF w.heap.size ra1 rn1 wa1 wn1 ga1 gn1 R1 L1 G1, argSF w.heap.size ra0 rn0 wa0 wn0 ga0 gn0 R0 L0 G0]) := fun w' h => h.2.2.2.2.2.2.2.2.2.2.2.2.2.2.2.2.2.2.2.2
        have F0 := hid_mk H.out.drew
        clear H
        go_region_held3 (fun w' => w'.cell? ⟨r6, 0, none⟩ = some (.slice b6 rn1 rn1) ∧ w'.cell? ⟨r6, 1, none⟩ = some (.int .i64 rx1.n) ∧ w'.cell? ⟨r6, 2, none⟩ = some (.bool rx1.i) ∧ w'.cell? ⟨r6, 3, none⟩ = some (.int .i64 rx1.b) ∧ w'.cell? ⟨r6, 4, none⟩ = some (.int .i64 rx1.t) ∧ w'.cell? ⟨r6, 5, none⟩ = some (.int .i64 rx1.p) ∧ w'.cell? ⟨r6, 6, none⟩ = some (.int .i64 rx1.s) ∧ w'.cell? ⟨r6, 7, none⟩ = some (.slice b6w wn1 wn1) ∧ w'.cell? ⟨r6, 8, none⟩ = some (.slice b6g gn1 gn1) ∧ w'.cell? ⟨r6, 9, none⟩ = some (.int .i64 rt1) ∧ w'.cell? ⟨w.heap.size + 1, 0, none⟩ = some (.slice ra1 rn1 rc1) ∧ w'.cell? ⟨w.heap.size + 1, 1, none⟩ = some (.int .i64 rx1.n) ∧ w'.cell? ⟨w.heap.size + 1, 2, none⟩ = some (.bool rx1.i) ∧ w'.cell? ⟨w.heap.size + 1, 3, none⟩ = some (.int .i64 rx1.b) ∧ w'.cell? ⟨w.heap.size + 1, 4, none⟩ = some (.int .i64 rx1.t) ∧ w'.cell? ⟨w.heap.size + 1, 5, none⟩ = some (.int .i64 rx1.p) ∧ w'.cell? ⟨w.heap.size + 1, 6, none⟩ = some (.int .i64 rx1.s) ∧ w'.cell? ⟨w.heap.size + 1, 7, none⟩ = some (.slice wa1 wn1 wc1) ∧ w'.cell? ⟨w.heap.size + 1, 8, none⟩ = some (.slice ga1 gn1 gc1) ∧ w'.cell? ⟨w.heap.size + 1, 9, none⟩ = some (.int .i64 rt1) ∧ Hid (Hold w w' [celF r6 (stl b6 rn1 rn1 rx1 b6w wn1 wn1 b6g gn1 gn1 rt1), ansSF b6 b6w b6g rn1 wn1 gn1 R1 L1 G1, celF r5 (stl b5 rn0 rn0 rx0 b5w wn0 wn0 b5g gn0 gn0 rt0), ansSF b5 b5w b5g rn0 wn0 gn0 R0 L0 G0, celF (w.heap.size + 1) (stl ra1 rn1 rc1 rx1 wa1 wn1 wc1 ga1 gn1 gc1 rt1), celF w.heap.size (stl ra0 rn0 rc0 rx0 wa0 wn0 wc0 ga0 gn0 gc0 rt0), argSF w.heap.size ra1 rn1 wa1 wn1 ga1 gn1 R1 L1 G1, argSF w.heap.size ra0 rn0 wa0 wn0 ga0 gn0 R0 L0 G0]))
          (first | (with_reducible assumption) | (((with_reducible refine ALL.out _ ?_); (first | (with_reducible exact F0.out) | ((with_reducible apply Hold.next ?_ K8.out); (with_reducible exact GET.out _ (by with_reducible assumption))) | ((with_reducible apply Hold.next ?_ K9.out); (with_reducible exact GET.out _ (by with_reducible assumption))) | fail))))
          (first
            | (go_at_call 21; refine (T1.out _ ((GET.out _ (by with_reducible assumption)).argS (.tail _ (.tail _ (.tail _ (.tail _ (.tail _ (.tail _ (.head _))))))))).mono ?_; rintro e wt ⟨b8, b8w, b8g, rfl, A8, hbt⟩; have K8 := hid_mk hbt; have A8 := hid_mk A8; clear hbt)
            | (go_at_call 23; refine (eqState_same _ _ _ _ _ _ _ _ _ _ _ _ _ _ _ _ _ R1 L1 G1 _ (((GET.out _ (by with_reducible assumption)).ansS (.tail _ (.head _))).sts hn1 hw1' hg1) (A8.out.sts hn1 hw1' hg1)).mono ?_; rintro e wu ⟨rfl, hbu⟩; have K9 := hid_mk hbu; clear hbu))
        have H := hid_mk (GET.out _ (by with_reducible assumption))
        clear ALL GET F0 K8 K9 A8
        have B := hid_mk H.out.bel
        clear H
        go_wp2
        go_ret
        exact ⟨rfl, B.out⟩
    · simp only [if_neg hl2] at sy
      have SY := hid_mk sy
      clear sy hS0 hS1
      go_enter Try.func7, Try.ntmps7
      go_upto_region 1 with fail
      clear hw1
      obtain ⟨m0, m1, m2, m3, m4, m5, m6, m7, m8, m9⟩ := (H.out.cel (.tail _ (.head _))).c10
      go_wp2_with fail
      refine (SZ.out _).mono ?_
      rintro e w2 ⟨rfl, hb2⟩
      replace H := hid_mk (H.out.next hb2)
      clear hb2 m0 m1 m2 m3 m4 m5 m6 m7 m8 m9 SZ
      obtain ⟨m0, m1, m2, m3, m4, m5, m6, m7, m8, m9⟩ := (H.out.cel (.head _)).c10
      go_wp2_with fail
      refine (SY.out _).mono ?_
      rintro e w3 ⟨rfl, hb2⟩
      have B := hid_mk (H.out.next hb2).bel
      clear hb2 H
      go_wp2
      go_ret
      exact ⟨rfl, B.out⟩
  · simp only [if_neg hl] at sz
    have SZ := hid_mk sz
    clear sz
    go_enter Try.func7, Try.ntmps7
    go_upto_region 1 with fail
    clear hw1
    obtain ⟨m0, m1, m2, m3, m4, m5, m6, m7, m8, m9⟩ := (H.out.cel (.tail _ (.head _))).c10
    go_wp2_with fail
    refine (SZ.out _).mono ?_
    rintro e w2 ⟨rfl, hb2⟩
    have B := hid_mk (H.out.next hb2).bel
    clear hb2 H
    go_wp2
    go_ret
    exact ⟨rfl, B.out⟩

set_option maxRecDepth 100000 in
theorem lifted (os : Os) (started : os.Started) (H : Type) (enc : TypeId × Value → H) :
    ReturnsInHanded {} Try.checked os 7 .any (Rows.fnExactClosedSpec.pre6 enc Try.prog Try.f7 Rows.fnExactClosedRow.domain false) (Rows.fnExactClosedSpec.post enc Try.prog Try.f7 false true false false) := by
  refine returnsInHanded_of_change (C := Try.checked) own started (by kernel_rfl) Try.func7
    (ChangeSpec.witness6 (enc := enc) (C := Try.checked) false ⟨#[], #[.agg #[.slice none 0 0, .int .i64 0, .bool false, .int .i64 0, .int .i64 0, .int .i64 0, .int .i64 0, .slice none 0 0, .slice none 0 0, .int .i64 0], .agg #[.slice none 0 0, .int .i64 0, .bool false, .int .i64 0, .int .i64 0, .int .i64 0, .int .i64 0, .slice none 0 0, .slice none 0 0, .int .i64 0]], []⟩ 8 (by kernel_rfl) (by kernel_rfl) (by kernel_rfl) (by kernel_rfl)) ?_
  intro W base args ds gs before hval0 hW hcnd _
  have hval : ∀ (j : Nat) t v, Try.f7.params[j]? = some t → args[j]? = some v → Value.okWide Try.prog W .any base t v := hval0
  have hW' := hW
  obtain ⟨p, q, hA0, hV, rfl, hfz, hnd⟩ := hW
  have hA : DataW.TrodAll enc Try.prog W 0 (fun _ => true) true Try.f7.params.toList args.toList ds p := hA0
  rw [Try.params7] at hA hval
  obtain ⟨v0, vs0, d0, ds0, p0, q0, hargs, rfl, rfl, h0, r0⟩ := trodAll_cons hA
  obtain ⟨v1, vs1, d1, ds1, p1, q1, rfl, rfl, rfl, h1, r1⟩ := trodAll_cons r0
  obtain ⟨rfl, rfl, rfl⟩ := trodAll_nil r1
  obtain rfl : args = #[v0, v1] := by cases args; simp_all
  obtain ⟨rfl, rfl⟩ := trodVars_none hV
  have k0 := h0
  have lt0 : ∀ x ∈ p0, x.block < W.heap.size := by obtain ⟨m, hm⟩ := k0; exact DataW.trod_lt m _ _ _ hm
  have k1 := h1
  have lt1 : ∀ x ∈ p1, x.block < W.heap.size := by obtain ⟨m, hm⟩ := k1; exact DataW.trod_lt m _ _ _ hm
  obtain ⟨ra0, rn0, rc0, rx0, wa0, wn0, wc0, ga0, gn0, gc0, rt0, R0, L0, G0, rfl, hS0⟩ := open_state (hval 0 42 v0 rfl rfl) h0
  obtain ⟨ra1, rn1, rc1, rx1, wa1, wn1, wc1, ga1, gn1, gc1, rt1, R1, L1, G1, rfl, hS1⟩ := open_state (hval 1 42 v1 rfl rfl) h1
  clear hA0 hval0
  refine (walk ra0 rn0 rc0 rx0 wa0 wn0 wc0 ga0 gn0 gc0 rt0 R0 L0 G0 ra1 rn1 rc1 rx1 wa1 wn1 wc1 ga1 gn1 gc1 rt1 R1 L1 G1 W hS0 hS1).mono fun e W' ⟨he, bel⟩ => ?_
  subst he
  exact ⟨_, rfl, _, _, _, [], _, [], hW', trodAll_mk1 (shut_bool Try.underlying4 _), (trodAll_cons_mk (Below.trod laidOut (by kernel_rfl) (of_decide_eq_true (by kernel_rfl)) k0 bel lt0) (trodAll_cons_mk (Below.trod laidOut (by kernel_rfl) (of_decide_eq_true (by kernel_rfl)) k1 bel lt1) trodAll_mk0)), rfl, bel.frame _, fun h => by cases h⟩

theorem proved : Rows.FnExactClosedSaid :=
  OpenClaim.holds_of_wide 7 Try.f7 rfl rfl rfl rfl rfl rfl rfl ⟨rfl, rfl, rfl, rfl, rfl⟩ rfl rfl rfl rfl rfl (by kernel_rfl) Try.func7 (by kernel_rfl)
    (of_decide_eq_true (by kernel_rfl)) (by unfold Func.isWrapper; first | (rw [if_pos (by decide +kernel)]; kernel_rfl) | (rw [if_neg (by decide +kernel)]; exact ⟨rfl, rfl⟩))
    (fun os started H enc _ => lifted os started H enc)
end Go.Proofs.Ytfeoaegkhbjaeaa.fnExactClosed

namespace Go.Proofs.Ytfeoaegkhbjaeaa
/-- For every two States Closed of the program answers as the specification's Closed; it leaves both states as they were, and the law returns true; states of more than 2^20 elements in all the law passes by. No condition. -/
theorem fnExactClosed_holds : Rows.FnExactClosedSaid := fnExactClosed.proved
#print axioms fnExactClosed_holds
end Go.Proofs.Ytfeoaegkhbjaeaa
