/- For every State Keys of the program answers as the specification's Keys, word by word, in memory of its own, behind another call too; it leaves the state as it was, and the law returns true; states of more than 2^20 elements the law passes by. No condition. -/
import Derived.Test.YtmglofclcccehaaRows
import Derived.Test.YtmglofclcccehaaKysC
import Derived.Test.YtmglofclcccehaaMarkX
import Derived.Test.YtmglofclcccehaaStT
import Derived.Test.YtmglofclcccehaaStO
import Derived.Test.YtmglofclcccehaaStM
import Derived.Test.YtmglofclcccehaaStD
import Derived.WalkKit
import Derived.ProofKit
import Derived.OpenShut
import Derived.Lib.SmallJoins
import Derived.ChangeOld
import Derived.Below
import Derived.Deep.Slices
import Derived.Deep.Strs
namespace Go.Proofs.Ytmglofclcccehaa.fnExactKeys
open Go.ChangeShapes Go.WideShapes Go.ChangeAt Go.RowKit Go.Joins Go.Deep

theorem own : ownKnob Try.prog.godebug = none := by kernel_rfl
theorem laidOut : laidOutB Try.prog = true := by kernel_rfl

set_option maxRecDepth 100000 in
set_option maxHeartbeats 20000000 in
theorem walk (ra0 : Option Addr) (rn0 rc0 : Nat) (rx0 : Wd) (wa0 : Option Addr) (wn0 wc0 : Nat) (ga0 : Option Addr) (gn0 gc0 : Nat) (rt0 : Int) (R0 L0 : List Wd) (G0 : List Bool) (w : World) (hS0 : StS w ra0 rn0 wa0 wn0 ga0 gn0 R0 L0 G0) :
    Calls Try.prog 3 #[.agg #[.slice ra0 rn0 rc0, .int .i64 rx0.n, .bool rx0.i, .int .i64 rx0.b, .int .i64 rx0.t, .int .i64 rx0.p, .int .i64 rx0.s, .slice wa0 wn0 wc0, .slice ga0 gn0 gc0, .int .i64 rt0]] w fun e w' => e = .returned (.bool true) ∧ Below w.heap.size w w' := by
  have sz := szState_at ra0 rn0 rc0 rx0 wa0 wn0 wc0 ga0 gn0 gc0 rt0 1048576 (by decide) (by decide) hS0.rs.1 hS0.mem.ws.1 hS0.mem.gs.1
  by_cases hl : (rn0 : Int) + (wn0 : Int) + (gn0 : Int) ≤ 1048576
  · obtain ⟨m, hm, hm0⟩ : ∃ m : Int, Hid (m = 1048576 - (rn0 : Int) - (wn0 : Int) - (gn0 : Int)) ∧ 0 ≤ m := ⟨_, rfl, by omega⟩
    simp only [if_pos hl, ← hm.out] at sz
    have SZ := hid_mk sz
    have hn0 : rn0 ≤ 1048576 := by omega
    have hn1 : wn0 ≤ 1048576 := by omega
    have hn2 : gn0 ≤ 1048576 := by omega
    have hlen : rn0 + 1 + wn0 ≤ 1048577 := by omega
    have hkl : (keyL R0 rx0 L0).length ≤ 1048577 := by
      refine Nat.le_trans (List.length_filter_le _ _) ?_
      rw [List.length_append, List.length_append, hS0.rs.2.1, hS0.mem.ws.2.1]
      simpa using hlen
    have s1 := fun a c a1 c1 a2 c2 w hc hc1 hM => specKeys_any a rn0 c rx0 a1 wn0 c1 a2 gn0 c2 rt0 R0 L0 G0 w hc hc1 (by omega) hM
    have s2 := fun a c a1 c1 a2 c2 w hM => implKeys_any a rn0 c rx0 a1 wn0 c1 a2 gn0 c2 rt0 R0 L0 G0 w (by omega) hM
    obtain ⟨KL, hKL⟩ : ∃ KL, Hid (KL = keyL R0 rx0 L0) := ⟨_, rfl⟩
    simp only [← hKL.out] at s1 s2 hkl
    obtain ⟨kn, hkn⟩ : ∃ kn, kn = KL.length := ⟨_, rfl⟩
    simp only [← hkn] at s1 s2 hkl
    have S1 := hid_mk s1
    have S2 := hid_mk s2
    have hkx : kn ≤ 2097154 := by omega
    obtain ⟨mx, hmx⟩ : ∃ mx : Int, mx = 1 + 6 * (rn0 : Int) + 6 * (wn0 : Int) + (gn0 : Int) := ⟨_, rfl⟩
    obtain ⟨mg, hmg⟩ : ∃ mg : Int, mg = 1 + 6 * (kn : Int) := ⟨_, rfl⟩
    have hmx0 : 0 ≤ mx := by omega
    have hmg0 : 0 ≤ mg := by omega
    have hmgn : (mg != mg) = false := by simp
    have hmxb : 1 + 6 * (rn0 : Int) + 6 * (wn0 : Int) ≤ 16777216 := by omega
    have HMX := hid_mk hmx
    have HMG := hid_mk hmg
    clear sz s1 s2 hkn hmx hmg hKL
    have H := hid_mk ((((Hold.new w).push (argSF w.heap.size ra0 rn0 wa0 wn0 ga0 gn0 R0 L0 G0) hS0.arg).alloc (.cells (stl ra0 rn0 rc0 rx0 wa0 wn0 wc0 ga0 gn0 gc0 rt0).toArray 31)).push (celF w.heap.size (stl ra0 rn0 rc0 rx0 wa0 wn0 wc0 ga0 gn0 gc0 rt0)) (Cel.new w _ _))
    clear hS0 hl
    generalize hw1 : w.alloc (.cells (stl ra0 rn0 rc0 rx0 wa0 wn0 wc0 ga0 gn0 gc0 rt0).toArray 31) = w1 at H
    go_enter Try.func3, Try.ntmps3
    go_upto_region 1 with fail
    clear hw1
    obtain ⟨m0, m1, m2, m3, m4, m5, m6, m7, m8, m9⟩ := (H.out.cel (.head _)).c10
    go_wp2_with fail
    refine (SZ.out _).mono ?_
    rintro e w2 ⟨rfl, hb2⟩
    replace H := hid_mk (H.out.next hb2)
    clear hb2 m0 m1 m2 m3 m4 m5 m6 m7 m8 m9 SZ
    obtain ⟨m0, m1, m2, m3, m4, m5, m6, m7, m8, m9⟩ := (H.out.cel (.head _)).c10
    go_wp2_with fail
    refine (toState_ans _ _ _ _ _ _ _ _ _ _ _ R0 L0 G0 _ hn0 hn1 hn2 (H.out.argS (.tail _ (.head _)))).mono ?_
    rintro e w3 ⟨b3, b3w, b3g, rfl, A3, hg3, hb3⟩
    replace H := hid_mk (H.out.next hb3)
    have A3 := hid_mk A3
    clear hb3 m0 m1 m2 m3 m4 m5 m6 m7 m8 m9 hg3
    go_wp2_with fail
    refine (S1.out _ _ _ _ _ _ _ (fun h => A3.out.rs.nil0 h) (fun h => A3.out.ws.nil0 h) (A3.out.sts hn0 hn1 hn2)).mono ?_
    rintro e w4 ⟨bw, dw, rfl, AW, hfw, hb4⟩
    have QW0 := hid_mk (fun k hk => AW.lt (k := k) hk)
    have hz0 : w.heap.size < w4.heap.size := Nat.lt_of_lt_of_le (H.out.cel (.head _)).lt hb4.size
    replace H := hid_mk ((H.out.next hb4).push (rowWF bw kn KL) AW)
    clear hb4 A3 AW hfw
    go_upto_region 6 with fail
    obtain ⟨m0, m1, m2, m3, m4, m5, m6, m7, m8, m9⟩ := (H.out.cel (.tail _ (.head _))).c10
    go_wp2_with fail
    refine (toState_ans _ _ _ _ _ _ _ _ _ _ _ R0 L0 G0 _ hn0 hn1 hn2 (H.out.argS (.tail _ (.tail _ (.head _))))).mono ?_
    rintro e w5 ⟨b5, b5w, b5g, rfl, A5, hg5, hb5⟩
    have QX0 := hid_mk (fun k hk => And.intro (hg5 k hk) (A5.lt (k := k) hk))
    have hz1 : w4.heap.size ≤ w5.heap.size := hb5.size
    replace H := hid_mk ((((H.out.next hb5).push (ansSF b5 b5w b5g rn0 wn0 gn0 R0 L0 G0) A5).alloc (.cells (stl b5 rn0 rn0 rx0 b5w wn0 wn0 b5g gn0 gn0 rt0).toArray 41)).push (celF w5.heap.size (stl b5 rn0 rn0 rx0 b5w wn0 wn0 b5g gn0 gn0 rt0)) (Cel.new _ _ _))
    clear hb5 m0 m1 m2 m3 m4 m5 m6 m7 m8 m9 hg5 A5
    go_upto_region 7 with fail
    generalize w5.alloc (.cells (stl b5 rn0 rn0 rx0 b5w wn0 wn0 b5g gn0 gn0 rt0).toArray 41) = w6 at H ⊢
    generalize w4.heap.size = zz at QW0 QX0 hz0 hz1
    obtain ⟨r5, hr5⟩ : ∃ r, r = w5.heap.size := ⟨_, rfl⟩
    rw [← hr5] at H QX0 hz1 ⊢
    clear hr5
    have QW : Hid (∀ k, On bw k → k < zz) := QW0.out
    have QX : Hid (∀ k, On b5 k ∨ On b5w k ∨ On b5g k → zz ≤ k ∧ k < r5) := QX0.out
    clear QW0 QX0
    obtain ⟨m0, m1, m2, m3, m4, m5, m6, m7, m8, m9⟩ := (H.out.cel (.head _)).c10
    go_wp2_with fail
    refine (S2.out _ _ _ _ _ _ _ ((H.out.ansS (.tail _ (.head _))).sts hn0 hn1 hn2)).mono ?_
    rintro e w7 ⟨bg, dg, rfl, AG, hfg, hb7⟩
    have hz2 : r5 < w6.heap.size := (H.out.cel (.head _)).lt
    have QG : Hid (∀ k, On bg k → r5 < k) := fun k hk => Nat.lt_of_lt_of_le hz2 (hfg k hk)
    replace H := hid_mk ((H.out.next hb7).push (rowWF bg kn KL) AG)
    clear hb7 AG hfg m0 m1 m2 m3 m4 m5 m6 m7 m8 m9 hz2
    go_upto_region 8 with fail
    go_wp2_with fail
    refine (eqWordS_same _ _ _ _ _ KL _ (RowWA.sliceX (H.out.at (f := rowWF bg kn KL) (.head _)) hkx) (RowWA.sliceX (H.out.at (f := rowWF bw kn KL) (.tail _ (.tail _ (.tail _ (.head _))))) hkx)).mono ?_
    rintro e w8 ⟨rfl, hb8⟩
    replace H := hid_mk (H.out.next hb8)
    clear hb8
    go_upto_region 10 with fail
    have ALL : Hid (∀ w', Hold w w' [rowWF bg kn KL, celF r5 (stl b5 rn0 rn0 rx0 b5w wn0 wn0 b5g gn0 gn0 rt0), ansSF b5 b5w b5g rn0 wn0 gn0 R0 L0 G0, rowWF bw kn KL, celF w.heap.size (stl ra0 rn0 rc0 rx0 wa0 wn0 wc0 ga0 gn0 gc0 rt0), argSF w.heap.size ra0 rn0 wa0 wn0 ga0 gn0 R0 L0 G0] → (w'.cell? ⟨r5, 0, none⟩ = some (.slice b5 rn0 rn0) ∧ w'.cell? ⟨r5, 1, none⟩ = some (.int .i64 rx0.n) ∧ w'.cell? ⟨r5, 2, none⟩ = some (.bool rx0.i) ∧ w'.cell? ⟨r5, 3, none⟩ = some (.int .i64 rx0.b) ∧ w'.cell? ⟨r5, 4, none⟩ = some (.int .i64 rx0.t) ∧ w'.cell? ⟨r5, 5, none⟩ = some (.int .i64 rx0.p) ∧ w'.cell? ⟨r5, 6, none⟩ = some (.int .i64 rx0.s) ∧ w'.cell? ⟨r5, 7, none⟩ = some (.slice b5w wn0 wn0) ∧ w'.cell? ⟨r5, 8, none⟩ = some (.slice b5g gn0 gn0) ∧ w'.cell? ⟨r5, 9, none⟩ = some (.int .i64 rt0) ∧ w'.cell? ⟨w.heap.size, 0, none⟩ = some (.slice ra0 rn0 rc0) ∧ w'.cell? ⟨w.heap.size, 1, none⟩ = some (.int .i64 rx0.n) ∧ w'.cell? ⟨w.heap.size, 2, none⟩ = some (.bool rx0.i) ∧ w'.cell? ⟨w.heap.size, 3, none⟩ = some (.int .i64 rx0.b) ∧ w'.cell? ⟨w.heap.size, 4, none⟩ = some (.int .i64 rx0.t) ∧ w'.cell? ⟨w.heap.size, 5, none⟩ = some (.int .i64 rx0.p) ∧ w'.cell? ⟨w.heap.size, 6, none⟩ = some (.int .i64 rx0.s) ∧ w'.cell? ⟨w.heap.size, 7, none⟩ = some (.slice wa0 wn0 wc0) ∧ w'.cell? ⟨w.heap.size, 8, none⟩ = some (.slice ga0 gn0 gc0) ∧ w'.cell? ⟨w.heap.size, 9, none⟩ = some (.int .i64 rt0) ∧ Hid (Hold w w' [rowWF bg kn KL, celF r5 (stl b5 rn0 rn0 rx0 b5w wn0 wn0 b5g gn0 gn0 rt0), ansSF b5 b5w b5g rn0 wn0 gn0 R0 L0 G0, rowWF bw kn KL, celF w.heap.size (stl ra0 rn0 rc0 rx0 wa0 wn0 wc0 ga0 gn0 gc0 rt0), argSF w.heap.size ra0 rn0 wa0 wn0 ga0 gn0 R0 L0 G0]))) := fun w' h => by
      have h1 := h.cel (.tail _ (.head _))
      have h2 := h.cel (.tail _ (.tail _ (.tail _ (.tail _ (.head _)))))
      exact ⟨h1.c 0 _ rfl, h1.c 1 _ rfl, h1.c 2 _ rfl, h1.c 3 _ rfl, h1.c 4 _ rfl, h1.c 5 _ rfl, h1.c 6 _ rfl, h1.c 7 _ rfl, h1.c 8 _ rfl, h1.c 9 _ rfl, h2.c 0 _ rfl, h2.c 1 _ rfl, h2.c 2 _ rfl, h2.c 3 _ rfl, h2.c 4 _ rfl, h2.c 5 _ rfl, h2.c 6 _ rfl, h2.c 7 _ rfl, h2.c 8 _ rfl, h2.c 9 _ rfl, h⟩
    have GET : Hid (∀ w', (w'.cell? ⟨r5, 0, none⟩ = some (.slice b5 rn0 rn0) ∧ w'.cell? ⟨r5, 1, none⟩ = some (.int .i64 rx0.n) ∧ w'.cell? ⟨r5, 2, none⟩ = some (.bool rx0.i) ∧ w'.cell? ⟨r5, 3, none⟩ = some (.int .i64 rx0.b) ∧ w'.cell? ⟨r5, 4, none⟩ = some (.int .i64 rx0.t) ∧ w'.cell? ⟨r5, 5, none⟩ = some (.int .i64 rx0.p) ∧ w'.cell? ⟨r5, 6, none⟩ = some (.int .i64 rx0.s) ∧ w'.cell? ⟨r5, 7, none⟩ = some (.slice b5w wn0 wn0) ∧ w'.cell? ⟨r5, 8, none⟩ = some (.slice b5g gn0 gn0) ∧ w'.cell? ⟨r5, 9, none⟩ = some (.int .i64 rt0) ∧ w'.cell? ⟨w.heap.size, 0, none⟩ = some (.slice ra0 rn0 rc0) ∧ w'.cell? ⟨w.heap.size, 1, none⟩ = some (.int .i64 rx0.n) ∧ w'.cell? ⟨w.heap.size, 2, none⟩ = some (.bool rx0.i) ∧ w'.cell? ⟨w.heap.size, 3, none⟩ = some (.int .i64 rx0.b) ∧ w'.cell? ⟨w.heap.size, 4, none⟩ = some (.int .i64 rx0.t) ∧ w'.cell? ⟨w.heap.size, 5, none⟩ = some (.int .i64 rx0.p) ∧ w'.cell? ⟨w.heap.size, 6, none⟩ = some (.int .i64 rx0.s) ∧ w'.cell? ⟨w.heap.size, 7, none⟩ = some (.slice wa0 wn0 wc0) ∧ w'.cell? ⟨w.heap.size, 8, none⟩ = some (.slice ga0 gn0 gc0) ∧ w'.cell? ⟨w.heap.size, 9, none⟩ = some (.int .i64 rt0) ∧ Hid (Hold w w' [rowWF bg kn KL, celF r5 (stl b5 rn0 rn0 rx0 b5w wn0 wn0 b5g gn0 gn0 rt0), ansSF b5 b5w b5g rn0 wn0 gn0 R0 L0 G0, rowWF bw kn KL, celF w.heap.size (stl ra0 rn0 rc0 rx0 wa0 wn0 wc0 ga0 gn0 gc0 rt0), argSF w.heap.size ra0 rn0 wa0 wn0 ga0 gn0 R0 L0 G0])) → Hold w w' [rowWF bg kn KL, celF r5 (stl b5 rn0 rn0 rx0 b5w wn0 wn0 b5g gn0 gn0 rt0), ansSF b5 b5w b5g rn0 wn0 gn0 R0 L0 G0, rowWF bw kn KL, celF w.heap.size (stl ra0 rn0 rc0 rx0 wa0 wn0 wc0 ga0 gn0 gc0 rt0), argSF w.heap.size ra0 rn0 wa0 wn0 ga0 gn0 R0 L0 G0]) := fun w' h => h.2.2.2.2.2.2.2.2.2.2.2.2.2.2.2.2.2.2.2.2
    have F0 := hid_mk H.out.drew
    clear H
    go_region_held3 (fun w' => w'.cell? ⟨r5, 0, none⟩ = some (.slice b5 rn0 rn0) ∧ w'.cell? ⟨r5, 1, none⟩ = some (.int .i64 rx0.n) ∧ w'.cell? ⟨r5, 2, none⟩ = some (.bool rx0.i) ∧ w'.cell? ⟨r5, 3, none⟩ = some (.int .i64 rx0.b) ∧ w'.cell? ⟨r5, 4, none⟩ = some (.int .i64 rx0.t) ∧ w'.cell? ⟨r5, 5, none⟩ = some (.int .i64 rx0.p) ∧ w'.cell? ⟨r5, 6, none⟩ = some (.int .i64 rx0.s) ∧ w'.cell? ⟨r5, 7, none⟩ = some (.slice b5w wn0 wn0) ∧ w'.cell? ⟨r5, 8, none⟩ = some (.slice b5g gn0 gn0) ∧ w'.cell? ⟨r5, 9, none⟩ = some (.int .i64 rt0) ∧ w'.cell? ⟨w.heap.size, 0, none⟩ = some (.slice ra0 rn0 rc0) ∧ w'.cell? ⟨w.heap.size, 1, none⟩ = some (.int .i64 rx0.n) ∧ w'.cell? ⟨w.heap.size, 2, none⟩ = some (.bool rx0.i) ∧ w'.cell? ⟨w.heap.size, 3, none⟩ = some (.int .i64 rx0.b) ∧ w'.cell? ⟨w.heap.size, 4, none⟩ = some (.int .i64 rx0.t) ∧ w'.cell? ⟨w.heap.size, 5, none⟩ = some (.int .i64 rx0.p) ∧ w'.cell? ⟨w.heap.size, 6, none⟩ = some (.int .i64 rx0.s) ∧ w'.cell? ⟨w.heap.size, 7, none⟩ = some (.slice wa0 wn0 wc0) ∧ w'.cell? ⟨w.heap.size, 8, none⟩ = some (.slice ga0 gn0 gc0) ∧ w'.cell? ⟨w.heap.size, 9, none⟩ = some (.int .i64 rt0) ∧ Hid (Hold w w' [rowWF bg kn KL, celF r5 (stl b5 rn0 rn0 rx0 b5w wn0 wn0 b5g gn0 gn0 rt0), ansSF b5 b5w b5g rn0 wn0 gn0 R0 L0 G0, rowWF bw kn KL, celF w.heap.size (stl ra0 rn0 rc0 rx0 wa0 wn0 wc0 ga0 gn0 gc0 rt0), argSF w.heap.size ra0 rn0 wa0 wn0 ga0 gn0 R0 L0 G0]))
      (first | (with_reducible assumption) | (((with_reducible refine ALL.out _ ?_); (first | (with_reducible exact F0.out) | ((with_reducible apply Hold.next ?_ K8.out); (with_reducible exact GET.out _ (by with_reducible assumption))) | ((with_reducible apply Hold.next ?_ K9.out); (with_reducible exact GET.out _ (by with_reducible assumption))) | fail))))
      (first
        | (go_at_call 7; refine (toState_ans _ _ _ _ _ _ _ _ _ _ _ R0 L0 G0 _ hn0 hn1 hn2 ((GET.out _ (by with_reducible assumption)).argS (.tail _ (.tail _ (.tail _ (.tail _ (.tail _ (.head _)))))))).mono ?_; rintro e wt ⟨b8, b8w, b8g, rfl, A8, _, hbt⟩; have K8 := hid_mk hbt; have A8 := hid_mk A8; clear hbt)
        | (go_at_call 10; refine (eqState_same _ _ _ _ _ _ _ _ _ _ _ _ _ _ _ _ _ R0 L0 G0 _ ((((GET.out _ (by with_reducible assumption)).ansS (.tail _ (.tail _ (.head _))))).sts hn0 hn1 hn2) (A8.out.sts hn0 hn1 hn2)).mono ?_; rintro e wu ⟨rfl, hbu⟩; have K9 := hid_mk hbu; clear hbu))
    have H := hid_mk (GET.out _ (by with_reducible assumption))
    clear ALL GET F0 K8 K9 A8
    go_upto_region 12 with fail
    obtain ⟨m0, m1, m2, m3, m4, m5, m6, m7, m8, m9⟩ := (H.out.cel (.tail _ (.head _))).c10
    go_wp2_with fail
    refine (markState_at _ _ _ _ _ _ _ _ _ _ _ R0 L0 G0 1 (by decide) hmxb hn0 hn1 hn2 _ (H.out.ansS (.tail _ (.tail _ (.head _))))).mono ?_
    rintro e w13 ⟨rfl, _, hK13⟩
    rw [← HMX.out]
    replace H := hid_mk ((H.out.sub (gs := [rowWF bg kn KL, celF r5 (stl b5 rn0 rn0 rx0 b5w wn0 wn0 b5g gn0 gn0 rt0), rowWF bw kn KL, celF w.heap.size (stl ra0 rn0 rc0 rx0 wa0 wn0 wc0 ga0 gn0 gc0 rt0), argSF w.heap.size ra0 rn0 wa0 wn0 ga0 gn0 R0 L0 G0]) (fun f hf => by
      simp only [List.mem_cons, List.not_mem_nil, or_false] at hf ⊢
      rcases hf with rfl | rfl | rfl | rfl | rfl
      · exact .inl rfl
      · exact .inr (.inl rfl)
      · exact .inr (.inr (.inr (.inl rfl)))
      · exact .inr (.inr (.inr (.inr (.inl rfl))))
      · exact .inr (.inr (.inr (.inr (.inr rfl)))))).wrote hK13 (fun k hk => by have := QX.out k hk; omega) (fun f hf k hk ht => by
      have hx := QX.out k ht
      simp only [List.mem_cons, List.not_mem_nil, or_false] at hf
      rcases hf with rfl | rfl | rfl | rfl | rfl
      · have := QG.out k hk; omega
      · simp only [celF] at hk; omega
      · have := QW.out k hk; omega
      · simp only [celF] at hk; omega
      · simp only [argSF] at hk; omega))
    clear hK13 m0 m1 m2 m3 m4 m5 m6 m7 m8 m9
    go_wp2_with fail
    refine (eqWordS_same _ _ _ _ _ KL _ (RowWA.sliceX (H.out.at (f := rowWF bg kn KL) (.head _)) hkx) (RowWA.sliceX (H.out.at (f := rowWF bw kn KL) (.tail _ (.tail _ (.head _)))) hkx)).mono ?_
    rintro e w14 ⟨rfl, hb14⟩
    replace H := hid_mk (H.out.next hb14)
    clear hb14
    go_wp2_with fail
    refine (markX_ans _ _ _ KL 1 (by decide) (by decide) _ hkx (H.out.at (f := rowWF bg kn KL) (.head _))).mono ?_
    rintro e w17 ⟨rfl, AM, hK17⟩
    rw [← HMG.out]
    replace H := hid_mk (((H.out.sub (gs := [celF r5 (stl b5 rn0 rn0 rx0 b5w wn0 wn0 b5g gn0 gn0 rt0), rowWF bw kn KL, celF w.heap.size (stl ra0 rn0 rc0 rx0 wa0 wn0 wc0 ga0 gn0 gc0 rt0), argSF w.heap.size ra0 rn0 wa0 wn0 ga0 gn0 R0 L0 G0]) (fun f hf => by
      simp only [List.mem_cons, List.not_mem_nil, or_false] at hf ⊢
      rcases hf with rfl | rfl | rfl | rfl
      · exact .inr (.inl rfl)
      · exact .inr (.inr (.inl rfl))
      · exact .inr (.inr (.inr (.inl rfl)))
      · exact .inr (.inr (.inr (.inr rfl))))).wrote hK17 (fun k hk => by have := QG.out k hk; omega) (fun f hf k hk ht => by
      have hx := QG.out k ht
      simp only [List.mem_cons, List.not_mem_nil, or_false] at hf
      rcases hf with rfl | rfl | rfl | rfl
      · simp only [celF] at hk; omega
      · have := QW.out k hk; omega
      · simp only [celF] at hk; omega
      · simp only [argSF] at hk; omega)).push (rowWF bg kn (marksW 1 kn)) AM)
    clear hK17 AM
    go_wp2_with fail
    refine (heldX_any _ _ _ 1 (by decide) (by decide) _ hkx (RowWA.sliceX (H.out.at (f := rowWF bg kn (marksW 1 kn)) (.head _)) hkx)).mono ?_
    rintro e w19 ⟨rfl, hb19⟩
    rw [← HMG.out]
    replace H := hid_mk (H.out.next hb19)
    clear hb19
    obtain ⟨m0, m1, m2, m3, m4, m5, m6, m7, m8, m9⟩ := (H.out.cel (.tail _ (.tail _ (.tail _ (.head _))))).c10
    go_wp2_with fail
    refine (toState_ans _ _ _ _ _ _ _ _ _ _ _ R0 L0 G0 _ hn0 hn1 hn2 (H.out.argS (.tail _ (.tail _ (.tail _ (.tail _ (.head _))))))).mono ?_
    rintro e w23 ⟨b3, b3w, b3g, rfl, A3, hg3, hb3⟩
    replace H := hid_mk (H.out.next hb3)
    have A3 := hid_mk A3
    clear hb3 m0 m1 m2 m3 m4 m5 m6 m7 m8 m9 hg3
    go_wp2_with fail
    refine (S2.out _ _ _ _ _ _ _ (A3.out.sts hn0 hn1 hn2)).mono ?_
    rintro e w24 ⟨bh, dh, rfl, AH, hfh, hb24⟩
    replace H := hid_mk ((H.out.next hb24).push (rowWF bh kn KL) AH)
    clear hb24 A3 AH hfh
    go_upto_region 25 with fail
    go_wp2_with fail
    refine (eqWordS_same _ _ _ _ _ KL _ (RowWA.sliceX (H.out.at (f := rowWF bh kn KL) (.head _)) hkx) (RowWA.sliceX (H.out.at (f := rowWF bw kn KL) (.tail _ (.tail _ (.tail _ (.head _))))) hkx)).mono ?_
    rintro e w25 ⟨rfl, hb25⟩
    replace H := hid_mk (H.out.next hb25)
    clear hb25
    go_wp2_with fail
    refine (heldX_any _ _ _ 1 (by decide) (by decide) _ hkx (RowWA.sliceX (H.out.at (f := rowWF bg kn (marksW 1 kn)) (.tail _ (.head _))) hkx)).mono ?_
    rintro e w28 ⟨rfl, hb28⟩
    rw [← HMG.out]
    replace H := hid_mk (H.out.next hb28)
    clear hb28
    have B := hid_mk H.out.bel
    clear H
    go_wp2
    go_ret
    exact ⟨rfl, B.out⟩
  · simp only [if_neg hl] at sz
    have SZ := hid_mk sz
    clear sz
    go_enter Try.func3, Try.ntmps3
    go_wp2_with fail
    refine (SZ.out _).mono ?_
    rintro e w2 ⟨rfl, hb2⟩
    have B := hid_mk (((Below.refl w.heap.size w).alloc (Nat.le_refl _) _).trans (hb2.mono (by simp)))
    clear hb2
    go_wp2
    go_ret
    exact ⟨rfl, B.out⟩

set_option maxRecDepth 100000 in
theorem lifted (os : Os) (started : os.Started) (H : Type) (enc : TypeId × Value → H) :
    ReturnsInHanded {} Try.checked os 3 .any (Rows.fnExactKeysSpec.pre6 enc Try.prog Try.f3 Rows.fnExactKeysRow.domain false) (Rows.fnExactKeysSpec.post enc Try.prog Try.f3 false true false false) := by
  refine returnsInHanded_of_change (C := Try.checked) own started (by kernel_rfl) Try.func3
    (ChangeSpec.witness6 (enc := enc) (C := Try.checked) false ⟨#[], #[.agg #[.slice none 0 0, .int .i64 0, .bool false, .int .i64 0, .int .i64 0, .int .i64 0, .int .i64 0, .slice none 0 0, .slice none 0 0, .int .i64 0]], []⟩ 8 (by kernel_rfl) (by kernel_rfl) (by kernel_rfl) (by kernel_rfl)) ?_
  intro W base args ds gs before hval0 hW hcnd _
  have hval : ∀ (j : Nat) t v, Try.f3.params[j]? = some t → args[j]? = some v → Value.okWide Try.prog W .any base t v := hval0
  have hW' := hW
  obtain ⟨p, q, hA0, hV, rfl, hfz, hnd⟩ := hW
  have hA : DataW.TrodAll enc Try.prog W 0 (fun _ => true) true Try.f3.params.toList args.toList ds p := hA0
  rw [Try.params3] at hA hval
  obtain ⟨v0, vs0, d0, ds0, p0, q0, hargs, rfl, rfl, h0, r0⟩ := trodAll_cons hA
  obtain ⟨rfl, rfl, rfl⟩ := trodAll_nil r0
  obtain rfl : args = #[v0] := by cases args; simp_all
  obtain ⟨rfl, rfl⟩ := trodVars_none hV
  have k0 := h0
  have lt0 : ∀ x ∈ p0, x.block < W.heap.size := by obtain ⟨m, hm⟩ := k0; exact DataW.trod_lt m _ _ _ hm
  obtain ⟨ra0, rn0, rc0, rx0, wa0, wn0, wc0, ga0, gn0, gc0, rt0, R0, L0, G0, rfl, hS0⟩ := open_state (hval 0 31 v0 rfl rfl) h0
  clear hA0 hval0
  refine (walk ra0 rn0 rc0 rx0 wa0 wn0 wc0 ga0 gn0 gc0 rt0 R0 L0 G0 W hS0).mono fun e W' ⟨he, bel⟩ => ?_
  subst he
  exact ⟨_, rfl, _, _, _, [], _, [], hW', trodAll_mk1 (shut_bool Try.underlying4 _), (trodAll_cons_mk (Below.trod laidOut (by kernel_rfl) (of_decide_eq_true (by kernel_rfl)) k0 bel lt0) trodAll_mk0), rfl, bel.frame _, fun h => by cases h⟩

theorem proved : Rows.FnExactKeysSaid :=
  OpenClaim.holds_of_wide 3 Try.f3 rfl rfl rfl rfl rfl rfl rfl ⟨rfl, rfl, rfl, rfl, rfl⟩ rfl rfl rfl rfl rfl (by kernel_rfl) Try.func3 (by kernel_rfl)
    (of_decide_eq_true (by kernel_rfl)) (by unfold Func.isWrapper; first | (rw [if_pos (by decide +kernel)]; kernel_rfl) | (rw [if_neg (by decide +kernel)]; exact ⟨rfl, rfl⟩))
    (fun os started H enc _ => lifted os started H enc)
end Go.Proofs.Ytmglofclcccehaa.fnExactKeys

namespace Go.Proofs.Ytmglofclcccehaa
/-- For every State Keys of the program answers as the specification's Keys, word by word, in memory of its own, behind another call too; it leaves the state as it was, and the law returns true; states of more than 2^20 elements the law passes by. No condition. -/
theorem fnExactKeys_holds : Rows.FnExactKeysSaid := fnExactKeys.proved
#print axioms fnExactKeys_holds
end Go.Proofs.Ytmglofclcccehaa
