/- For every State CoreNew of the program answers as the specification's CoreNew, every field, in memory of its own, behind another call too; it leaves the state as it was, and the law returns true; states of more than 2^20 elements the law passes by. No condition. -/
import Derived.Test.YtneohabkoighcaaGreatRows
import Derived.Test.YtneohabkoighcaaGreatRegL
import Derived.Test.YtneohabkoighcaaGreatNewM
import Derived.Test.YtneohabkoighcaaGreatQE
import Derived.Test.YtneohabkoighcaaGreatQF
import Derived.WalkKit
import Derived.ProofKit
import Derived.OpenShut
import Derived.Lib.SmallJoins
import Derived.ChangeOld
import Derived.Below
import Derived.Deep.Slices
import Derived.Deep.Strs
namespace Go.Proofs.YtneohabkoighcaaGreat.fnExactCoreNew
open Go.ChangeShapes Go.WideShapes Go.ChangeAt Go.RowKit Go.Joins Go.Deep

theorem own : ownKnob Tryz.prog.godebug = none := by kernel_rfl
theorem laidOut : laidOutB Tryz.prog = true := by kernel_rfl

set_option maxRecDepth 100000 in
set_option maxHeartbeats 20000000 in
theorem walk (ra0 : Option Addr) (rn0 rc0 : Nat) (rx0 : Wd) (wa0 : Option Addr) (wn0 wc0 : Nat) (ga0 : Option Addr) (gn0 gc0 : Nat) (rt0 : Int) (R0 L0 : List Wd) (G0 : List Bool) (w : World) (hS0 : StS w ra0 rn0 wa0 wn0 ga0 gn0 R0 L0 G0) :
    Calls Tryz.prog 4 #[.agg #[.slice ra0 rn0 rc0, .int .i64 rx0.n, .bool rx0.i, .int .i64 rx0.b, .int .i64 rx0.t, .int .i64 rx0.p, .int .i64 rx0.s, .slice wa0 wn0 wc0, .slice ga0 gn0 gc0, .int .i64 rt0]] w fun e w' => e = .returned (.bool true) ∧ Below w.heap.size w w' := by
  have sz := szState_at ra0 rn0 rc0 rx0 wa0 wn0 wc0 ga0 gn0 gc0 rt0 1048576 (by decide) (by decide) hS0.rs.1 hS0.mem.ws.1 hS0.mem.gs.1
  have H : Hid (Hold w (w.alloc (.cells (stl ra0 rn0 rc0 rx0 wa0 wn0 wc0 ga0 gn0 gc0 rt0).toArray 61)) [celF w.heap.size (stl ra0 rn0 rc0 rx0 wa0 wn0 wc0 ga0 gn0 gc0 rt0), argSF w.heap.size ra0 rn0 wa0 wn0 ga0 gn0 R0 L0 G0]) := ((Hold.new w).push (argSF w.heap.size ra0 rn0 wa0 wn0 ga0 gn0 R0 L0 G0) hS0.arg).box (stl ra0 rn0 rc0 rx0 wa0 wn0 wc0 ga0 gn0 gc0 rt0) 61 w.heap.size rfl
  by_cases hl : (rn0 : Int) + (wn0 : Int) + (gn0 : Int) ≤ 1048576
  · obtain ⟨m, hm, hm0⟩ : ∃ m : Int, Hid (m = 1048576 - (rn0 : Int) - (wn0 : Int) - (gn0 : Int)) ∧ 0 ≤ m := ⟨_, rfl, by omega⟩
    simp only [if_pos hl, ← hm.out] at sz
    have SZ := hid_mk sz
    have hn0 : rn0 ≤ 1048576 := by omega
    have hn1 : wn0 ≤ 1048576 := by omega
    have hn2 : gn0 ≤ 1048576 := by omega
    obtain ⟨V, HV⟩ : ∃ V, Hid (V = newV (sokB R0 rx0 L0 G0 rt0) rx0 rt0) := ⟨_, rfl⟩
    obtain ⟨Rr, HR⟩ : ∃ Rr, Hid (Rr = newRr (sokB R0 rx0 L0 G0 rt0) R0 L0 G0) := ⟨_, rfl⟩
    have s1 := fun a c a1 c1 a2 c2 w h => specCoreNew_any a rn0 c rx0 a1 wn0 c1 a2 gn0 c2 rt0 R0 L0 G0 w h
    have s2 := fun a c a1 c1 a2 c2 w h => implCoreNew_any a rn0 c rx0 a1 wn0 c1 a2 gn0 c2 rt0 R0 L0 G0 w h
    simp only [← HV.out, ← HR.out] at s1 s2
    have SP := hid_mk s1
    have IM := hid_mk s2
    have hVb : CvB V := by rw [HV.out]; exact newV_b _ _ _
    have hVe : Hid (V.en = 0) := by rw [HV.out]; cases sokB R0 rx0 L0 G0 rt0 <;> exact hid_mk rfl
    have hVr : V.rn ≤ 8 := by rw [HV.out]; cases sokB R0 rx0 L0 G0 rt0 <;> simp [newV]
    have hVw : V.wn ≤ 24 := by rw [HV.out]; cases sokB R0 rx0 L0 G0 rt0 <;> simp [newV]
    clear s1 s2 sz hS0 hl hm HV HR
    generalize hw1 : w.alloc (.cells (stl ra0 rn0 rc0 rx0 wa0 wn0 wc0 ga0 gn0 gc0 rt0).toArray 61) = w1 at H
    go_enter Tryz.func4, Tryz.ntmps4
    go_upto_region 2 with fail
    clear hw1
    have m0 := (H.out.cel (.head _)).c 0 _ rfl
    have m1 := (H.out.cel (.head _)).c 1 _ rfl
    have m2 := (H.out.cel (.head _)).c 2 _ rfl
    have m3 := (H.out.cel (.head _)).c 3 _ rfl
    have m4 := (H.out.cel (.head _)).c 4 _ rfl
    have m5 := (H.out.cel (.head _)).c 5 _ rfl
    have m6 := (H.out.cel (.head _)).c 6 _ rfl
    have m7 := (H.out.cel (.head _)).c 7 _ rfl
    have m8 := (H.out.cel (.head _)).c 8 _ rfl
    have m9 := (H.out.cel (.head _)).c 9 _ rfl
    have z1 := (H.out.cel (.head _)).lt
    go_upto_region 5 with (go_at_call 18; refine (SZ.out _).mono ?_; rintro e w2 ⟨rfl, hb⟩)
    have z2 := hb.size
    replace H := hid_mk (H.out.next hb)
    clear hb SZ m0 m1 m2 m3 m4 m5 m6 m7 m8 m9
    have m0 := (H.out.cel (.head _)).c 0 _ rfl
    have m1 := (H.out.cel (.head _)).c 1 _ rfl
    have m2 := (H.out.cel (.head _)).c 2 _ rfl
    have m3 := (H.out.cel (.head _)).c 3 _ rfl
    have m4 := (H.out.cel (.head _)).c 4 _ rfl
    have m5 := (H.out.cel (.head _)).c 5 _ rfl
    have m6 := (H.out.cel (.head _)).c 6 _ rfl
    have m7 := (H.out.cel (.head _)).c 7 _ rfl
    have m8 := (H.out.cel (.head _)).c 8 _ rfl
    have m9 := (H.out.cel (.head _)).c 9 _ rfl
    go_upto_region 6 with (first | (go_at_call 20; refine (toState_ans _ _ _ _ _ _ _ _ _ _ _ R0 L0 G0 _ hn0 hn1 hn2 (H.out.argS (.tail _ (.head _)))).mono ?_; rintro e w3 ⟨b3, b3w, b3g, rfl, A3, f3, hb⟩; have z3 := hb.size; replace H := hid_mk ((H.out.next hb).push (ansSF b3 b3w b3g rn0 wn0 gn0 R0 L0 G0) A3); clear hb m0 m1 m2 m3 m4 m5 m6 m7 m8 m9) | (go_at_call 19; refine (SP.out _ _ _ _ _ _ _ ((H.out.ansS (.head _)).sts hn0 hn1 hn2)).mono ?_; rintro e w4 ⟨a4, rfl, A4, -, f4, hb⟩; have z4 := hb.size; have g4 := hid_mk (fun k hk => A4.lt (k := k) hk); replace H := hid_mk ((H.out.next hb).push (ansCF V a4 Rr) A4); clear hb A4; have C0 := hid_mk (Cel.new w4 [.slice none 0 0, .int .i64 0, .bool false, .int .i64 0, .int .i64 0, .int .i64 0, .int .i64 0, .slice none 0 0, .slice none 0 0, .int .i64 0, .slice none 0 0, .int .i64 0, .bool false, .int .i64 0, .int .i64 0, .int .i64 0, .int .i64 0, .bool false, .slice none 0 0] 37); have TH := hid_mk C0.out.there) | (refine wpList_store_mid (by rfl) 37 _ _ (by rfl) w4.heap.size 0 (col V a4).toArray (by rfl) (by rfl) TH.out sizeCor (col_one V a4) ?_))
    clear f3 A3
    have hb0 := below_sets (col V a4) ((Below.refl _ w4).alloc (Nat.le_refl _) (.cells ([.slice none 0 0, .int .i64 0, .bool false, .int .i64 0, .int .i64 0, .int .i64 0, .int .i64 0, .slice none 0 0, .slice none 0 0, .int .i64 0, .slice none 0 0, .int .i64 0, .bool false, .int .i64 0, .int .i64 0, .int .i64 0, .int .i64 0, .bool false, .slice none 0 0] : List Value).toArray 37)) (Nat.le_refl _)
    have hs0 : ((w4.alloc (.cells ([.slice none 0 0, .int .i64 0, .bool false, .int .i64 0, .int .i64 0, .int .i64 0, .int .i64 0, .slice none 0 0, .slice none 0 0, .int .i64 0, .slice none 0 0, .int .i64 0, .bool false, .int .i64 0, .int .i64 0, .int .i64 0, .int .i64 0, .bool false, .slice none 0 0] : List Value).toArray 37)).setCells w4.heap.size 0 (col V a4)).heap.size = w4.heap.size + 1 := by rw [size_setCells]; simp
    replace H := hid_mk ((H.out.next hb0).push (celF w4.heap.size (col V a4)) (C0.out.sets (us := col V a4) rfl))
    clear hb0 C0 TH
    generalize (w4.alloc (.cells ([.slice none 0 0, .int .i64 0, .bool false, .int .i64 0, .int .i64 0, .int .i64 0, .int .i64 0, .slice none 0 0, .slice none 0 0, .int .i64 0, .slice none 0 0, .int .i64 0, .bool false, .int .i64 0, .int .i64 0, .int .i64 0, .int .i64 0, .bool false, .slice none 0 0] : List Value).toArray 37)).setCells w4.heap.size 0 (col V a4) = w4b at H hs0 ⊢
    have hrr4 : w4.heap.size = w4.heap.size := rfl
    generalize hqr4 : w4.heap.size = r4 at H hs0 hrr4 ⊢
    have B4 : Hid (∀ k, OnC a4 k → w.heap.size < k ∧ k < r4) := fun k hk => by have := f4 k hk; have := g4.out k hk; omega
    have y4 : w4b.heap.size = r4 + 1 := hs0
    have u4 : w.heap.size < r4 := by omega
    clear f4 g4 hs0 hrr4 z1 z2 z3 z4 hqr4
    have m0 := (H.out.cel (.tail _ (.tail _ (.tail _ (.head _))))).c 0 _ rfl
    have m1 := (H.out.cel (.tail _ (.tail _ (.tail _ (.head _))))).c 1 _ rfl
    have m2 := (H.out.cel (.tail _ (.tail _ (.tail _ (.head _))))).c 2 _ rfl
    have m3 := (H.out.cel (.tail _ (.tail _ (.tail _ (.head _))))).c 3 _ rfl
    have m4 := (H.out.cel (.tail _ (.tail _ (.tail _ (.head _))))).c 4 _ rfl
    have m5 := (H.out.cel (.tail _ (.tail _ (.tail _ (.head _))))).c 5 _ rfl
    have m6 := (H.out.cel (.tail _ (.tail _ (.tail _ (.head _))))).c 6 _ rfl
    have m7 := (H.out.cel (.tail _ (.tail _ (.tail _ (.head _))))).c 7 _ rfl
    have m8 := (H.out.cel (.tail _ (.tail _ (.tail _ (.head _))))).c 8 _ rfl
    have m9 := (H.out.cel (.tail _ (.tail _ (.tail _ (.head _))))).c 9 _ rfl
    go_upto_region 7 with (go_at_call 20; refine (toState_ans _ _ _ _ _ _ _ _ _ _ _ R0 L0 G0 _ hn0 hn1 hn2 (H.out.argS (.tail _ (.tail _ (.tail _ (.tail _ (.head _))))))).mono ?_; rintro e w5 ⟨b5, b5w, b5g, rfl, A5, f5, hb⟩; have z5 := hb.size; replace H := hid_mk ((H.out.next hb).push (ansSF b5 b5w b5g rn0 wn0 gn0 R0 L0 G0) A5); clear hb m0 m1 m2 m3 m4 m5 m6 m7 m8 m9)
    have B5 : Hid (∀ k, On b5 k ∨ On b5w k ∨ On b5g k → r4 < k ∧ k < w5.heap.size) := fun k hk => by have := f5 k hk; have := A5.lt hk; omega
    have hx := Cel.new w5 (stl b5 rn0 rn0 rx0 b5w wn0 wn0 b5g gn0 gn0 rt0) 33
    replace H := hid_mk ((H.out.alloc (.cells (stl b5 rn0 rn0 rx0 b5w wn0 wn0 b5g gn0 gn0 rt0).toArray 33)).push (celF w5.heap.size (stl b5 rn0 rn0 rx0 b5w wn0 wn0 b5g gn0 gn0 rt0)) hx)
    have y5 : (w5.alloc (.cells (stl b5 rn0 rn0 rx0 b5w wn0 wn0 b5g gn0 gn0 rt0).toArray 33)).heap.size = w5.heap.size + 1 := by simp
    have u5 : r4 < w5.heap.size := by omega
    clear hx A5 f5 z5
    generalize w5.alloc (.cells (stl b5 rn0 rn0 rx0 b5w wn0 wn0 b5g gn0 gn0 rt0).toArray 33) = w5b at H y5 ⊢
    generalize w5.heap.size = r5 at H y5 u5 B5 ⊢
    have m0 := (H.out.cel (.head _)).c 0 _ rfl
    have m1 := (H.out.cel (.head _)).c 1 _ rfl
    have m2 := (H.out.cel (.head _)).c 2 _ rfl
    have m3 := (H.out.cel (.head _)).c 3 _ rfl
    have m4 := (H.out.cel (.head _)).c 4 _ rfl
    have m5 := (H.out.cel (.head _)).c 5 _ rfl
    have m6 := (H.out.cel (.head _)).c 6 _ rfl
    have m7 := (H.out.cel (.head _)).c 7 _ rfl
    have m8 := (H.out.cel (.head _)).c 8 _ rfl
    have m9 := (H.out.cel (.head _)).c 9 _ rfl
    go_upto_region 8 with (first | (go_at_call 14; refine (IM.out _ _ _ _ _ _ _ ((H.out.ansS (.tail _ (.head _))).sts hn0 hn1 hn2)).mono ?_; rintro e w6 ⟨a6, rfl, A6, ea6, f6, hb⟩; have EA6 := hid_mk ea6; clear ea6; have z6 := hb.size; have g6 := hid_mk (fun k hk => A6.lt (k := k) hk); replace H := hid_mk ((H.out.next hb).push (ansCF V a6 Rr) A6); clear hb A6 m0 m1 m2 m3 m4 m5 m6 m7 m8 m9; have C0 := hid_mk (Cel.new w6 [.slice none 0 0, .int .i64 0, .bool false, .int .i64 0, .int .i64 0, .int .i64 0, .int .i64 0, .slice none 0 0, .slice none 0 0, .int .i64 0, .slice none 0 0, .int .i64 0, .bool false, .int .i64 0, .int .i64 0, .int .i64 0, .int .i64 0, .bool false, .slice none 0 0] 37); have TH := hid_mk C0.out.there) | (refine wpList_store_mid (by rfl) 37 _ _ (by rfl) w6.heap.size 0 (col V a6).toArray (by rfl) (by rfl) TH.out sizeCor (col_one V a6) ?_))
    have hb0 := below_sets (col V a6) ((Below.refl _ w6).alloc (Nat.le_refl _) (.cells ([.slice none 0 0, .int .i64 0, .bool false, .int .i64 0, .int .i64 0, .int .i64 0, .int .i64 0, .slice none 0 0, .slice none 0 0, .int .i64 0, .slice none 0 0, .int .i64 0, .bool false, .int .i64 0, .int .i64 0, .int .i64 0, .int .i64 0, .bool false, .slice none 0 0] : List Value).toArray 37)) (Nat.le_refl _)
    have hs0 : ((w6.alloc (.cells ([.slice none 0 0, .int .i64 0, .bool false, .int .i64 0, .int .i64 0, .int .i64 0, .int .i64 0, .slice none 0 0, .slice none 0 0, .int .i64 0, .slice none 0 0, .int .i64 0, .bool false, .int .i64 0, .int .i64 0, .int .i64 0, .int .i64 0, .bool false, .slice none 0 0] : List Value).toArray 37)).setCells w6.heap.size 0 (col V a6)).heap.size = w6.heap.size + 1 := by rw [size_setCells]; simp
    replace H := hid_mk ((H.out.next hb0).push (celF w6.heap.size (col V a6)) (C0.out.sets (us := col V a6) rfl))
    clear hb0 C0 TH
    generalize (w6.alloc (.cells ([.slice none 0 0, .int .i64 0, .bool false, .int .i64 0, .int .i64 0, .int .i64 0, .int .i64 0, .slice none 0 0, .slice none 0 0, .int .i64 0, .slice none 0 0, .int .i64 0, .bool false, .int .i64 0, .int .i64 0, .int .i64 0, .int .i64 0, .bool false, .slice none 0 0] : List Value).toArray 37)).setCells w6.heap.size 0 (col V a6) = w6b at H hs0 ⊢
    have hrr6 : w6.heap.size = w6.heap.size := rfl
    generalize hqr6 : w6.heap.size = r6 at H hs0 hrr6 ⊢
    have B6 : Hid (∀ k, OnC a6 k → r5 < k ∧ k < r6) := fun k hk => by have := f6 k hk; have := g6.out k hk; omega
    have y6 : w6b.heap.size = r6 + 1 := hs0
    have u6 : r5 < r6 := by omega
    clear f6 g6 hs0 hrr6 z6 hqr6 y5 y4
    replace H : Hid (Hold w w6b [celF r6 (col V a6), ansCF V a6 Rr, celF r5 (stl b5 rn0 rn0 rx0 b5w wn0 wn0 b5g gn0 gn0 rt0), ansSF b5 b5w b5g rn0 wn0 gn0 R0 L0 G0, celF r4 (col V a4), ansCF V a4 Rr, celF w.heap.size (stl ra0 rn0 rc0 rx0 wa0 wn0 wc0 ga0 gn0 gc0 rt0), argSF w.heap.size ra0 rn0 wa0 wn0 ga0 gn0 R0 L0 G0]) := H.out.sub (fun f hf => by
      simp only [List.mem_cons, List.not_mem_nil, or_false] at hf ⊢
      rcases hf with rfl | rfl | rfl | rfl | rfl | rfl | rfl | rfl
      · exact .inl rfl
      · exact .inr (.inl rfl)
      · exact .inr (.inr (.inl rfl))
      · exact .inr (.inr (.inr (.inl rfl)))
      · exact .inr (.inr (.inr (.inr (.inl rfl))))
      · exact .inr (.inr (.inr (.inr (.inr (.inl rfl)))))
      · exact .inr (.inr (.inr (.inr (.inr (.inr (.inr (.inl rfl)))))))
      · exact .inr (.inr (.inr (.inr (.inr (.inr (.inr (.inr (rfl)))))))))
    have R6 := hid_mk (H.out.cel (.head _)).range
    have R4 := hid_mk (H.out.cel (.tail _ (.tail _ (.tail _ (.tail _ (.head _)))))).range
    go_upto_region 10 with (first | (refine wpList_load_mid (by rfl) 37 _ (by rfl) r6 0 (by rfl) (col V a6) _ R6.out Tryz.underlying37 rfl sizeCor ?_) | (refine wpList_load_mid (by rfl) 37 _ (by rfl) r4 0 (by rfl) (col V a4) _ R4.out Tryz.underlying37 rfl sizeCor ?_) | (go_at_call 21; refine (eqCore_same V a6 a4 Rr _ ((H.out.ansC (.tail _ (.head _))).cos hVb) ((H.out.ansC (.tail _ (.tail _ (.tail _ (.tail _ (.tail _ (.head _))))))).cos hVb)).mono ?_; rintro e w7 ⟨rfl, hb⟩))
    replace H := hid_mk (H.out.next hb)
    clear hb R6 R4
    have D0 := hid_mk H.out.drew
    refine wp_region_held_drew (S := fun w' => Hold w w' [celF r6 (col V a6), ansCF V a6 Rr, celF r5 (stl b5 rn0 rn0 rx0 b5w wn0 wn0 b5g gn0 gn0 rt0), ansSF b5 b5w b5g rn0 wn0 gn0 R0 L0 G0, celF r4 (col V a4), ansCF V a4 Rr, celF w.heap.size (stl ra0 rn0 rc0 rx0 wa0 wn0 wc0 ga0 gn0 gc0 rt0), argSF w.heap.size ra0 rn0 wa0 wn0 ga0 gn0 R0 L0 G0]) (by kernel_rfl) D0.out (fun hHeld => ?_)
    generalize (World.drew _) = wd at D0 hHeld ⊢
    clear H
    refine take_on (i := 0) (d := 27) (v := .agg #[.slice b5 rn0 rn0, .int .i64 rx0.n, .bool rx0.i, .int .i64 rx0.b, .int .i64 rx0.t, .int .i64 rx0.p, .int .i64 rx0.s, .slice b5w wn0 wn0, .slice b5g gn0 gn0, .int .i64 rt0]) rfl rfl (by kernel_rfl) (by kernel_rfl) (by kernel_rfl) (fun _ _ _ h => h) (by rfl) ?_ hHeld ?_
    · (intro w' hSw; have q0 := ((show Hold w w' [celF r6 (col V a6), ansCF V a6 Rr, celF r5 (stl b5 rn0 rn0 rx0 b5w wn0 wn0 b5g gn0 gn0 rt0), ansSF b5 b5w b5g rn0 wn0 gn0 R0 L0 G0, celF r4 (col V a4), ansCF V a4 Rr, celF w.heap.size (stl ra0 rn0 rc0 rx0 wa0 wn0 wc0 ga0 gn0 gc0 rt0), argSF w.heap.size ra0 rn0 wa0 wn0 ga0 gn0 R0 L0 G0] from hSw).cel (.tail _ (.tail _ (.head _)))).c 0 _ rfl; have q1 := ((show Hold w w' [celF r6 (col V a6), ansCF V a6 Rr, celF r5 (stl b5 rn0 rn0 rx0 b5w wn0 wn0 b5g gn0 gn0 rt0), ansSF b5 b5w b5g rn0 wn0 gn0 R0 L0 G0, celF r4 (col V a4), ansCF V a4 Rr, celF w.heap.size (stl ra0 rn0 rc0 rx0 wa0 wn0 wc0 ga0 gn0 gc0 rt0), argSF w.heap.size ra0 rn0 wa0 wn0 ga0 gn0 R0 L0 G0] from hSw).cel (.tail _ (.tail _ (.head _)))).c 1 _ rfl; have q2 := ((show Hold w w' [celF r6 (col V a6), ansCF V a6 Rr, celF r5 (stl b5 rn0 rn0 rx0 b5w wn0 wn0 b5g gn0 gn0 rt0), ansSF b5 b5w b5g rn0 wn0 gn0 R0 L0 G0, celF r4 (col V a4), ansCF V a4 Rr, celF w.heap.size (stl ra0 rn0 rc0 rx0 wa0 wn0 wc0 ga0 gn0 gc0 rt0), argSF w.heap.size ra0 rn0 wa0 wn0 ga0 gn0 R0 L0 G0] from hSw).cel (.tail _ (.tail _ (.head _)))).c 2 _ rfl; have q3 := ((show Hold w w' [celF r6 (col V a6), ansCF V a6 Rr, celF r5 (stl b5 rn0 rn0 rx0 b5w wn0 wn0 b5g gn0 gn0 rt0), ansSF b5 b5w b5g rn0 wn0 gn0 R0 L0 G0, celF r4 (col V a4), ansCF V a4 Rr, celF w.heap.size (stl ra0 rn0 rc0 rx0 wa0 wn0 wc0 ga0 gn0 gc0 rt0), argSF w.heap.size ra0 rn0 wa0 wn0 ga0 gn0 R0 L0 G0] from hSw).cel (.tail _ (.tail _ (.head _)))).c 3 _ rfl; have q4 := ((show Hold w w' [celF r6 (col V a6), ansCF V a6 Rr, celF r5 (stl b5 rn0 rn0 rx0 b5w wn0 wn0 b5g gn0 gn0 rt0), ansSF b5 b5w b5g rn0 wn0 gn0 R0 L0 G0, celF r4 (col V a4), ansCF V a4 Rr, celF w.heap.size (stl ra0 rn0 rc0 rx0 wa0 wn0 wc0 ga0 gn0 gc0 rt0), argSF w.heap.size ra0 rn0 wa0 wn0 ga0 gn0 R0 L0 G0] from hSw).cel (.tail _ (.tail _ (.head _)))).c 4 _ rfl; have q5 := ((show Hold w w' [celF r6 (col V a6), ansCF V a6 Rr, celF r5 (stl b5 rn0 rn0 rx0 b5w wn0 wn0 b5g gn0 gn0 rt0), ansSF b5 b5w b5g rn0 wn0 gn0 R0 L0 G0, celF r4 (col V a4), ansCF V a4 Rr, celF w.heap.size (stl ra0 rn0 rc0 rx0 wa0 wn0 wc0 ga0 gn0 gc0 rt0), argSF w.heap.size ra0 rn0 wa0 wn0 ga0 gn0 R0 L0 G0] from hSw).cel (.tail _ (.tail _ (.head _)))).c 5 _ rfl; have q6 := ((show Hold w w' [celF r6 (col V a6), ansCF V a6 Rr, celF r5 (stl b5 rn0 rn0 rx0 b5w wn0 wn0 b5g gn0 gn0 rt0), ansSF b5 b5w b5g rn0 wn0 gn0 R0 L0 G0, celF r4 (col V a4), ansCF V a4 Rr, celF w.heap.size (stl ra0 rn0 rc0 rx0 wa0 wn0 wc0 ga0 gn0 gc0 rt0), argSF w.heap.size ra0 rn0 wa0 wn0 ga0 gn0 R0 L0 G0] from hSw).cel (.tail _ (.tail _ (.head _)))).c 6 _ rfl; have q7 := ((show Hold w w' [celF r6 (col V a6), ansCF V a6 Rr, celF r5 (stl b5 rn0 rn0 rx0 b5w wn0 wn0 b5g gn0 gn0 rt0), ansSF b5 b5w b5g rn0 wn0 gn0 R0 L0 G0, celF r4 (col V a4), ansCF V a4 Rr, celF w.heap.size (stl ra0 rn0 rc0 rx0 wa0 wn0 wc0 ga0 gn0 gc0 rt0), argSF w.heap.size ra0 rn0 wa0 wn0 ga0 gn0 R0 L0 G0] from hSw).cel (.tail _ (.tail _ (.head _)))).c 7 _ rfl; have q8 := ((show Hold w w' [celF r6 (col V a6), ansCF V a6 Rr, celF r5 (stl b5 rn0 rn0 rx0 b5w wn0 wn0 b5g gn0 gn0 rt0), ansSF b5 b5w b5g rn0 wn0 gn0 R0 L0 G0, celF r4 (col V a4), ansCF V a4 Rr, celF w.heap.size (stl ra0 rn0 rc0 rx0 wa0 wn0 wc0 ga0 gn0 gc0 rt0), argSF w.heap.size ra0 rn0 wa0 wn0 ga0 gn0 R0 L0 G0] from hSw).cel (.tail _ (.tail _ (.head _)))).c 8 _ rfl; have q9 := ((show Hold w w' [celF r6 (col V a6), ansCF V a6 Rr, celF r5 (stl b5 rn0 rn0 rx0 b5w wn0 wn0 b5g gn0 gn0 rt0), ansSF b5 b5w b5g rn0 wn0 gn0 R0 L0 G0, celF r4 (col V a4), ansCF V a4 Rr, celF w.heap.size (stl ra0 rn0 rc0 rx0 wa0 wn0 wc0 ga0 gn0 gc0 rt0), argSF w.heap.size ra0 rn0 wa0 wn0 ga0 gn0 R0 L0 G0] from hSw).cel (.tail _ (.tail _ (.head _)))).c 9 _ rfl; go_simp)
    (try simp only [Act.put]); (try simp only [List.setIfInBounds_toArray]); (try simp only [List.set_cons_succ]); (try simp only [List.set_cons_zero]); (try simp only [List.set_cons_succ]); (try simp only [List.set_cons_zero]); (try simp only [Nat.zero_add])
    refine take_on (i := 1) (d := 28) (v := .agg #[.slice ra0 rn0 rc0, .int .i64 rx0.n, .bool rx0.i, .int .i64 rx0.b, .int .i64 rx0.t, .int .i64 rx0.p, .int .i64 rx0.s, .slice wa0 wn0 wc0, .slice ga0 gn0 gc0, .int .i64 rt0]) rfl rfl (by kernel_rfl) (by kernel_rfl) (by kernel_rfl) (fun _ _ _ h => h) (by rfl) ?_ hHeld ?_
    · (intro w' hSw; have q0 := ((show Hold w w' [celF r6 (col V a6), ansCF V a6 Rr, celF r5 (stl b5 rn0 rn0 rx0 b5w wn0 wn0 b5g gn0 gn0 rt0), ansSF b5 b5w b5g rn0 wn0 gn0 R0 L0 G0, celF r4 (col V a4), ansCF V a4 Rr, celF w.heap.size (stl ra0 rn0 rc0 rx0 wa0 wn0 wc0 ga0 gn0 gc0 rt0), argSF w.heap.size ra0 rn0 wa0 wn0 ga0 gn0 R0 L0 G0] from hSw).cel (.tail _ (.tail _ (.tail _ (.tail _ (.tail _ (.tail _ (.head _)))))))).c 0 _ rfl; have q1 := ((show Hold w w' [celF r6 (col V a6), ansCF V a6 Rr, celF r5 (stl b5 rn0 rn0 rx0 b5w wn0 wn0 b5g gn0 gn0 rt0), ansSF b5 b5w b5g rn0 wn0 gn0 R0 L0 G0, celF r4 (col V a4), ansCF V a4 Rr, celF w.heap.size (stl ra0 rn0 rc0 rx0 wa0 wn0 wc0 ga0 gn0 gc0 rt0), argSF w.heap.size ra0 rn0 wa0 wn0 ga0 gn0 R0 L0 G0] from hSw).cel (.tail _ (.tail _ (.tail _ (.tail _ (.tail _ (.tail _ (.head _)))))))).c 1 _ rfl; have q2 := ((show Hold w w' [celF r6 (col V a6), ansCF V a6 Rr, celF r5 (stl b5 rn0 rn0 rx0 b5w wn0 wn0 b5g gn0 gn0 rt0), ansSF b5 b5w b5g rn0 wn0 gn0 R0 L0 G0, celF r4 (col V a4), ansCF V a4 Rr, celF w.heap.size (stl ra0 rn0 rc0 rx0 wa0 wn0 wc0 ga0 gn0 gc0 rt0), argSF w.heap.size ra0 rn0 wa0 wn0 ga0 gn0 R0 L0 G0] from hSw).cel (.tail _ (.tail _ (.tail _ (.tail _ (.tail _ (.tail _ (.head _)))))))).c 2 _ rfl; have q3 := ((show Hold w w' [celF r6 (col V a6), ansCF V a6 Rr, celF r5 (stl b5 rn0 rn0 rx0 b5w wn0 wn0 b5g gn0 gn0 rt0), ansSF b5 b5w b5g rn0 wn0 gn0 R0 L0 G0, celF r4 (col V a4), ansCF V a4 Rr, celF w.heap.size (stl ra0 rn0 rc0 rx0 wa0 wn0 wc0 ga0 gn0 gc0 rt0), argSF w.heap.size ra0 rn0 wa0 wn0 ga0 gn0 R0 L0 G0] from hSw).cel (.tail _ (.tail _ (.tail _ (.tail _ (.tail _ (.tail _ (.head _)))))))).c 3 _ rfl; have q4 := ((show Hold w w' [celF r6 (col V a6), ansCF V a6 Rr, celF r5 (stl b5 rn0 rn0 rx0 b5w wn0 wn0 b5g gn0 gn0 rt0), ansSF b5 b5w b5g rn0 wn0 gn0 R0 L0 G0, celF r4 (col V a4), ansCF V a4 Rr, celF w.heap.size (stl ra0 rn0 rc0 rx0 wa0 wn0 wc0 ga0 gn0 gc0 rt0), argSF w.heap.size ra0 rn0 wa0 wn0 ga0 gn0 R0 L0 G0] from hSw).cel (.tail _ (.tail _ (.tail _ (.tail _ (.tail _ (.tail _ (.head _)))))))).c 4 _ rfl; have q5 := ((show Hold w w' [celF r6 (col V a6), ansCF V a6 Rr, celF r5 (stl b5 rn0 rn0 rx0 b5w wn0 wn0 b5g gn0 gn0 rt0), ansSF b5 b5w b5g rn0 wn0 gn0 R0 L0 G0, celF r4 (col V a4), ansCF V a4 Rr, celF w.heap.size (stl ra0 rn0 rc0 rx0 wa0 wn0 wc0 ga0 gn0 gc0 rt0), argSF w.heap.size ra0 rn0 wa0 wn0 ga0 gn0 R0 L0 G0] from hSw).cel (.tail _ (.tail _ (.tail _ (.tail _ (.tail _ (.tail _ (.head _)))))))).c 5 _ rfl; have q6 := ((show Hold w w' [celF r6 (col V a6), ansCF V a6 Rr, celF r5 (stl b5 rn0 rn0 rx0 b5w wn0 wn0 b5g gn0 gn0 rt0), ansSF b5 b5w b5g rn0 wn0 gn0 R0 L0 G0, celF r4 (col V a4), ansCF V a4 Rr, celF w.heap.size (stl ra0 rn0 rc0 rx0 wa0 wn0 wc0 ga0 gn0 gc0 rt0), argSF w.heap.size ra0 rn0 wa0 wn0 ga0 gn0 R0 L0 G0] from hSw).cel (.tail _ (.tail _ (.tail _ (.tail _ (.tail _ (.tail _ (.head _)))))))).c 6 _ rfl; have q7 := ((show Hold w w' [celF r6 (col V a6), ansCF V a6 Rr, celF r5 (stl b5 rn0 rn0 rx0 b5w wn0 wn0 b5g gn0 gn0 rt0), ansSF b5 b5w b5g rn0 wn0 gn0 R0 L0 G0, celF r4 (col V a4), ansCF V a4 Rr, celF w.heap.size (stl ra0 rn0 rc0 rx0 wa0 wn0 wc0 ga0 gn0 gc0 rt0), argSF w.heap.size ra0 rn0 wa0 wn0 ga0 gn0 R0 L0 G0] from hSw).cel (.tail _ (.tail _ (.tail _ (.tail _ (.tail _ (.tail _ (.head _)))))))).c 7 _ rfl; have q8 := ((show Hold w w' [celF r6 (col V a6), ansCF V a6 Rr, celF r5 (stl b5 rn0 rn0 rx0 b5w wn0 wn0 b5g gn0 gn0 rt0), ansSF b5 b5w b5g rn0 wn0 gn0 R0 L0 G0, celF r4 (col V a4), ansCF V a4 Rr, celF w.heap.size (stl ra0 rn0 rc0 rx0 wa0 wn0 wc0 ga0 gn0 gc0 rt0), argSF w.heap.size ra0 rn0 wa0 wn0 ga0 gn0 R0 L0 G0] from hSw).cel (.tail _ (.tail _ (.tail _ (.tail _ (.tail _ (.tail _ (.head _)))))))).c 8 _ rfl; have q9 := ((show Hold w w' [celF r6 (col V a6), ansCF V a6 Rr, celF r5 (stl b5 rn0 rn0 rx0 b5w wn0 wn0 b5g gn0 gn0 rt0), ansSF b5 b5w b5g rn0 wn0 gn0 R0 L0 G0, celF r4 (col V a4), ansCF V a4 Rr, celF w.heap.size (stl ra0 rn0 rc0 rx0 wa0 wn0 wc0 ga0 gn0 gc0 rt0), argSF w.heap.size ra0 rn0 wa0 wn0 ga0 gn0 R0 L0 G0] from hSw).cel (.tail _ (.tail _ (.tail _ (.tail _ (.tail _ (.tail _ (.head _)))))))).c 9 _ rfl; go_simp)
    (try simp only [Act.put]); (try simp only [List.setIfInBounds_toArray]); (try simp only [List.set_cons_succ]); (try simp only [List.set_cons_zero]); (try simp only [List.set_cons_succ]); (try simp only [List.set_cons_zero]); (try simp only [Nat.zero_add])
    refine wpAnyH_ready (rs := [2]) (by kernel_rfl) (by simp) ?_
    refine AllReadyH.cons rfl (fun K hK => ?_) AllReadyH.nil
    go_simp
    refine (toState_ans _ _ _ _ _ _ _ _ _ _ _ R0 L0 G0 _ hn0 hn1 hn2 (D0.out.argS (.tail _ (.tail _ (.tail _ (.tail _ (.tail _ (.tail _ (.tail _ (.head _)))))))))).mono ?_
    rintro e w8 ⟨b8, b8w, b8g, rfl, A8, _, hb⟩
    have H3 := hid_mk ((D0.out.next hb).push (ansSF b8 b8w b8g rn0 wn0 gn0 R0 L0 G0) A8)
    clear hb A8
    refine hK.out _ _ H3.out.tail (fun hHeld => ?_)
    clear hK K
    (try simp only [Act.put]); (try simp only [List.setIfInBounds_toArray]); (try simp only [List.set_cons_succ]); (try simp only [List.set_cons_zero]); (try simp only [List.set_cons_succ]); (try simp only [List.set_cons_zero]); (try simp only [Nat.zero_add])
    refine wpAnyH_ready (rs := [3]) (by kernel_rfl) (by simp) ?_
    refine AllReadyH.cons rfl (fun K hK => ?_) AllReadyH.nil
    go_simp
    refine (eqState_same _ _ _ _ _ _ _ _ _ _ _ _ _ _ _ _ _ R0 L0 G0 _ ((H3.out.tail.ansS (.tail _ (.tail _ (.tail _ (.head _))))).sts hn0 hn1 hn2) ((H3.out.ansS (.head _)).sts hn0 hn1 hn2)).mono ?_
    rintro e w9 ⟨rfl, hb⟩
    have H := hid_mk (H3.out.next hb).tail
    clear hb
    refine hK.out _ _ H.out (fun hHeld => ?_)
    clear hK K
    (try simp only [Act.put]); (try simp only [List.setIfInBounds_toArray]); (try simp only [List.set_cons_succ]); (try simp only [List.set_cons_zero]); (try simp only [List.set_cons_succ]); (try simp only [List.set_cons_zero]); (try simp only [Nat.zero_add])
    refine take_on (i := 4) (d := 31) (v := .bool false) rfl rfl (by kernel_rfl) (by kernel_rfl) (by kernel_rfl) (fun _ _ _ h => h) (by rfl) ?_ hHeld ?_
    · (intro w' hSw; go_simp)
    (try simp only [Act.put]); (try simp only [List.setIfInBounds_toArray]); (try simp only [List.set_cons_succ]); (try simp only [List.set_cons_zero]); (try simp only [List.set_cons_succ]); (try simp only [List.set_cons_zero]); (try simp only [Nat.zero_add])
    refine wpAnyH_done (by kernel_rfl) ?_ _
    clear hHeld H3 D0
    try dsimp only
    have z9 : r6 < w9.heap.size := (H.out.cel (.head _)).lt
    have m0 := (H.out.cel (.tail _ (.tail _ (.head _)))).c 0 _ rfl
    have m1 := (H.out.cel (.tail _ (.tail _ (.head _)))).c 1 _ rfl
    have m2 := (H.out.cel (.tail _ (.tail _ (.head _)))).c 2 _ rfl
    have m3 := (H.out.cel (.tail _ (.tail _ (.head _)))).c 3 _ rfl
    have m4 := (H.out.cel (.tail _ (.tail _ (.head _)))).c 4 _ rfl
    have m5 := (H.out.cel (.tail _ (.tail _ (.head _)))).c 5 _ rfl
    have m6 := (H.out.cel (.tail _ (.tail _ (.head _)))).c 6 _ rfl
    have m7 := (H.out.cel (.tail _ (.tail _ (.head _)))).c 7 _ rfl
    have m8 := (H.out.cel (.tail _ (.tail _ (.head _)))).c 8 _ rfl
    have m9 := (H.out.cel (.tail _ (.tail _ (.head _)))).c 9 _ rfl
    obtain ⟨mk, hmk, hmk0⟩ : ∃ mk : Int, Hid (1 + 6 * (rn0 : Int) + 6 * (wn0 : Int) + (gn0 : Int) = mk) ∧ 0 ≤ mk := ⟨_, rfl, by omega⟩
    have s1 := markState_at b5 rn0 rn0 rx0 b5w wn0 wn0 b5g gn0 gn0 rt0 R0 L0 G0 1 (by omega) (by omega) hn0 hn1 hn2 w9 (H.out.ansS (.tail _ (.tail _ (.tail _ (.head _)))))
    rw [hmk.out] at s1
    have S1 := hid_mk s1
    clear s1 hmk
    go_upto_region 14 with (go_at_call 23; refine S1.out.mono ?_; rintro e w10 ⟨rfl, hA, hK⟩)
    replace H : Hid (Hold w w10 (ansSF b5 b5w b5g rn0 wn0 gn0 (marksW 1 rn0) (marksW (1 + 6 * (rn0 : Int)) wn0) (marksB (1 + 6 * (rn0 : Int) + 6 * (wn0 : Int)) gn0) :: [celF r6 (col V a6), ansCF V a6 Rr, celF r5 (stl b5 rn0 rn0 rx0 b5w wn0 wn0 b5g gn0 gn0 rt0), celF r4 (col V a4), ansCF V a4 Rr, celF w.heap.size (stl ra0 rn0 rc0 rx0 wa0 wn0 wc0 ga0 gn0 gc0 rt0), argSF w.heap.size ra0 rn0 wa0 wn0 ga0 gn0 R0 L0 G0])) := ((H.out.sub (gs := [celF r6 (col V a6), ansCF V a6 Rr, celF r5 (stl b5 rn0 rn0 rx0 b5w wn0 wn0 b5g gn0 gn0 rt0), celF r4 (col V a4), ansCF V a4 Rr, celF w.heap.size (stl ra0 rn0 rc0 rx0 wa0 wn0 wc0 ga0 gn0 gc0 rt0), argSF w.heap.size ra0 rn0 wa0 wn0 ga0 gn0 R0 L0 G0]) (fun f hf => by
      simp only [List.mem_cons, List.not_mem_nil, or_false] at hf ⊢
      rcases hf with rfl | rfl | rfl | rfl | rfl | rfl | rfl
      · exact .inl rfl
      · exact .inr (.inl rfl)
      · exact .inr (.inr (.inl rfl))
      · exact .inr (.inr (.inr (.inr (.inl rfl))))
      · exact .inr (.inr (.inr (.inr (.inr (.inl rfl)))))
      · exact .inr (.inr (.inr (.inr (.inr (.inr (.inl rfl))))))
      · exact .inr (.inr (.inr (.inr (.inr (.inr (.inr (rfl))))))))).wrote hK (fun k hk => by have := B5.out k hk; omega) (fun f hf k hk ht => by
      have hb1 := B5.out k ht
      simp only [List.mem_cons, List.not_mem_nil, or_false] at hf
      rcases hf with rfl | rfl | rfl | rfl | rfl | rfl | rfl
      · simp only [celF] at hk; omega
      · have := B6.out k hk; omega
      · simp only [celF] at hk; omega
      · simp only [celF] at hk; omega
      · have := B4.out k hk; omega
      · simp only [celF] at hk; omega
      · simp only [argSF] at hk; omega)).push (ansSF b5 b5w b5g rn0 wn0 gn0 (marksW 1 rn0) (marksW (1 + 6 * (rn0 : Int)) wn0) (marksB (1 + 6 * (rn0 : Int) + 6 * (wn0 : Int)) gn0)) hA
    have z10 : r6 < w10.heap.size := Nat.lt_of_lt_of_le z9 hK.size
    clear hA hK S1 m0 m1 m2 m3 m4 m5 m6 m7 m8 m9
    have R6 := hid_mk (H.out.cel (.tail _ (.head _))).range
    have R4 := hid_mk (H.out.cel (.tail _ (.tail _ (.tail _ (.tail _ (.head _)))))).range
    have hmlt : decide (mk < 0) = false := decide_eq_false (by omega)
    refine wp_region_lit ?_
    refine wpList_val (by rfl) (.int .i64 mk) (by go_simp) ?_
    (try simp only [Act.put]); (try simp only [List.setIfInBounds_toArray]); (try simp only [List.set_cons_succ]); (try simp only [List.set_cons_zero]); (try simp only [List.set_cons_succ]); (try simp only [List.set_cons_zero]); (try simp only [Nat.zero_add])
    refine wpList_val (by rfl) (.bool false) (by go_simp) ?_
    (try simp only [Act.put]); (try simp only [List.setIfInBounds_toArray]); (try simp only [List.set_cons_succ]); (try simp only [List.set_cons_zero]); (try simp only [List.set_cons_succ]); (try simp only [List.set_cons_zero]); (try simp only [Nat.zero_add])
    refine wpList_val (by rfl) (.bool false) (by go_simp) ?_
    (try simp only [Act.put]); (try simp only [List.setIfInBounds_toArray]); (try simp only [List.set_cons_succ]); (try simp only [List.set_cons_zero]); (try simp only [List.set_cons_succ]); (try simp only [List.set_cons_zero]); (try simp only [Nat.zero_add])
    refine wpList_load_on (by rfl) 37 _ (by rfl) r6 0 (by rfl) (col V a6) _ R6.out Tryz.underlying37 rfl sizeCor ?_
    (try simp only [Act.put]); (try simp only [List.setIfInBounds_toArray]); (try simp only [List.set_cons_succ]); (try simp only [List.set_cons_zero]); (try simp only [List.set_cons_succ]); (try simp only [List.set_cons_zero]); (try simp only [Nat.zero_add])
    refine wpList_load_on (by rfl) 37 _ (by rfl) r4 0 (by rfl) (col V a4) _ R4.out Tryz.underlying37 rfl sizeCor ?_
    (try simp only [Act.put]); (try simp only [List.setIfInBounds_toArray]); (try simp only [List.set_cons_succ]); (try simp only [List.set_cons_zero]); (try simp only [List.set_cons_succ]); (try simp only [List.set_cons_zero]); (try simp only [Nat.zero_add])
    go_upto_region 17 with (go_at_call 21; refine (eqCore_same V a6 a4 Rr _ ((H.out.ansC (.tail _ (.tail _ (.head _)))).cos hVb) ((H.out.ansC (.tail _ (.tail _ (.tail _ (.tail _ (.tail _ (.head _))))))).cos hVb)).mono ?_; rintro e w11 ⟨rfl, hb⟩)
    replace H := hid_mk (H.out.next hb)
    have z11 : r6 < w11.heap.size := Nat.lt_of_lt_of_le z10 hb.size
    clear hb R6 R4 hmlt
    obtain ⟨mm, hmm, hmm0⟩ : ∃ mm : Int, Hid (1 + 6 * (V.rn : Int) + 6 * (V.wn : Int) + (V.gn : Int) + (V.jn : Int) = mm) ∧ 0 ≤ mm := ⟨_, rfl, by omega⟩
    have s1 := markCore_nil V a6 Rr 1 (by omega) (by omega) hVb hVe.out EA6.out w11 (H.out.ansC (.tail _ (.tail _ (.head _))))
    have s2 := fun w h => heldCore_nil V a6 1 (by omega) (by omega) hVb hVe.out w h
    rw [hmm.out] at s1 s2
    have S1 := hid_mk s1
    have S2 := hid_mk s2
    have R6 := hid_mk (H.out.cel (.tail _ (.head _))).range
    clear s1 s2 hmm
    go_upto_region 19 with (first | (refine wpList_load_mid (by rfl) 37 _ (by rfl) r6 0 (by rfl) (col V a6) _ R6.out Tryz.underlying37 rfl sizeCor ?_) | (go_at_call 24; refine S1.out.mono ?_; rintro e w12 ⟨rfl, hA, hK⟩))
    replace H : Hid (Hold w w12 (ansCF V a6 (markR V 1) :: [ansSF b5 b5w b5g rn0 wn0 gn0 (marksW 1 rn0) (marksW (1 + 6 * (rn0 : Int)) wn0) (marksB (1 + 6 * (rn0 : Int) + 6 * (wn0 : Int)) gn0), celF r6 (col V a6), celF r5 (stl b5 rn0 rn0 rx0 b5w wn0 wn0 b5g gn0 gn0 rt0), celF r4 (col V a4), ansCF V a4 Rr, celF w.heap.size (stl ra0 rn0 rc0 rx0 wa0 wn0 wc0 ga0 gn0 gc0 rt0), argSF w.heap.size ra0 rn0 wa0 wn0 ga0 gn0 R0 L0 G0])) := ((H.out.sub (gs := [ansSF b5 b5w b5g rn0 wn0 gn0 (marksW 1 rn0) (marksW (1 + 6 * (rn0 : Int)) wn0) (marksB (1 + 6 * (rn0 : Int) + 6 * (wn0 : Int)) gn0), celF r6 (col V a6), celF r5 (stl b5 rn0 rn0 rx0 b5w wn0 wn0 b5g gn0 gn0 rt0), celF r4 (col V a4), ansCF V a4 Rr, celF w.heap.size (stl ra0 rn0 rc0 rx0 wa0 wn0 wc0 ga0 gn0 gc0 rt0), argSF w.heap.size ra0 rn0 wa0 wn0 ga0 gn0 R0 L0 G0]) (fun f hf => by
      simp only [List.mem_cons, List.not_mem_nil, or_false] at hf ⊢
      rcases hf with rfl | rfl | rfl | rfl | rfl | rfl | rfl
      · exact .inl rfl
      · exact .inr (.inl rfl)
      · exact .inr (.inr (.inr (.inl rfl)))
      · exact .inr (.inr (.inr (.inr (.inl rfl))))
      · exact .inr (.inr (.inr (.inr (.inr (.inl rfl)))))
      · exact .inr (.inr (.inr (.inr (.inr (.inr (.inl rfl))))))
      · exact .inr (.inr (.inr (.inr (.inr (.inr (.inr (rfl))))))))).wrote hK (fun k hk => by have := B6.out k hk; omega) (fun f hf k hk ht => by
      have hb1 := B6.out k ht
      simp only [List.mem_cons, List.not_mem_nil, or_false] at hf
      rcases hf with rfl | rfl | rfl | rfl | rfl | rfl | rfl
      · have := B5.out k hk; omega
      · simp only [celF] at hk; omega
      · simp only [celF] at hk; omega
      · simp only [celF] at hk; omega
      · have := B4.out k hk; omega
      · simp only [celF] at hk; omega
      · simp only [argSF] at hk; omega)).push (ansCF V a6 (markR V 1)) hA
    clear hA hK S1 R6
    have R6 := hid_mk (H.out.cel (.tail _ (.tail _ (.head _)))).range
    go_upto_region 20 with (first | (refine wpList_load_mid (by rfl) 37 _ (by rfl) r6 0 (by rfl) (col V a6) _ R6.out Tryz.underlying37 rfl sizeCor ?_) | (go_at_call 25; refine (S2.out _ (H.out.ansC (.head _))).mono ?_; rintro e w13 ⟨rfl, hb⟩))
    replace H := hid_mk (H.out.next hb)
    clear hb R6
    have hmmm : (mm != mm) = false := by simp
    go_upto_region 24 with fail
    have m0 := (H.out.cel (.tail _ (.tail _ (.tail _ (.tail _ (.tail _ (.tail _ (.head _)))))))).c 0 _ rfl
    have m1 := (H.out.cel (.tail _ (.tail _ (.tail _ (.tail _ (.tail _ (.tail _ (.head _)))))))).c 1 _ rfl
    have m2 := (H.out.cel (.tail _ (.tail _ (.tail _ (.tail _ (.tail _ (.tail _ (.head _)))))))).c 2 _ rfl
    have m3 := (H.out.cel (.tail _ (.tail _ (.tail _ (.tail _ (.tail _ (.tail _ (.head _)))))))).c 3 _ rfl
    have m4 := (H.out.cel (.tail _ (.tail _ (.tail _ (.tail _ (.tail _ (.tail _ (.head _)))))))).c 4 _ rfl
    have m5 := (H.out.cel (.tail _ (.tail _ (.tail _ (.tail _ (.tail _ (.tail _ (.head _)))))))).c 5 _ rfl
    have m6 := (H.out.cel (.tail _ (.tail _ (.tail _ (.tail _ (.tail _ (.tail _ (.head _)))))))).c 6 _ rfl
    have m7 := (H.out.cel (.tail _ (.tail _ (.tail _ (.tail _ (.tail _ (.tail _ (.head _)))))))).c 7 _ rfl
    have m8 := (H.out.cel (.tail _ (.tail _ (.tail _ (.tail _ (.tail _ (.tail _ (.head _)))))))).c 8 _ rfl
    have m9 := (H.out.cel (.tail _ (.tail _ (.tail _ (.tail _ (.tail _ (.tail _ (.head _)))))))).c 9 _ rfl
    go_upto_region 25 with (first | (go_at_call 20; refine (toState_ans _ _ _ _ _ _ _ _ _ _ _ R0 L0 G0 _ hn0 hn1 hn2 (H.out.argS (.tail _ (.tail _ (.tail _ (.tail _ (.tail _ (.tail _ (.tail _ (.head _)))))))))).mono ?_; rintro e w14 ⟨b14, b14w, b14g, rfl, A14, f14, hb⟩; have z14 := hb.size; replace H := hid_mk ((H.out.next hb).push (ansSF b14 b14w b14g rn0 wn0 gn0 R0 L0 G0) A14); clear hb m0 m1 m2 m3 m4 m5 m6 m7 m8 m9) | (go_at_call 14; refine (IM.out _ _ _ _ _ _ _ ((H.out.ansS (.head _)).sts hn0 hn1 hn2)).mono ?_; rintro e w15 ⟨a15, rfl, A15, -, -, hb⟩; replace H := hid_mk ((H.out.next hb).push (ansCF V a15 Rr) A15); clear hb A15; have C0 := hid_mk (Cel.new w15 [.slice none 0 0, .int .i64 0, .bool false, .int .i64 0, .int .i64 0, .int .i64 0, .int .i64 0, .slice none 0 0, .slice none 0 0, .int .i64 0, .slice none 0 0, .int .i64 0, .bool false, .int .i64 0, .int .i64 0, .int .i64 0, .int .i64 0, .bool false, .slice none 0 0] 37); have TH := hid_mk C0.out.there) | (refine wpList_store_mid (by rfl) 37 _ _ (by rfl) w15.heap.size 0 (col V a15).toArray (by rfl) (by rfl) TH.out sizeCor (col_one V a15) ?_))
    clear A14 f14 z14
    have hb0 := below_sets (col V a15) ((Below.refl _ w15).alloc (Nat.le_refl _) (.cells ([.slice none 0 0, .int .i64 0, .bool false, .int .i64 0, .int .i64 0, .int .i64 0, .int .i64 0, .slice none 0 0, .slice none 0 0, .int .i64 0, .slice none 0 0, .int .i64 0, .bool false, .int .i64 0, .int .i64 0, .int .i64 0, .int .i64 0, .bool false, .slice none 0 0] : List Value).toArray 37)) (Nat.le_refl _)
    have hs0 : ((w15.alloc (.cells ([.slice none 0 0, .int .i64 0, .bool false, .int .i64 0, .int .i64 0, .int .i64 0, .int .i64 0, .slice none 0 0, .slice none 0 0, .int .i64 0, .slice none 0 0, .int .i64 0, .bool false, .int .i64 0, .int .i64 0, .int .i64 0, .int .i64 0, .bool false, .slice none 0 0] : List Value).toArray 37)).setCells w15.heap.size 0 (col V a15)).heap.size = w15.heap.size + 1 := by rw [size_setCells]; simp
    replace H := hid_mk ((H.out.next hb0).push (celF w15.heap.size (col V a15)) (C0.out.sets (us := col V a15) rfl))
    clear hb0 C0 TH
    generalize (w15.alloc (.cells ([.slice none 0 0, .int .i64 0, .bool false, .int .i64 0, .int .i64 0, .int .i64 0, .int .i64 0, .slice none 0 0, .slice none 0 0, .int .i64 0, .slice none 0 0, .int .i64 0, .bool false, .int .i64 0, .int .i64 0, .int .i64 0, .int .i64 0, .bool false, .slice none 0 0] : List Value).toArray 37)).setCells w15.heap.size 0 (col V a15) = w15b at H hs0 ⊢
    have hrr15 : w15.heap.size = w15.heap.size := rfl
    generalize hqr15 : w15.heap.size = r15 at H hs0 hrr15 ⊢
    clear hs0 hrr15 hqr15
    have R15 := hid_mk (H.out.cel (.head _)).range
    have R4 := hid_mk (H.out.cel (.tail _ (.tail _ (.tail _ (.tail _ (.tail _ (.tail _ (.tail _ (.head _))))))))).range
    go_upto_region 28 with (first | (refine wpList_load_mid (by rfl) 37 _ (by rfl) r15 0 (by rfl) (col V a15) _ R15.out Tryz.underlying37 rfl sizeCor ?_) | (refine wpList_load_mid (by rfl) 37 _ (by rfl) r4 0 (by rfl) (col V a4) _ R4.out Tryz.underlying37 rfl sizeCor ?_) | (go_at_call 21; refine (eqCore_same V a15 a4 Rr _ ((H.out.ansC (.tail _ (.head _))).cos hVb) ((H.out.ansC (.tail _ (.tail _ (.tail _ (.tail _ (.tail _ (.tail _ (.tail _ (.tail _ (.head _)))))))))).cos hVb)).mono ?_; rintro e w16 ⟨rfl, hb⟩))
    replace H := hid_mk (H.out.next hb)
    clear hb R15 R4
    have R6 := hid_mk (H.out.cel (.tail _ (.tail _ (.tail _ (.tail _ (.tail _ (.head _))))))).range
    go_upto_region 29 with (first | (refine wpList_load_mid (by rfl) 37 _ (by rfl) r6 0 (by rfl) (col V a6) _ R6.out Tryz.underlying37 rfl sizeCor ?_) | (go_at_call 25; refine (S2.out _ (H.out.ansC (.tail _ (.tail _ (.tail _ (.head _)))))).mono ?_; rintro e w17 ⟨rfl, hb⟩))
    have B := hid_mk (H.out.next hb).bel
    clear hb R6 H S2
    go_wp2
    go_ret
    exact ⟨rfl, B.out⟩
  · simp only [if_neg hl] at sz
    have SZ := hid_mk sz
    clear sz hS0 hl
    generalize hw1 : w.alloc (.cells (stl ra0 rn0 rc0 rx0 wa0 wn0 wc0 ga0 gn0 gc0 rt0).toArray 61) = w1 at H
    go_enter Tryz.func4, Tryz.ntmps4
    go_upto_region 2 with fail
    clear hw1
    have m0 := (H.out.cel (.head _)).c 0 _ rfl
    have m1 := (H.out.cel (.head _)).c 1 _ rfl
    have m2 := (H.out.cel (.head _)).c 2 _ rfl
    have m3 := (H.out.cel (.head _)).c 3 _ rfl
    have m4 := (H.out.cel (.head _)).c 4 _ rfl
    have m5 := (H.out.cel (.head _)).c 5 _ rfl
    have m6 := (H.out.cel (.head _)).c 6 _ rfl
    have m7 := (H.out.cel (.head _)).c 7 _ rfl
    have m8 := (H.out.cel (.head _)).c 8 _ rfl
    have m9 := (H.out.cel (.head _)).c 9 _ rfl
    go_upto_region 3 with (go_at_call 18; refine (SZ.out _).mono ?_; rintro e w2 ⟨rfl, hb⟩)
    have B := hid_mk (H.out.next hb).bel
    clear hb SZ H m0 m1 m2 m3 m4 m5 m6 m7 m8 m9
    go_wp2
    go_ret
    exact ⟨rfl, B.out⟩

set_option maxRecDepth 100000 in
theorem lifted (os : Os) (started : os.Started) (H : Type) (enc : TypeId × Value → H) :
    ReturnsInHanded {} Tryz.checked os 4 .any (Rows.fnExactCoreNewSpec.pre6 enc Tryz.prog Tryz.f4 Rows.fnExactCoreNewRow.domain false) (Rows.fnExactCoreNewSpec.post enc Tryz.prog Tryz.f4 false true false false) := by
  refine returnsInHanded_of_change (C := Tryz.checked) own started (by kernel_rfl) Tryz.func4
    (ChangeSpec.witness6 (enc := enc) (C := Tryz.checked) false ⟨#[], #[.agg #[.slice none 0 0, .int .i64 0, .bool false, .int .i64 0, .int .i64 0, .int .i64 0, .int .i64 0, .slice none 0 0, .slice none 0 0, .int .i64 0]], []⟩ 8 (by kernel_rfl) (by kernel_rfl) (by kernel_rfl) (by kernel_rfl)) ?_
  intro W base args ds gs before hval0 hW hcnd _
  have hval : ∀ (j : Nat) t v, Tryz.f4.params[j]? = some t → args[j]? = some v → Value.okWide Tryz.prog W .any base t v := hval0
  have hW' := hW
  obtain ⟨p, q, hA0, hV, rfl, hfz, hnd⟩ := hW
  have hA : DataW.TrodAll enc Tryz.prog W 0 (fun _ => true) true Tryz.f4.params.toList args.toList ds p := hA0
  rw [Tryz.params4] at hA hval
  obtain ⟨v0, vs0, d0, ds0, p0, q0, hargs, rfl, rfl, h0, r0⟩ := trodAll_cons hA
  obtain ⟨rfl, rfl, rfl⟩ := trodAll_nil r0
  obtain rfl : args = #[v0] := by cases args; simp_all
  obtain ⟨rfl, rfl⟩ := trodVars_none hV
  have k0 := h0
  have lt0 : ∀ x ∈ p0, x.block < W.heap.size := by obtain ⟨m, hm⟩ := k0; exact DataW.trod_lt m _ _ _ hm
  obtain ⟨ra0, rn0, rc0, rx0, wa0, wn0, wc0, ga0, gn0, gc0, rt0, R0, L0, G0, rfl, hS0⟩ := open_state (hval 0 61 v0 rfl rfl) h0
  clear hA0 hval0
  refine (walk ra0 rn0 rc0 rx0 wa0 wn0 wc0 ga0 gn0 gc0 rt0 R0 L0 G0 W hS0).mono fun e W' ⟨he, bel⟩ => ?_
  subst he
  exact ⟨_, rfl, _, _, _, [], _, [], hW', trodAll_mk1 (shut_bool Tryz.underlying4 _), (trodAll_cons_mk (Below.trod laidOut (by kernel_rfl) (of_decide_eq_true (by kernel_rfl)) k0 bel lt0) trodAll_mk0), rfl, bel.frame _, fun h => by cases h⟩

theorem proved : Rows.FnExactCoreNewSaid :=
  OpenClaim.holds_of_wide 4 Tryz.f4 rfl rfl rfl rfl rfl rfl rfl ⟨rfl, rfl, rfl, rfl, rfl⟩ rfl rfl rfl rfl rfl (by kernel_rfl) Tryz.func4 (by kernel_rfl)
    (of_decide_eq_true (by kernel_rfl)) (by unfold Func.isWrapper; first | (rw [if_pos (by decide +kernel)]; kernel_rfl) | (rw [if_neg (by decide +kernel)]; exact ⟨rfl, rfl⟩))
    (fun os started H enc _ => lifted os started H enc)
end Go.Proofs.YtneohabkoighcaaGreat.fnExactCoreNew

namespace Go.Proofs.YtneohabkoighcaaGreat
/-- For every State CoreNew of the program answers as the specification's CoreNew, every field, in memory of its own, behind another call too; it leaves the state as it was, and the law returns true; states of more than 2^20 elements the law passes by. No condition. -/
theorem fnExactCoreNew_holds : Rows.FnExactCoreNewSaid := fnExactCoreNew.proved
#print axioms fnExactCoreNew_holds
end Go.Proofs.YtneohabkoighcaaGreat
