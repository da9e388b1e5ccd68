/- For every Core and every two ints, where what is read is of bulk at most 1048576, Value of the program answers as the specification's Value, leaves the core as it was, and the law returns true. -/
import Derived.Test.YtneohabkoighcaaRows
import Derived.Test.YtneohabkoighcaaQE
import Derived.Test.YtneohabkoighcaaQG
import Derived.Test.YtneohabkoighcaaQF
import Derived.Test.YtneohabkoighcaaQD
import Derived.WalkKit
import Derived.ProofKit
import Derived.OpenShut
import Derived.JoinedCond
import Derived.Lib.SmallJoins
import Derived.ChangeOld
import Derived.Below
import Derived.Deep.Slices
import Derived.Deep.Strs
namespace Go.Proofs.Ytneohabkoighcaa.fnExactValue
open Go.ChangeShapes Go.WideShapes Go.ChangeAt Go.RowKit Go.Joins Go.Deep

theorem own : ownKnob Try.prog.godebug = none := by kernel_rfl
theorem laidOut : laidOutB Try.prog = true := by kernel_rfl

set_option maxRecDepth 100000 in
set_option maxHeartbeats 8000000 in
theorem walk (v : Cv) (a : Ca) (r : Cr) (x0 : Int) (b0 : -9223372036854775808 ≤ x0 ∧ x0 ≤ 9223372036854775807) (x1 : Int) (w : World) (hS0 : CoS w v a r) (hen0 : v.en ≤ 262144) :
    Calls Try.prog 5 #[.agg (col v a).toArray, .int .i64 x0, .int .i64 x1] w fun e w' => e = .returned (.bool true) ∧ Below w.heap.size w w' := by
  have sz := szCore_at v a 1048576 (by decide) (by decide) hS0.st.rs.1 hS0.st.mem.ws.1 hS0.st.mem.gs.1 hS0.es.1 hS0.js.1
  have H : Hid (Hold w (w.alloc (.cells (col v a).toArray 35)) [celF w.heap.size (col v a), argCF w.heap.size v a r]) := ((Hold.new w).push (argCF w.heap.size v a r) hS0.arg).box (col v a) 35 w.heap.size rfl
  by_cases hl : (v.rn : Int) + (v.wn : Int) + (v.gn : Int) + (v.en : Int) + (v.jn : Int) ≤ 1048576
  · obtain ⟨m, hm, hm0⟩ : ∃ m : Int, Hid (m = 1048576 - (v.rn : Int) - (v.wn : Int) - (v.gn : Int) - (v.en : Int) - (v.jn : Int)) ∧ 0 ≤ m := ⟨_, rfl, by omega⟩
    simp only [if_pos hl, ← hm.out] at sz
    have SZ := hid_mk sz
    have hv : CvB v := ⟨by omega, by omega, by omega, hen0, by omega⟩
    clear sz hS0 hl hm
    obtain ⟨y, hy⟩ : ∃ y, Hid (y = vlW v r x0 x1) := ⟨_, rfl⟩
    obtain ⟨u, hu⟩ : ∃ u, Hid (u = vlO v r x0 x1) := ⟨_, rfl⟩
    have s1 := fun a3 w h => specValue_any v a3 r x0 x1 b0 w h
    have s2 := fun a5 w h h1 => implValue_any v a5 r x0 x1 b0 w h h1 (by have := hv.en; omega)
    simp only [← hy.out, ← hu.out, wdV] at s1 s2
    have SP := hid_mk s1
    have IM := hid_mk s2
    clear s1 s2 hy hu
    generalize hw1 : w.alloc (.cells (col v a).toArray 35) = w1 at H
    go_enter Try.func5, Try.ntmps5
    go_upto_region 2 with fail
    clear hw1
    have RC := hid_mk (H.out.cel (.head _)).range
    go_upto_region 3 with (first | (refine wpList_load_mid (by rfl) 35 _ (by rfl) w.heap.size 0 (by rfl) (col v a) _ RC.out Try.underlying35 rfl sizeCorL ?_) | (go_at_call 6; refine (SZ.out _).mono ?_; rintro e w2 ⟨rfl, hb⟩))
    replace H := hid_mk (H.out.next hb)
    clear hb RC SZ
    have RC := hid_mk (H.out.cel (.head _)).range
    go_upto_region 6 with (first | (refine wpList_load_mid (by rfl) 35 _ (by rfl) w.heap.size 0 (by rfl) (col v a) _ RC.out Try.underlying35 rfl sizeCorL ?_) | (go_at_call 8; refine (toCore_ans v a r _ hv (H.out.argC (.tail _ (.head _)))).mono ?_; rintro e w3 ⟨a3, rfl, A3, _, _, hb⟩; replace H := hid_mk ((H.out.next hb).push (ansCF v a3 r) A3); clear hb A3) | (go_at_call 13; refine (SP.out a3 _ ((H.out.ansC (.head _)).cos hv)).mono ?_; rintro e w4 ⟨rfl, hb⟩; replace H := hid_mk ((H.out.next hb).tail); clear hb))
    clear RC
    replace H := hid_mk (H.out.box [.int .i64 y.n, .bool y.i, .int .i64 y.b, .int .i64 y.t, .int .i64 y.p, .int .i64 y.s] 41 w4.heap.size rfl)
    generalize w4.alloc (.cells ([.int .i64 y.n, .bool y.i, .int .i64 y.b, .int .i64 y.t, .int .i64 y.p, .int .i64 y.s] : List Value).toArray 41) = w4b at H ⊢
    generalize w4.heap.size = r4 at H ⊢
    have RC := hid_mk (H.out.cel (.tail _ (.head _))).range
    go_upto_region 7 with (first | (refine wpList_load_mid (by rfl) 35 _ (by rfl) w.heap.size 0 (by rfl) (col v a) _ RC.out Try.underlying35 rfl sizeCorL ?_) | (go_at_call 8; refine (toCore_ans v a r _ hv (H.out.argC (.tail _ (.tail _ (.head _))))).mono ?_; rintro e w5 ⟨a5, rfl, A5, C5, _, hb⟩; replace H := hid_mk ((H.out.next hb).push (ansCF v a5 r) A5); clear hb A5; have C0 := hid_mk (Cel.new w5 [.slice none 0 0, .int .i64 0, .bool false, .int .i64 0, .int .i64 0, .int .i64 0, .int .i64 0, .slice none 0 0, .slice none 0 0, .int .i64 0, .slice none 0 0, .int .i64 0, .bool false, .int .i64 0, .int .i64 0, .int .i64 0, .int .i64 0, .bool false, .slice none 0 0] 48); have TH := hid_mk C0.out.there) | (refine wpList_store_mid (by rfl) 48 _ _ (by rfl) w5.heap.size 0 (col v a5).toArray (by rfl) (by rfl) TH.out sizeCor (col_one v a5) ?_))
    have hb0 := below_sets (col v a5) ((Below.refl _ w5).alloc (Nat.le_refl _) (.cells ([.slice none 0 0, .int .i64 0, .bool false, .int .i64 0, .int .i64 0, .int .i64 0, .int .i64 0, .slice none 0 0, .slice none 0 0, .int .i64 0, .slice none 0 0, .int .i64 0, .bool false, .int .i64 0, .int .i64 0, .int .i64 0, .int .i64 0, .bool false, .slice none 0 0] : List Value).toArray 48)) (Nat.le_refl _)
    replace H := hid_mk ((H.out.next hb0).push (celF w5.heap.size (col v a5)) (C0.out.sets (us := col v a5) rfl))
    clear hb0 RC C0 TH
    generalize (w5.alloc (.cells ([.slice none 0 0, .int .i64 0, .bool false, .int .i64 0, .int .i64 0, .int .i64 0, .int .i64 0, .slice none 0 0, .slice none 0 0, .int .i64 0, .slice none 0 0, .int .i64 0, .bool false, .int .i64 0, .int .i64 0, .int .i64 0, .int .i64 0, .bool false, .slice none 0 0] : List Value).toArray 48)).setCells w5.heap.size 0 (col v a5) = w6 at H ⊢
    generalize w5.heap.size = r5 at H ⊢
    have RX := hid_mk (H.out.cel (.head _)).range
    go_upto_region 8 with (first | (refine wpList_load_mid (by rfl) 48 _ (by rfl) r5 0 (by rfl) (col v a5) _ RX.out Try.underlying48 rfl sizeCor ?_) | (go_at_call 14; refine (IM.out a5 _ ((H.out.ansC (.tail _ (.head _))).cos hv) C5).mono ?_; rintro e w7 ⟨rfl, hb⟩))
    replace H := hid_mk (H.out.next hb)
    clear hb RX
    replace H := hid_mk (H.out.box [.int .i64 y.n, .bool y.i, .int .i64 y.b, .int .i64 y.t, .int .i64 y.p, .int .i64 y.s] 41 w7.heap.size rfl)
    generalize w7.alloc (.cells ([.int .i64 y.n, .bool y.i, .int .i64 y.b, .int .i64 y.t, .int .i64 y.p, .int .i64 y.s] : List Value).toArray 41) = w7b at H ⊢
    generalize w7.heap.size = r7 at H ⊢
    obtain ⟨g0, g1, g2, g3, g4, g5⟩ := (H.out.cel (.head _)).c6
    obtain ⟨k0, k1, k2, k3, k4, k5⟩ := (H.out.cel (.tail _ (.tail _ (.tail _ (.head _))))).c6
    have hu := bne_b u
    go_upto_region 10 with (go_at_call 15; refine (eqWord_same y.n y.i y.b y.t y.p y.s _).mono ?_; rintro e wq ⟨rfl, hb⟩)
    replace H := hid_mk ((H.out.next hb).sub (gs := [celF r5 (col v a5), ansCF v a5 r, celF w.heap.size (col v a), argCF w.heap.size v a r]) (fun f hf => by
      simp only [List.mem_cons, List.not_mem_nil, or_false] at hf ⊢
      rcases hf with rfl | rfl | rfl | rfl
      · exact .inr (.inl rfl)
      · exact .inr (.inr (.inl rfl))
      · exact .inr (.inr (.inr (.inr (.inl rfl))))
      · exact .inr (.inr (.inr (.inr (.inr rfl))))))
    clear hb hu g0 g1 g2 g3 g4 g5 k0 k1 k2 k3 k4 k5
    have D0 := hid_mk H.out.drew
    refine wp_region_held_drew (S := fun w' => Hold w w' [celF r5 (col v a5), ansCF v a5 r, celF w.heap.size (col v a), argCF w.heap.size v a r]) (by kernel_rfl) D0.out (fun hHeld => ?_)
    generalize (World.drew _) = wd at D0 hHeld ⊢
    clear H
    refine take_on (i := 0) (d := 44) (v := .agg (col v a5).toArray) rfl rfl (by kernel_rfl) (by kernel_rfl) (by kernel_rfl) (fun _ _ _ h => h) (by rfl) ?_ hHeld ?_
    · exact fun w' hSw => exec_ldm (by rfl) (by rfl) ((show Hold w w' [celF r5 (col v a5), ansCF v a5 r, celF w.heap.size (col v a), argCF w.heap.size v a r] from hSw).cel (.head _)).range Try.underlying48 rfl sizeCor
    (try simp only [Act.put]); (try simp only [List.setIfInBounds_toArray]); (try simp only [List.set_cons_succ]); (try simp only [List.set_cons_zero]); (try simp only [List.set_cons_succ]); (try simp only [List.set_cons_zero]); (try simp only [Nat.zero_add])
    refine take_on (i := 1) (d := 45) (v := .agg (col v a).toArray) rfl rfl (by kernel_rfl) (by kernel_rfl) (by kernel_rfl) (fun _ _ _ h => h) (by rfl) ?_ hHeld ?_
    · exact fun w' hSw => exec_ldm (by rfl) (by rfl) ((show Hold w w' [celF r5 (col v a5), ansCF v a5 r, celF w.heap.size (col v a), argCF w.heap.size v a r] from hSw).cel (.tail _ (.tail _ (.head _)))).range Try.underlying35 rfl sizeCorL
    (try simp only [Act.put]); (try simp only [List.setIfInBounds_toArray]); (try simp only [List.set_cons_succ]); (try simp only [List.set_cons_zero]); (try simp only [List.set_cons_succ]); (try simp only [List.set_cons_zero]); (try simp only [Nat.zero_add])
    refine wpAnyH_ready (rs := [2]) (by kernel_rfl) (by simp) ?_
    refine AllReadyH.cons rfl (fun K hK => ?_) AllReadyH.nil
    go_simp
    refine (toCore_ans v a r _ hv (D0.out.argC (.tail _ (.tail _ (.tail _ (.head _)))))).mono ?_
    rintro e w8 ⟨a8, rfl, A8, _, _, hb⟩
    have H3 := hid_mk ((D0.out.next hb).push (ansCF v a8 r) A8)
    clear hb A8
    refine hK.out _ _ H3.out.tail (fun hHeld => ?_)
    clear hK K
    (try simp only [Act.put]); (try simp only [List.setIfInBounds_toArray]); (try simp only [List.set_cons_succ]); (try simp only [List.set_cons_zero]); (try simp only [List.set_cons_succ]); (try simp only [List.set_cons_zero]); (try simp only [Nat.zero_add])
    refine wpAnyH_ready (rs := [3]) (by kernel_rfl) (by simp) ?_
    refine AllReadyH.cons rfl (fun K hK => ?_) AllReadyH.nil
    go_simp
    refine (eqCore_same v a5 a8 r _ ((H3.out.ansC (.tail _ (.tail _ (.head _)))).cos hv) ((H3.out.ansC (.head _)).cos hv)).mono ?_
    rintro e w9 ⟨rfl, hb⟩
    have H4 := hid_mk (H3.out.next hb).tail
    clear hb
    refine hK.out _ _ H4.out (fun hHeld => ?_)
    clear hK K
    (try simp only [Act.put]); (try simp only [List.setIfInBounds_toArray]); (try simp only [List.set_cons_succ]); (try simp only [List.set_cons_zero]); (try simp only [List.set_cons_succ]); (try simp only [List.set_cons_zero]); (try simp only [Nat.zero_add])
    refine take_on (i := 4) (d := 48) (v := .bool false) rfl rfl (by kernel_rfl) (by kernel_rfl) (by kernel_rfl) (fun _ _ _ h => h) (by rfl) ?_ hHeld ?_
    · (intro w' hSw; go_simp)
    (try simp only [Act.put]); (try simp only [List.setIfInBounds_toArray]); (try simp only [List.set_cons_succ]); (try simp only [List.set_cons_zero]); (try simp only [List.set_cons_succ]); (try simp only [List.set_cons_zero]); (try simp only [Nat.zero_add])
    refine wpAnyH_done (by kernel_rfl) ?_ _
    clear hHeld
    try dsimp only
    have B := hid_mk H4.out.bel
    clear H4 H3 D0
    go_wp2
    go_ret
    exact ⟨rfl, B.out⟩
  · simp only [if_neg hl] at sz
    have SZ := hid_mk sz
    clear sz hS0 hl
    generalize hw1 : w.alloc (.cells (col v a).toArray 35) = w1 at H
    go_enter Try.func5, Try.ntmps5
    go_upto_region 2 with fail
    clear hw1
    have RC := hid_mk (H.out.cel (.head _)).range
    go_upto_region 3 with (first | (refine wpList_load_mid (by rfl) 35 _ (by rfl) w.heap.size 0 (by rfl) (col v a) _ RC.out Try.underlying35 rfl sizeCorL ?_) | (go_at_call 6; refine (SZ.out _).mono ?_; rintro e w2 ⟨rfl, hb⟩))
    have B := hid_mk (H.out.next hb).bel
    clear hb RC SZ H
    go_wp2
    go_ret
    exact ⟨rfl, B.out⟩

set_option maxRecDepth 100000 in
theorem contract (H : Type) (enc : TypeId × Value → H) (W : World) (base : Nat) (args : Array Value) (ds gs : List (DataW H)) (before : List MemPlace)
    (hval0 : ∀ (j : Nat) t v, Try.f5.params[j]? = some t → args[j]? = some v → Value.okWide Try.prog W .any base t v)
    (hW : DataW.Whole enc Try.prog Try.f5.params.toList Rows.fnExactValueSpec.vars false W args.toList ds gs before) (hk : Rows.uptoSmall H (ds ++ gs) = true) :
    Calls Try.prog 5 args W fun e W' => ∃ v, e = .returned v ∧ Rows.fnExactValueSpec.post enc Try.prog Try.f5 false true false false W args v W' := by
  have hval : ∀ (j : Nat) t v, Try.f5.params[j]? = some t → args[j]? = some v → Value.okWide Try.prog W .any base t v := hval0
  have hW' := hW
  obtain ⟨p, q, hA0, hV, rfl, hfz, hnd⟩ := hW
  have hA : DataW.TrodAll enc Try.prog W 0 (fun _ => true) true Try.f5.params.toList args.toList ds p := hA0
  rw [Try.params5] at hA hval
  obtain ⟨v0, vs0, d0, ds0, p0, q0, hargs, rfl, rfl, h0, r0⟩ := trodAll_cons hA
  obtain ⟨v1, vs1, d1, ds1, p1, q1, rfl, rfl, rfl, h1, r1⟩ := trodAll_cons r0
  obtain ⟨v2, vs2, d2, ds2, p2, q2, rfl, rfl, rfl, h2, r2⟩ := trodAll_cons r1
  obtain ⟨rfl, rfl, rfl⟩ := trodAll_nil r2
  obtain rfl : args = #[v0, v1, v2] := by cases args; simp_all
  obtain ⟨rfl, rfl⟩ := trodVars_none hV
  have hbulk : Rows.uptoBulkAll ([d0, d1, d2] ++ []) ≤ 1048576 := of_decide_eq_true hk
  have hb0 := Nat.le_trans (bulk_part (d := d0) (l := [d0, d1, d2] ++ []) (by simp)) hbulk
  have k0 := h0
  have lt0 : ∀ x ∈ p0, x.block < W.heap.size := by obtain ⟨m, hm⟩ := k0; exact DataW.trod_lt m _ _ _ hm
  have k1 := h1
  have lt1 : ∀ x ∈ p1, x.block < W.heap.size := by obtain ⟨m, hm⟩ := k1; exact DataW.trod_lt m _ _ _ hm
  have k2 := h2
  have lt2 : ∀ x ∈ p2, x.block < W.heap.size := by obtain ⟨m, hm⟩ := k2; exact DataW.trod_lt m _ _ _ hm
  obtain ⟨cv0, ca0, cr0, rfl, hS0, hbk0⟩ := open_core (hval 0 35 v0 rfl rfl) h0
  obtain ⟨x0, rfl, _, _, wx0⟩ := open_int Try.underlying3 (hval 1 3 v1 rfl rfl) h1
  obtain ⟨x1, rfl, _, _, _⟩ := open_int Try.underlying3 (hval 2 3 v2 rfl rfl) h2
  clear hA0 hval0 hbulk hk
  refine (walk cv0 ca0 cr0 x0 (bounds_i64 wx0) x1 W hS0 (by omega)).mono fun e W' ⟨he, bel⟩ => ?_
  subst he
  exact ⟨_, rfl, _, _, _, [], _, [], hW', trodAll_mk1 (shut_bool Try.underlying4 _), (trodAll_cons_mk (Below.trod laidOut (by kernel_rfl) (of_decide_eq_true (by kernel_rfl)) k0 bel lt0) (trodAll_cons_mk (Below.trod laidOut (by kernel_rfl) (of_decide_eq_true (by kernel_rfl)) k1 bel lt1) (trodAll_cons_mk (Below.trod laidOut (by kernel_rfl) (of_decide_eq_true (by kernel_rfl)) k2 bel lt2) trodAll_mk0))), rfl, bel.frame _, fun h => by cases h⟩

set_option maxRecDepth 100000 in
theorem lifted (os : Os) (started : os.Started) (H : Type) (enc : TypeId × Value → H) (F : Stop.Interp) :
    ReturnsInHanded {} Try.checked os 5 .any ((Rows.OpenSpec.upto Rows.fnExactValueSpec).pre6 enc Try.prog Try.f5 Rows.fnExactValueUptoRow.domain false) (((Rows.OpenSpec.upto Rows.fnExactValueSpec).at F).post enc Try.prog Try.f5 false true false false) := by
  refine returnsInHanded_of_cond (C := Try.checked) (s := Rows.OpenSpec.upto Rows.fnExactValueSpec) (k := Rows.uptoSmall) rfl own started (by kernel_rfl) Try.func5
    (OpenSpec.witness (enc := enc) (C := Try.checked) (s := Rows.OpenSpec.upto Rows.fnExactValueSpec) (k := Rows.uptoSmall) rfl false ⟨#[], #[.agg #[.slice none 0 0, .int .i64 0, .bool false, .int .i64 0, .int .i64 0, .int .i64 0, .int .i64 0, .slice none 0 0, .slice none 0 0, .int .i64 0, .slice none 0 0, .int .i64 0, .bool false, .int .i64 0, .int .i64 0, .int .i64 0, .int .i64 0, .bool false, .slice none 0 0], .int .i64 0, .int .i64 0], []⟩ 8 (by kernel_rfl) (by kernel_rfl) (by kernel_rfl)
      (x := ([.agg [.agg [.nil, .agg [.lit (.int .i64 0), .lit (.bool false), .agg [.lit (.int .i64 0), .lit (.int .i64 0), .lit (.int .i64 0), .lit (.int .i64 0)]], .agg [.nil, .nil], .lit (.int .i64 0)], .nil, .agg [.lit (.int .i64 0), .lit (.bool false), .agg [.lit (.int .i64 0), .lit (.int .i64 0), .lit (.int .i64 0), .lit (.int .i64 0)]], .lit (.bool false), .nil], .lit (.int .i64 0), .lit (.int .i64 0)], [], [])) (by kernel_rfl) rfl (by kernel_rfl)) ?_
  intro W base args ds gs before hval hW _ hk _
  exact contract H enc W base args ds gs before hval hW hk

theorem proved : Rows.FnExactValueUptoSaid :=
  OpenClaim.holds_of_cond 5 Try.f5 rfl rfl rfl rfl rfl rfl rfl ⟨rfl, rfl, rfl, rfl, rfl⟩ rfl rfl rfl rfl rfl (by kernel_rfl) Try.func5 (by kernel_rfl)
    (of_decide_eq_true (by kernel_rfl)) (by unfold Func.isWrapper; first | (rw [if_pos (by decide +kernel)]; kernel_rfl) | (rw [if_neg (by decide +kernel)]; exact ⟨rfl, rfl⟩))
    (fun os started H enc _ F => lifted os started H enc F)
end Go.Proofs.Ytneohabkoighcaa.fnExactValue

namespace Go.Proofs.Ytneohabkoighcaa
/-- For every Core and every two ints, where what is read is of bulk at most 1048576, Value of the program answers as the specification's Value, leaves the core as it was, and the law returns true. -/
theorem fnExactValue_holds : Rows.FnExactValueUptoSaid := fnExactValue.proved
#print axioms fnExactValue_holds
end Go.Proofs.Ytneohabkoighcaa
