/- States as wholes; l9Copy of the specification, slices.Clone at words, stateAsItWas of the program: a state of its own, like the one that it was given. No condition but that 8, 24 and 24 are there. -/
import Derived.Test.YtpkhnajhamnggaaGreatDoorZJ
import Derived.Test.YtpkhnajhamnggaaGreatDoorEffL
import Derived.Test.YtpkhnajhamnggaaGreatDoorZA
import Derived.Test.YtpkhnajhamnggaaGreatDoorMemB
import Derived.ArgAppend
import Derived.Lib.BufferMore
namespace Go.Proofs.YtpkhnajhamnggaaGreatDoor
open Go.ChangeShapes Go.WideShapes Go.ChangeAt Go.RowKit
set_option maxRecDepth 100000

theorem sizeSt : (Tryz.prog.info? 42).map (·.size) = some 10 := by kernel_rfl
theorem stl_one (b : Option Addr) (n d : Nat) (x : Wd) (b1 : Option Addr) (n1 d1 : Nat) (b2 : Option Addr) (n2 d2 : Nat) (t : Int) : ((stl b n d x b1 n1 d1 b2 n2 d2 t).toArray.all (·.oneCell')) = true := all_oneCell_toArray fun v hv => by
  simp only [stl, List.mem_cons, List.not_mem_nil, or_false] at hv
  rcases hv with rfl | rfl | rfl | rfl | rfl | rfl | rfl | rfl | rfl | rfl <;> rfl
theorem lv_st {w : World} {r : Nat} {vs : List Value} (h : Cel w r vs) (hl : vs.length = 10) : (loadVar 42 ⟨r, 0, none⟩).run Tryz.prog w = .ok (.agg vs.toArray) w :=
  run_loadVar_mid w r 0 _ _ _ h.range Tryz.underlying42 rfl (by rw [hl]; exact sizeSt)
/-- A block of so many cells that may be written, whatever they hold. -/
def lenF (r n : Nat) : Fct where
  S := fun k => k = r
  p := fun w => ∃ vs : List Value, vs.length = n ∧ Cel w r vs
  keep := fun _ _ ⟨vs, hl, h⟩ hs hb => ⟨vs, hl, h.ofBlock hs (hb r h.lt rfl)⟩
theorem Hold.len {w0 w : World} {fs : List Fct} (h : Hold w0 w fs) {r n : Nat} (hm : lenF r n ∈ fs) : ∃ vs : List Value, vs.length = n ∧ Cel w r vs := h.at hm
theorem Hold.sets_len {w0 w : World} {fs : List Fct} {r n : Nat} (us : List Value) (h : Hold w0 w (lenF r n :: fs)) (h0 : w0.heap.size ≤ r) (hd : ∀ f ∈ fs, ∀ k, f.S k → k ≠ r) (hl : us.length = n) : Hold w0 (w.setCells r 0 us) (lenF r n :: fs) := by
  obtain ⟨vs, hv, C⟩ := h.len (.head _)
  exact ((h.tail).wrote (T := fun k => k = r) (KeptS.ofBut (KeepBut.setCells us 0 w) rfl) (fun k e => by omega) hd).push (lenF r n) ⟨us, hl, C.sets (by omega)⟩

theorem step_appWd {ops : Array Oper} {o : Oper} {a : Act} {w : World} {K : Act → World → Prop} {Q : Exit → Act → World → Prop} {E : Prop} (hgd : o.guard = none) (s x : Operand)
    (ho : o.op = .call { callee := .builtin .append, args := #[s, x], argTypes := #[35, 35] })
    (dd : Nat) (hdd : o.dst = some dd) (b : Addr) (n cap : Nat) (X : List Wd) (hs : a.eval s = .slice (some b) n cap) (hX : X.length = n) (holds : ∀ j u, (X.flatMap Wd.vs)[j]? = some u → w.cell? (b.add j) = some u)
    (ad : Addr) (m c : Nat) (Y : List Wd) (hx : a.eval x = .slice (some ad) m c) (hY : Y.length = m) (hc : ∀ j u, (Y.flatMap Wd.vs)[j]? = some u → w.cell? (ad.add j) = some u) (hfull : cap < n + m) (hb : n + m ≤ 1048576)
    (h : ∀ g cp w', w'.ownsRow w.heap.size 38 6 (.slice (some ⟨g, 0, none⟩) (n + m) cp) (n + m) ((X ++ Y).flatMap Wd.vs) → OutW w' g (n + m) (n + m) (X ++ Y) → w.heap.size ≤ g → n + m ≤ cp → Below w.heap.size w w' → K (a.put (some dd) (.slice (some ⟨g, 0, none⟩) (n + m) cp)) w') :
    if Region.wanted o (yielded ops a.tmps) = true then Oper.wp Tryz.prog o a w K Q else E :=
  step_appW hgd s x ho b n cap X hs hX holds ad m c Y hx hY hc hfull hb (fun g cp w' h1 h2 h3 h4 h5 => by rw [hdd]; exact h g cp w' h1 h2 h3 h4 h5)

set_option maxHeartbeats 1000000 in
theorem l9Copy_any (a : Option Addr) (c : Nat) (x : Wd) (a1 : Option Addr) (c1 : Nat) (a2 : Option Addr) (c2 : Nat) (t : Int) (R L : List Wd) (G : List Bool) (w : World) (hS : StS w a 8 a1 24 a2 24 R L G) :
    Calls Tryz.prog 32 #[.agg #[.slice a 8 c, .int .i64 x.n, .bool x.i, .int .i64 x.b, .int .i64 x.t, .int .i64 x.p, .int .i64 x.s, .slice a1 24 c1, .slice a2 24 c2, .int .i64 t]] w fun e w' => ∃ b d b1 d1 b2 d2, e = .returned (.agg #[.slice b 8 d, .int .i64 x.n, .bool x.i, .int .i64 x.b, .int .i64 x.t, .int .i64 x.p, .int .i64 x.s, .slice b1 24 d1, .slice b2 24 d2, .int .i64 t]) ∧ 24 ≤ d1 ∧ AnsS b b1 b2 8 24 24 R L G w' ∧ (∀ k, On b k ∨ On b1 k ∨ On b2 k → w.heap.size ≤ k) ∧ Below w.heap.size w w' := by
  have hlr := hS.rs.2.1
  obtain ⟨kb, o, _, rfl, _, _, _⟩ := hS.rs.at (j := 0) (by omega)
  have H : Hid (Hold w ((w.alloc (.cells (stl (some ⟨kb, o, none⟩) 8 c x a1 24 c1 a2 24 c2 t).toArray 42)).alloc (.cells ([.slice none 0 0, .int .i64 0, .bool false, .int .i64 0, .int .i64 0, .int .i64 0, .int .i64 0, .slice none 0 0, .slice none 0 0, .int .i64 0] : List Value).toArray 42)) [lenF (w.heap.size + 1) 10, celF w.heap.size (stl (some ⟨kb, o, none⟩) 8 c x a1 24 c1 a2 24 c2 t), argSF w.heap.size (some ⟨kb, o, none⟩) 8 a1 24 a2 24 R L G]) := by
    have h1 := (((Hold.new w).push (argSF w.heap.size (some ⟨kb, o, none⟩) 8 a1 24 a2 24 R L G) hS.arg).alloc (.cells (stl (some ⟨kb, o, none⟩) 8 c x a1 24 c1 a2 24 c2 t).toArray 42)).push (celF w.heap.size (stl (some ⟨kb, o, none⟩) 8 c x a1 24 c1 a2 24 c2 t)) (Cel.new w _ _)
    have g2 := Cel.new (w.alloc (.cells (stl (some ⟨kb, o, none⟩) 8 c x a1 24 c1 a2 24 c2 t).toArray 42)) [.slice none 0 0, .int .i64 0, .bool false, .int .i64 0, .int .i64 0, .int .i64 0, .int .i64 0, .slice none 0 0, .slice none 0 0, .int .i64 0] 42
    rw [World.size_alloc] at g2
    exact (h1.alloc (.cells ([.slice none 0 0, .int .i64 0, .bool false, .int .i64 0, .int .i64 0, .int .i64 0, .int .i64 0, .slice none 0 0, .slice none 0 0, .int .i64 0] : List Value).toArray 42)).push (lenF (w.heap.size + 1) 10) ⟨_, rfl, g2⟩
  clear hS
  have RZ : Hid (∀ (us : List Value) (w1 : World), us.length = 10 → Hold w w1 [lenF (w.heap.size + 1) 10, celF w.heap.size (stl (some ⟨kb, o, none⟩) 8 c x a1 24 c1 a2 24 c2 t), argSF w.heap.size (some ⟨kb, o, none⟩) 8 a1 24 a2 24 R L G] → Hold w (w1.setCells (w.heap.size + 1) 0 us) [lenF (w.heap.size + 1) 10, celF w.heap.size (stl (some ⟨kb, o, none⟩) 8 c x a1 24 c1 a2 24 c2 t), argSF w.heap.size (some ⟨kb, o, none⟩) 8 a1 24 a2 24 R L G]) := fun us w1 hl h => h.sets_len us (by omega) (fun f hf k hk => by
    simp only [List.mem_cons, List.not_mem_nil, or_false] at hf
    rcases hf with rfl | rfl
    · simp only [celF] at hk; omega
    · simp only [argSF] at hk; omega) hl
  obtain ⟨Q, HQ, HQ2⟩ : ∃ Q : Ending → World → Prop, Hid (∀ b d b1 d1 b2 d2 w', 24 ≤ d1 → AnsS b b1 b2 8 24 24 R L G w' → (∀ k, On b k ∨ On b1 k ∨ On b2 k → w.heap.size ≤ k) → Below w.heap.size w w' → Q (.returned (.agg #[.slice b 8 d, .int .i64 x.n, .bool x.i, .int .i64 x.b, .int .i64 x.t, .int .i64 x.p, .int .i64 x.s, .slice b1 24 d1, .slice b2 24 d2, .int .i64 t])) w') ∧ (∀ e w', Q e w' → ∃ b d b1 d1 b2 d2, e = .returned (.agg #[.slice b 8 d, .int .i64 x.n, .bool x.i, .int .i64 x.b, .int .i64 x.t, .int .i64 x.p, .int .i64 x.s, .slice b1 24 d1, .slice b2 24 d2, .int .i64 t]) ∧ 24 ≤ d1 ∧ AnsS b b1 b2 8 24 24 R L G w' ∧ (∀ k, On b k ∨ On b1 k ∨ On b2 k → w.heap.size ≤ k) ∧ Below w.heap.size w w') :=
    ⟨fun e w' => ∃ b d b1 d1 b2 d2, e = .returned (.agg #[.slice b 8 d, .int .i64 x.n, .bool x.i, .int .i64 x.b, .int .i64 x.t, .int .i64 x.p, .int .i64 x.s, .slice b1 24 d1, .slice b2 24 d2, .int .i64 t]) ∧ 24 ≤ d1 ∧ AnsS b b1 b2 8 24 24 R L G w' ∧ (∀ k, On b k ∨ On b1 k ∨ On b2 k → w.heap.size ≤ k) ∧ Below w.heap.size w w', fun b d b1 d1 b2 d2 w' h1 h2 h3 h4 => ⟨b, d, b1, d1, b2, d2, rfl, h1, h2, h3, h4⟩, fun _ _ h => h⟩
  refine Calls.mono (R := Q) ?_ HQ2
  clear HQ2
  generalize hw1 : (w.alloc (.cells (stl (some ⟨kb, o, none⟩) 8 c x a1 24 c1 a2 24 c2 t).toArray 42)).alloc (.cells ([.slice none 0 0, .int .i64 0, .bool false, .int .i64 0, .int .i64 0, .int .i64 0, .int .i64 0, .slice none 0 0, .slice none 0 0, .int .i64 0] : List Value).toArray 42) = w1 at H
  have hz1 : w.heap.size + 1 < w1.heap.size := by rw [← hw1]; simp
  go_enter Tryz.func32, Tryz.ntmps32
  go_upto_region 1 with fail
  clear hw1
  have D0 := hid_mk H.out.drew
  refine wp_region_held_drew (S := fun w' => Hold w w' [lenF (w.heap.size + 1) 10, celF w.heap.size (stl (some ⟨kb, o, none⟩) 8 c x a1 24 c1 a2 24 c2 t), argSF w.heap.size (some ⟨kb, o, none⟩) 8 a1 24 a2 24 R L G]) (by kernel_rfl) D0.out (fun hHeld => ?_)
  have hzd : w1.drew.heap.size = w1.heap.size := by simp
  generalize w1.drew = wd at D0 hHeld hzd ⊢
  have hzw : w.heap.size + 1 < wd.heap.size := by omega
  clear hzd H
  refine take_on (i := 1) (d := 4) (v := .pointer (some ⟨w.heap.size, 0, none⟩)) rfl rfl (by kernel_rfl) (by kernel_rfl) (by kernel_rfl) (fun _ _ _ h => h) (by rfl) ?_ hHeld ?_
  · (intro w' hSw; go_simp)
  simp only [Act.put, List.setIfInBounds_toArray, List.set_cons_zero, List.set_cons_succ]
  refine take_on (i := 2) (d := 5) (v := .slice (some ⟨kb, o, none⟩) 8 c) rfl rfl (by kernel_rfl) (by kernel_rfl) (by kernel_rfl) (fun _ _ _ h => h) (by rfl) ?_ hHeld ?_
  · (intro w' hSw; have hSx : Hold w w' [lenF (w.heap.size + 1) 10, celF w.heap.size (stl (some ⟨kb, o, none⟩) 8 c x a1 24 c1 a2 24 c2 t), argSF w.heap.size (some ⟨kb, o, none⟩) 8 a1 24 a2 24 R L G] := hSw; have c0 := (hSx.cel (.tail _ (.head _))).c 0 _ rfl; go_simp)
  simp only [Act.put, List.setIfInBounds_toArray, List.set_cons_zero, List.set_cons_succ]
  refine take_on (i := 4) (d := 7) (v := .pointer (some ⟨w.heap.size, 1, none⟩)) rfl rfl (by kernel_rfl) (by kernel_rfl) (by kernel_rfl) (fun _ _ _ h => h) (by rfl) ?_ hHeld ?_
  · (intro w' hSw; go_simp)
  simp only [Act.put, List.setIfInBounds_toArray, List.set_cons_zero, List.set_cons_succ]
  refine take_on (i := 5) (d := 8) (v := .agg #[.int .i64 x.n, .bool x.i, .int .i64 x.b, .int .i64 x.t, .int .i64 x.p, .int .i64 x.s]) rfl rfl (by kernel_rfl) (by kernel_rfl) (by kernel_rfl) (fun _ _ _ h => h) (by rfl) ?_ hHeld ?_
  · (intro w' hSw; have hSx : Hold w w' [lenF (w.heap.size + 1) 10, celF w.heap.size (stl (some ⟨kb, o, none⟩) 8 c x a1 24 c1 a2 24 c2 t), argSF w.heap.size (some ⟨kb, o, none⟩) 8 a1 24 a2 24 R L G] := hSw; have c0 := (hSx.cel (.tail _ (.head _))).c 1 _ rfl; have c1 := (hSx.cel (.tail _ (.head _))).c 2 _ rfl; have c2 := (hSx.cel (.tail _ (.head _))).c 3 _ rfl; have c3 := (hSx.cel (.tail _ (.head _))).c 4 _ rfl; have c4 := (hSx.cel (.tail _ (.head _))).c 5 _ rfl; have c5 := (hSx.cel (.tail _ (.head _))).c 6 _ rfl; go_simp)
  simp only [Act.put, List.setIfInBounds_toArray, List.set_cons_zero, List.set_cons_succ]
  refine take_on (i := 6) (d := 9) (v := .pointer (some ⟨w.heap.size, 7, none⟩)) rfl rfl (by kernel_rfl) (by kernel_rfl) (by kernel_rfl) (fun _ _ _ h => h) (by rfl) ?_ hHeld ?_
  · (intro w' hSw; go_simp)
  simp only [Act.put, List.setIfInBounds_toArray, List.set_cons_zero, List.set_cons_succ]
  refine take_on (i := 7) (d := 10) (v := .agg #[.slice a1 24 c1, .slice a2 24 c2]) rfl rfl (by kernel_rfl) (by kernel_rfl) (by kernel_rfl) (fun _ _ _ h => h) (by rfl) ?_ hHeld ?_
  · (intro w' hSw; have hSx : Hold w w' [lenF (w.heap.size + 1) 10, celF w.heap.size (stl (some ⟨kb, o, none⟩) 8 c x a1 24 c1 a2 24 c2 t), argSF w.heap.size (some ⟨kb, o, none⟩) 8 a1 24 a2 24 R L G] := hSw; have c0 := (hSx.cel (.tail _ (.head _))).c 7 _ rfl; have c1 := (hSx.cel (.tail _ (.head _))).c 8 _ rfl; go_simp)
  simp only [Act.put, List.setIfInBounds_toArray, List.set_cons_zero, List.set_cons_succ]
  refine take_on (i := 9) (d := 12) (v := .pointer (some ⟨w.heap.size, 9, none⟩)) rfl rfl (by kernel_rfl) (by kernel_rfl) (by kernel_rfl) (fun _ _ _ h => h) (by rfl) ?_ hHeld ?_
  · (intro w' hSw; go_simp)
  simp only [Act.put, List.setIfInBounds_toArray, List.set_cons_zero, List.set_cons_succ]
  refine take_on (i := 10) (d := 13) (v := .int .i64 t) rfl rfl (by kernel_rfl) (by kernel_rfl) (by kernel_rfl) (fun _ _ _ h => h) (by rfl) ?_ hHeld ?_
  · (intro w' hSw; have hSx : Hold w w' [lenF (w.heap.size + 1) 10, celF w.heap.size (stl (some ⟨kb, o, none⟩) 8 c x a1 24 c1 a2 24 c2 t), argSF w.heap.size (some ⟨kb, o, none⟩) 8 a1 24 a2 24 R L G] := hSw; have c0 := (hSx.cel (.tail _ (.head _))).c 9 _ rfl; go_simp)
  simp only [Act.put, List.setIfInBounds_toArray, List.set_cons_zero, List.set_cons_succ]
  refine wpAnyH_ready (rs := [0]) (by kernel_rfl) (by simp) ?_
  refine AllReadyH.cons rfl (fun K hK => ?_) AllReadyH.nil
  go_simp
  have H1 := hid_mk (D0.out.alloc (.cells #[] 38))
  have zwv : wd.heap.size ≤ (wd.alloc (.cells #[] 38)).heap.size := by simp
  refine hK.out _ _ H1.out (fun hHeld => ?_)
  clear hK K
  (try simp only [Act.put]); (try simp only [List.setIfInBounds_toArray]); (try simp only [List.set_cons_succ]); (try simp only [List.set_cons_zero]); (try simp only [List.set_cons_succ]); (try simp only [List.set_cons_zero]); (try simp only [Nat.zero_add])
  generalize wd.alloc (.cells #[] 38) = wv at H1 hHeld zwv ⊢
  refine wpAnyH_ready (rs := [3]) (by kernel_rfl) (by simp) ?_
  refine AllReadyH.cons rfl (fun K hK => ?_) AllReadyH.nil
  refine step_appWd (by rfl) _ _ (by rfl) 6 (by rfl) _ 0 0 [] (by rfl) rfl (fun j u hj => by cases hj) ⟨kb, o, none⟩ 8 c R (by rfl) hlr (H1.out.argS (.tail _ (.tail _ (.head _)))).rs.flat (by omega) (by omega) ?_
  intro g cp wA _ hOA hgA hcA hbA
  have lA := hgA
  have uA := hOA.lt
  have zA := hbA.size
  have H2 := hid_mk ((H1.out.next hbA).push (rowWF (some ⟨g, 0, none⟩) 8 R) (rowW_mk hOA.app_nil hlr))
  clear hbA hOA hgA
  refine hK.out _ _ H2.out.tail (fun hHeld => ?_)
  clear hK K
  (try simp only [Act.put]); (try simp only [List.setIfInBounds_toArray]); (try simp only [List.set_cons_succ]); (try simp only [List.set_cons_zero]); (try simp only [List.set_cons_succ]); (try simp only [List.set_cons_zero]); (try simp only [Nat.zero_add])
  refine wpAnyH_ready (rs := [8]) (by kernel_rfl) (by simp) ?_
  refine AllReadyH.cons rfl (fun K hK => ?_) AllReadyH.nil
  go_simp
  refine (l8Copy_any a1 c1 a2 c2 L G _ (H2.out.argS (.tail _ (.tail _ (.tail _ (.head _))))).mem).mono ?_
  rintro e wC ⟨m1, e1, m2, e2, rfl, he1, hM, hfC, hbC⟩
  have lC := hid_mk hfC
  have uC := hid_mk (fun k hk => hM.lt (k := k) hk)
  have zC := hbC.size
  have H3 := hid_mk ((H2.out.next hbC).push (ansF m1 m2 24 24 L G) hM)
  clear hbC hM hfC
  refine hK.out _ _ H3.out.tail.tail (fun hHeld => ?_)
  clear hK K
  (try simp only [Act.put]); (try simp only [List.setIfInBounds_toArray]); (try simp only [List.set_cons_succ]); (try simp only [List.set_cons_zero]); (try simp only [List.set_cons_succ]); (try simp only [List.set_cons_zero]); (try simp only [Nat.zero_add])
  refine take_on (i := 11) (d := 14) (v := .agg #[.slice (some ⟨g, 0, none⟩) 8 cp, .int .i64 x.n, .bool x.i, .int .i64 x.b, .int .i64 x.t, .int .i64 x.p, .int .i64 x.s, .slice m1 24 e1, .slice m2 24 e2, .int .i64 t]) rfl rfl (by kernel_rfl) (by kernel_rfl) (by kernel_rfl) (fun _ _ _ h => h) (by rfl) ?_ hHeld ?_
  · (intro w' hSw; go_simp)
  (try simp only [Act.put]); (try simp only [List.setIfInBounds_toArray]); (try simp only [List.set_cons_succ]); (try simp only [List.set_cons_zero]); (try simp only [List.set_cons_succ]); (try simp only [List.set_cons_zero]); (try simp only [Nat.zero_add])
  obtain ⟨vs, hvl, CZ⟩ := H3.out.len (.tail _ (.tail _ (.head _)))
  have TH := hid_mk (by have h := CZ.there; rw [hvl] at h; exact h)
  have CE := hid_mk (CZ.sets (us := stl (some ⟨g, 0, none⟩) 8 cp x m1 24 e1 m2 24 e2 t) (by rw [hvl]; rfl))
  have HR : Hid (RowWA wC (some ⟨g, 0, none⟩) 8 R) := H3.out.at (f := rowWF (some ⟨g, 0, none⟩) 8 R) (.tail _ (.head _))
  have HA := hid_mk (H3.out.ans (a := m1) (a' := m2) (.head _))
  have HB := hid_mk H3.out.bel
  clear CZ
  refine wpAnyH_ready (rs := [12]) (by kernel_rfl) (by simp) ?_
  refine AllReadyH.cons rfl (fun K hK => ?_) AllReadyH.nil
  refine step_stm (by rfl) 42 _ _ (by rfl) (w.heap.size + 1) 0 (stl (some ⟨g, 0, none⟩) 8 cp x m1 24 e1 m2 24 e2 t).toArray (by rfl) (by rfl) TH.out sizeSt (stl_one _ _ _ _ _ _ _ _ _ _ _) ?_
  refine hK.out _ _ (RZ.out (stl (some ⟨g, 0, none⟩) 8 cp x m1 24 e1 m2 24 e2 t) _ rfl H3.out.tail.tail) (fun hHeld => ?_)
  clear hK K
  refine wpAnyH_done (by kernel_rfl) ?_ _
  have K9 := hid_mk (KeepBut.setCells (b := w.heap.size + 1) (stl (some ⟨g, 0, none⟩) 8 cp x m1 24 e1 m2 24 e2 t) 0 wC)
  have hlv := hid_mk (lv_st CE.out rfl)
  have q1 : Hid (∀ k, On m1 k ∨ On m2 k → w.heap.size + 1 < k) := fun k hk => by have := lC.out k hk; omega
  have q2 : w.heap.size + 1 < g := by omega
  clear H3 hHeld RZ TH CE
  have HE1 := hid_mk he1
  clear he1
  generalize wC.setCells (w.heap.size + 1) 0 (stl (some ⟨g, 0, none⟩) 8 cp x m1 24 e1 m2 24 e2 t) = w9 at K9 hlv ⊢
  go_wp2
  refine bodyPost_ret (v := .agg (stl (some ⟨g, 0, none⟩) 8 cp x m1 24 e1 m2 24 e2 t).toArray) (results_cell1 Tryz.results32 (by first | rfl | (simp; done)) hlv.out) rfl (HQ.out _ _ _ _ _ _ _ HE1.out ⟨?_, ?_, ?_, ?_, ?_, ?_⟩ ?_ (HB.out.trans (K9.out.below (B := w.heap.size) (by omega) HB.out.size)))
  · exact HR.out.ofBlock K9.out.size fun k hk ho => K9.out.block k hk (by have := (on_some g k).1 ho; omega)
  · exact HA.out.ws.ofBlock K9.out.size fun k hk ho => K9.out.block k hk (by have := q1.out k (.inl ho); omega)
  · exact HA.out.gs.ofBlock K9.out.size fun k hk ho => K9.out.block k hk (by have := q1.out k (.inr ho); omega)
  · exact fun k h1 h2 => by have := (on_some g k).1 h1; have := lC.out k (.inl h2); have := uC.out k (.inl h2); omega
  · exact fun k h1 h2 => by have := (on_some g k).1 h1; have := lC.out k (.inr h2); have := uC.out k (.inr h2); omega
  · exact HA.out.ne
  · rintro k (hk | hk | hk)
    · have := (on_some g k).1 hk; omega
    · have := q1.out k (.inl hk); omega
    · have := q1.out k (.inr hk); omega
theorem wpList_appG {ops : Array Oper} {rest : List Oper} {o : Oper} {a : Act} {w : World} {Q : Exit → Act → World → Prop} (hgd : o.guard = none) (s x : Operand)
    (ho : o.op = .call { callee := .builtin .append, args := #[s, x], argTypes := #[35, 35] })
    (b : Addr) (n cap : Nat) (X : List Wd) (hs : a.eval s = .slice (some b) n cap) (hX : X.length = n) (holds : ∀ j u, (X.flatMap Wd.vs)[j]? = some u → w.cell? (b.add j) = some u)
    (ad : Addr) (m c : Nat) (Y : List Wd) (hx : a.eval x = .slice (some ad) m c) (hY : Y.length = m) (hc : ∀ j u, (Y.flatMap Wd.vs)[j]? = some u → w.cell? (ad.add j) = some u) (hfull : cap < n + m) (hb : n + m ≤ 1048576)
    (h : ∀ g cp w', OutW w' g (n + m) (n + m) (X ++ Y) → w.heap.size ≤ g → n + m ≤ cp → Below w.heap.size w w' → wpList Tryz.prog ops Q rest (a.put o.dst (.slice (some ⟨g, 0, none⟩) (n + m) cp)) w') :
    wpList Tryz.prog ops Q (o :: rest) a w := by
  obtain ⟨i, hi, hz0, hz1, hz2⟩ := info_parts infoW
  refine wpList_append_grows w hgd s x _ ho 38 i _ 6 48 Tryz.underlying35 hi hz0 hz1 hz2 rfl (by decide) (some b) n cap (X.flatMap Wd.vs) hs (fun e => by cases e) (by rw [flatW_len, hX]) (fun b' e => by cases e; exact holds) ad m c (Y.flatMap Wd.vs) hx (by rw [flatW_len, hY]) hc (flatW_one Y) hfull (by unfold maxLen; omega) (by omega) ?_
  intro v' w' hown hgrow
  have hl : (X ++ Y).length = n + m := by rw [List.length_append, hX, hY]
  rw [← List.flatMap_append, ← hl] at hown
  obtain ⟨g, cp, rfl, hg, hcp, hO⟩ := own_outW hown (by omega)
  rw [hl] at hO hcp hown ⊢
  exact h g cp w' hO hg hcp ((Below.refl _ _).grown hgrow (Nat.le_refl _) fun k hk => by cases hk)

set_option maxHeartbeats 1000000 in
theorem clone_any (kb o n c : Nat) (R : List Wd) (h0 : 0 < n) (hn : n ≤ 1048576) (w : World) (hS : SliceW w.heap.size w (some ⟨kb, o, none⟩) n R) :
    Calls Tryz.prog 101 #[.slice (some ⟨kb, o, none⟩) n c] w fun e w' => ∃ g cp, e = .returned (.slice (some ⟨g, 0, none⟩) n cp) ∧ RowWA w' (some ⟨g, 0, none⟩) n R ∧ w.heap.size ≤ g ∧ Below w.heap.size w w' := by
  have hlr := hid_mk hS.2.1
  have S := hid_mk hS
  clear hS
  have hnil : ∀ W, (binOp .eql 35 (.slice (some ⟨kb, o, none⟩) n c) (.slice none 0 0)).run Tryz.prog W = .ok (.bool false) W := fun W => Lib.run_eql_slice_some_nil W _ _ _ Tryz.underlying35
  go_enter Tryz.func101, Tryz.ntmps101
  go_upto_region 3 with fail
  have S2 := hid_mk ((S.out.keep ((Below.refl w.heap.size w).alloc (Nat.le_refl _) (.cells #[] 38))).mono (show w.heap.size ≤ (w.alloc (.cells #[] 38)).heap.size by simp)).flat
  go_wp2_with (at_builtin; refine wpList_appG rfl _ _ rfl _ 0 0 [] rfl rfl (fun j u hj => by cases hj) ⟨kb, o, none⟩ n c R rfl hlr.out S2.out (by omega) (by omega) ?_; intro g cp w' hO hg hcp hb)
  go_wp2
  go_ret
  rw [World.size_alloc] at hg
  refine ⟨g, cp, rfl, rowW_mk hO.app_nil hlr.out, by omega, ((Below.refl w.heap.size w).alloc (Nat.le_refl _) (.cells #[] 38)).trans (hb.mono (by simp))⟩

set_option maxHeartbeats 1000000 in
theorem stateAsItWas_any (a : Option Addr) (c : Nat) (x : Wd) (a1 : Option Addr) (c1 : Nat) (a2 : Option Addr) (c2 : Nat) (t : Int) (R L : List Wd) (G : List Bool) (w : World) (hS : StS w a 8 a1 24 a2 24 R L G) :
    Calls Tryz.prog 53 #[.agg #[.slice a 8 c, .int .i64 x.n, .bool x.i, .int .i64 x.b, .int .i64 x.t, .int .i64 x.p, .int .i64 x.s, .slice a1 24 c1, .slice a2 24 c2, .int .i64 t]] w fun e w' => ∃ b d b1 d1 b2 d2, e = .returned (.agg #[.slice b 8 d, .int .i64 x.n, .bool x.i, .int .i64 x.b, .int .i64 x.t, .int .i64 x.p, .int .i64 x.s, .slice b1 24 d1, .slice b2 24 d2, .int .i64 t]) ∧ 24 ≤ d1 ∧ AnsS b b1 b2 8 24 24 R L G w' ∧ (∀ k, On b k ∨ On b1 k ∨ On b2 k → w.heap.size ≤ k) ∧ Below w.heap.size w w' := by
  obtain ⟨kb, o, _, rfl, _, _, _⟩ := hS.rs.at (j := 0) (by omega)
  have H : Hid (Hold w ((w.alloc (.cells (stl (some ⟨kb, o, none⟩) 8 c x a1 24 c1 a2 24 c2 t).toArray 42)).alloc (.cells ([.slice none 0 0, .int .i64 0, .bool false, .int .i64 0, .int .i64 0, .int .i64 0, .int .i64 0, .slice none 0 0, .slice none 0 0, .int .i64 0] : List Value).toArray 42)) [lenF (w.heap.size + 1) 10, celF w.heap.size (stl (some ⟨kb, o, none⟩) 8 c x a1 24 c1 a2 24 c2 t), argSF w.heap.size (some ⟨kb, o, none⟩) 8 a1 24 a2 24 R L G]) := by
    have h1 := (((Hold.new w).push (argSF w.heap.size (some ⟨kb, o, none⟩) 8 a1 24 a2 24 R L G) hS.arg).alloc (.cells (stl (some ⟨kb, o, none⟩) 8 c x a1 24 c1 a2 24 c2 t).toArray 42)).push (celF w.heap.size (stl (some ⟨kb, o, none⟩) 8 c x a1 24 c1 a2 24 c2 t)) (Cel.new w _ _)
    have g2 := Cel.new (w.alloc (.cells (stl (some ⟨kb, o, none⟩) 8 c x a1 24 c1 a2 24 c2 t).toArray 42)) [.slice none 0 0, .int .i64 0, .bool false, .int .i64 0, .int .i64 0, .int .i64 0, .int .i64 0, .slice none 0 0, .slice none 0 0, .int .i64 0] 42
    rw [World.size_alloc] at g2
    exact (h1.alloc (.cells ([.slice none 0 0, .int .i64 0, .bool false, .int .i64 0, .int .i64 0, .int .i64 0, .int .i64 0, .slice none 0 0, .slice none 0 0, .int .i64 0] : List Value).toArray 42)).push (lenF (w.heap.size + 1) 10) ⟨_, rfl, g2⟩
  clear hS
  have RZ : Hid (∀ (us : List Value) (w1 : World), us.length = 10 → Hold w w1 [lenF (w.heap.size + 1) 10, celF w.heap.size (stl (some ⟨kb, o, none⟩) 8 c x a1 24 c1 a2 24 c2 t), argSF w.heap.size (some ⟨kb, o, none⟩) 8 a1 24 a2 24 R L G] → Hold w (w1.setCells (w.heap.size + 1) 0 us) [lenF (w.heap.size + 1) 10, celF w.heap.size (stl (some ⟨kb, o, none⟩) 8 c x a1 24 c1 a2 24 c2 t), argSF w.heap.size (some ⟨kb, o, none⟩) 8 a1 24 a2 24 R L G]) := fun us w1 hl h => h.sets_len us (by omega) (fun f hf k hk => by
    simp only [List.mem_cons, List.not_mem_nil, or_false] at hf
    rcases hf with rfl | rfl
    · simp only [celF] at hk; omega
    · simp only [argSF] at hk; omega) hl
  obtain ⟨Q, HQ, HQ2⟩ : ∃ Q : Ending → World → Prop, Hid (∀ b d b1 d1 b2 d2 w', 24 ≤ d1 → AnsS b b1 b2 8 24 24 R L G w' → (∀ k, On b k ∨ On b1 k ∨ On b2 k → w.heap.size ≤ k) → Below w.heap.size w w' → Q (.returned (.agg #[.slice b 8 d, .int .i64 x.n, .bool x.i, .int .i64 x.b, .int .i64 x.t, .int .i64 x.p, .int .i64 x.s, .slice b1 24 d1, .slice b2 24 d2, .int .i64 t])) w') ∧ (∀ e w', Q e w' → ∃ b d b1 d1 b2 d2, e = .returned (.agg #[.slice b 8 d, .int .i64 x.n, .bool x.i, .int .i64 x.b, .int .i64 x.t, .int .i64 x.p, .int .i64 x.s, .slice b1 24 d1, .slice b2 24 d2, .int .i64 t]) ∧ 24 ≤ d1 ∧ AnsS b b1 b2 8 24 24 R L G w' ∧ (∀ k, On b k ∨ On b1 k ∨ On b2 k → w.heap.size ≤ k) ∧ Below w.heap.size w w') :=
    ⟨fun e w' => ∃ b d b1 d1 b2 d2, e = .returned (.agg #[.slice b 8 d, .int .i64 x.n, .bool x.i, .int .i64 x.b, .int .i64 x.t, .int .i64 x.p, .int .i64 x.s, .slice b1 24 d1, .slice b2 24 d2, .int .i64 t]) ∧ 24 ≤ d1 ∧ AnsS b b1 b2 8 24 24 R L G w' ∧ (∀ k, On b k ∨ On b1 k ∨ On b2 k → w.heap.size ≤ k) ∧ Below w.heap.size w w', fun b d b1 d1 b2 d2 w' h1 h2 h3 h4 => ⟨b, d, b1, d1, b2, d2, rfl, h1, h2, h3, h4⟩, fun _ _ h => h⟩
  refine Calls.mono (R := Q) ?_ HQ2
  clear HQ2
  generalize hw1 : (w.alloc (.cells (stl (some ⟨kb, o, none⟩) 8 c x a1 24 c1 a2 24 c2 t).toArray 42)).alloc (.cells ([.slice none 0 0, .int .i64 0, .bool false, .int .i64 0, .int .i64 0, .int .i64 0, .int .i64 0, .slice none 0 0, .slice none 0 0, .int .i64 0] : List Value).toArray 42) = w1 at H
  have hz1 : w.heap.size + 1 < w1.heap.size := by rw [← hw1]; simp
  go_enter Tryz.func53, Tryz.ntmps53
  go_upto_region 1 with fail
  clear hw1
  have D0 := hid_mk H.out.drew
  refine wp_region_held_drew (S := fun w' => Hold w w' [lenF (w.heap.size + 1) 10, celF w.heap.size (stl (some ⟨kb, o, none⟩) 8 c x a1 24 c1 a2 24 c2 t), argSF w.heap.size (some ⟨kb, o, none⟩) 8 a1 24 a2 24 R L G]) (by kernel_rfl) D0.out (fun hHeld => ?_)
  have hzd : w1.drew.heap.size = w1.heap.size := by simp
  generalize w1.drew = wd at D0 hHeld hzd ⊢
  have hzw : w.heap.size + 1 < wd.heap.size := by omega
  clear hzd H
  refine take_on (i := 0) (d := 3) (v := .pointer (some ⟨w.heap.size, 0, none⟩)) rfl rfl (by kernel_rfl) (by kernel_rfl) (by kernel_rfl) (fun _ _ _ h => h) (by rfl) ?_ hHeld ?_
  · (intro w' hSw; go_simp)
  simp only [Act.put, List.setIfInBounds_toArray, List.set_cons_zero, List.set_cons_succ]
  refine take_on (i := 1) (d := 4) (v := .slice (some ⟨kb, o, none⟩) 8 c) rfl rfl (by kernel_rfl) (by kernel_rfl) (by kernel_rfl) (fun _ _ _ h => h) (by rfl) ?_ hHeld ?_
  · (intro w' hSw; have hSx : Hold w w' [lenF (w.heap.size + 1) 10, celF w.heap.size (stl (some ⟨kb, o, none⟩) 8 c x a1 24 c1 a2 24 c2 t), argSF w.heap.size (some ⟨kb, o, none⟩) 8 a1 24 a2 24 R L G] := hSw; have c0 := (hSx.cel (.tail _ (.head _))).c 0 _ rfl; go_simp)
  simp only [Act.put, List.setIfInBounds_toArray, List.set_cons_zero, List.set_cons_succ]
  refine take_on (i := 3) (d := 6) (v := .pointer (some ⟨w.heap.size, 1, none⟩)) rfl rfl (by kernel_rfl) (by kernel_rfl) (by kernel_rfl) (fun _ _ _ h => h) (by rfl) ?_ hHeld ?_
  · (intro w' hSw; go_simp)
  simp only [Act.put, List.setIfInBounds_toArray, List.set_cons_zero, List.set_cons_succ]
  refine take_on (i := 4) (d := 7) (v := .agg #[.int .i64 x.n, .bool x.i, .int .i64 x.b, .int .i64 x.t, .int .i64 x.p, .int .i64 x.s]) rfl rfl (by kernel_rfl) (by kernel_rfl) (by kernel_rfl) (fun _ _ _ h => h) (by rfl) ?_ hHeld ?_
  · (intro w' hSw; have hSx : Hold w w' [lenF (w.heap.size + 1) 10, celF w.heap.size (stl (some ⟨kb, o, none⟩) 8 c x a1 24 c1 a2 24 c2 t), argSF w.heap.size (some ⟨kb, o, none⟩) 8 a1 24 a2 24 R L G] := hSw; have c0 := (hSx.cel (.tail _ (.head _))).c 1 _ rfl; have c1 := (hSx.cel (.tail _ (.head _))).c 2 _ rfl; have c2 := (hSx.cel (.tail _ (.head _))).c 3 _ rfl; have c3 := (hSx.cel (.tail _ (.head _))).c 4 _ rfl; have c4 := (hSx.cel (.tail _ (.head _))).c 5 _ rfl; have c5 := (hSx.cel (.tail _ (.head _))).c 6 _ rfl; go_simp)
  simp only [Act.put, List.setIfInBounds_toArray, List.set_cons_zero, List.set_cons_succ]
  refine take_on (i := 5) (d := 8) (v := .pointer (some ⟨w.heap.size, 7, none⟩)) rfl rfl (by kernel_rfl) (by kernel_rfl) (by kernel_rfl) (fun _ _ _ h => h) (by rfl) ?_ hHeld ?_
  · (intro w' hSw; go_simp)
  simp only [Act.put, List.setIfInBounds_toArray, List.set_cons_zero, List.set_cons_succ]
  refine take_on (i := 6) (d := 9) (v := .agg #[.slice a1 24 c1, .slice a2 24 c2]) rfl rfl (by kernel_rfl) (by kernel_rfl) (by kernel_rfl) (fun _ _ _ h => h) (by rfl) ?_ hHeld ?_
  · (intro w' hSw; have hSx : Hold w w' [lenF (w.heap.size + 1) 10, celF w.heap.size (stl (some ⟨kb, o, none⟩) 8 c x a1 24 c1 a2 24 c2 t), argSF w.heap.size (some ⟨kb, o, none⟩) 8 a1 24 a2 24 R L G] := hSw; have c0 := (hSx.cel (.tail _ (.head _))).c 7 _ rfl; have c1 := (hSx.cel (.tail _ (.head _))).c 8 _ rfl; go_simp)
  simp only [Act.put, List.setIfInBounds_toArray, List.set_cons_zero, List.set_cons_succ]
  refine take_on (i := 8) (d := 11) (v := .pointer (some ⟨w.heap.size, 9, none⟩)) rfl rfl (by kernel_rfl) (by kernel_rfl) (by kernel_rfl) (fun _ _ _ h => h) (by rfl) ?_ hHeld ?_
  · (intro w' hSw; go_simp)
  simp only [Act.put, List.setIfInBounds_toArray, List.set_cons_zero, List.set_cons_succ]
  refine take_on (i := 9) (d := 12) (v := .int .i64 t) rfl rfl (by kernel_rfl) (by kernel_rfl) (by kernel_rfl) (fun _ _ _ h => h) (by rfl) ?_ hHeld ?_
  · (intro w' hSw; have hSx : Hold w w' [lenF (w.heap.size + 1) 10, celF w.heap.size (stl (some ⟨kb, o, none⟩) 8 c x a1 24 c1 a2 24 c2 t), argSF w.heap.size (some ⟨kb, o, none⟩) 8 a1 24 a2 24 R L G] := hSw; have c0 := (hSx.cel (.tail _ (.head _))).c 9 _ rfl; go_simp)
  simp only [Act.put, List.setIfInBounds_toArray, List.set_cons_zero, List.set_cons_succ]
  refine wpAnyH_ready (rs := [2]) (by kernel_rfl) (by simp) ?_
  refine AllReadyH.cons rfl (fun K hK => ?_) AllReadyH.nil
  go_simp
  refine (clone_any kb o 8 c R (by omega) (by omega) _ (D0.out.argS (.tail _ (.tail _ (.head _)))).rs).mono ?_
  rintro e wA ⟨g, cp, rfl, hOA, lA, hbA⟩
  have uA := hOA.lt ((on_some g g).2 rfl)
  have zA := hbA.size
  have H2 := hid_mk ((D0.out.next hbA).push (rowWF (some ⟨g, 0, none⟩) 8 R) hOA)
  clear hbA hOA
  refine hK.out _ _ H2.out.tail (fun hHeld => ?_)
  clear hK K
  (try simp only [Act.put]); (try simp only [List.setIfInBounds_toArray]); (try simp only [List.set_cons_succ]); (try simp only [List.set_cons_zero]); (try simp only [List.set_cons_succ]); (try simp only [List.set_cons_zero]); (try simp only [Nat.zero_add])
  refine wpAnyH_ready (rs := [7]) (by kernel_rfl) (by simp) ?_
  refine AllReadyH.cons rfl (fun K hK => ?_) AllReadyH.nil
  go_simp
  refine (asItWas_any a1 c1 a2 c2 L G _ (H2.out.argS (.tail _ (.tail _ (.tail _ (.head _))))).mem).mono ?_
  rintro e wC ⟨m1, e1, m2, rfl, he1, hM, hfC, hbC⟩
  have lC := hid_mk hfC
  have uC := hid_mk (fun k hk => hM.lt (k := k) hk)
  have zC := hbC.size
  have H3 := hid_mk ((H2.out.next hbC).push (ansF m1 m2 24 24 L G) hM)
  clear hbC hM hfC
  refine hK.out _ _ H3.out.tail.tail (fun hHeld => ?_)
  clear hK K
  (try simp only [Act.put]); (try simp only [List.setIfInBounds_toArray]); (try simp only [List.set_cons_succ]); (try simp only [List.set_cons_zero]); (try simp only [List.set_cons_succ]); (try simp only [List.set_cons_zero]); (try simp only [Nat.zero_add])
  refine take_on (i := 10) (d := 13) (v := .agg #[.slice (some ⟨g, 0, none⟩) 8 cp, .int .i64 x.n, .bool x.i, .int .i64 x.b, .int .i64 x.t, .int .i64 x.p, .int .i64 x.s, .slice m1 24 e1, .slice m2 24 24, .int .i64 t]) rfl rfl (by kernel_rfl) (by kernel_rfl) (by kernel_rfl) (fun _ _ _ h => h) (by rfl) ?_ hHeld ?_
  · (intro w' hSw; go_simp)
  (try simp only [Act.put]); (try simp only [List.setIfInBounds_toArray]); (try simp only [List.set_cons_succ]); (try simp only [List.set_cons_zero]); (try simp only [List.set_cons_succ]); (try simp only [List.set_cons_zero]); (try simp only [Nat.zero_add])
  obtain ⟨vs, hvl, CZ⟩ := H3.out.len (.tail _ (.tail _ (.head _)))
  have TH := hid_mk (by have h := CZ.there; rw [hvl] at h; exact h)
  have CE := hid_mk (CZ.sets (us := stl (some ⟨g, 0, none⟩) 8 cp x m1 24 e1 m2 24 24 t) (by rw [hvl]; rfl))
  have HR : Hid (RowWA wC (some ⟨g, 0, none⟩) 8 R) := H3.out.at (f := rowWF (some ⟨g, 0, none⟩) 8 R) (.tail _ (.head _))
  have HA := hid_mk (H3.out.ans (a := m1) (a' := m2) (.head _))
  have HB := hid_mk H3.out.bel
  clear CZ
  refine wpAnyH_ready (rs := [11]) (by kernel_rfl) (by simp) ?_
  refine AllReadyH.cons rfl (fun K hK => ?_) AllReadyH.nil
  refine step_stm (by rfl) 42 _ _ (by rfl) (w.heap.size + 1) 0 (stl (some ⟨g, 0, none⟩) 8 cp x m1 24 e1 m2 24 24 t).toArray (by rfl) (by rfl) TH.out sizeSt (stl_one _ _ _ _ _ _ _ _ _ _ _) ?_
  refine hK.out _ _ (RZ.out (stl (some ⟨g, 0, none⟩) 8 cp x m1 24 e1 m2 24 24 t) _ rfl H3.out.tail.tail) (fun hHeld => ?_)
  clear hK K
  refine wpAnyH_done (by kernel_rfl) ?_ _
  have K9 := hid_mk (KeepBut.setCells (b := w.heap.size + 1) (stl (some ⟨g, 0, none⟩) 8 cp x m1 24 e1 m2 24 24 t) 0 wC)
  have hlv := hid_mk (lv_st CE.out rfl)
  have q1 : Hid (∀ k, On m1 k ∨ On m2 k → w.heap.size + 1 < k) := fun k hk => by have := lC.out k hk; omega
  have q2 : w.heap.size + 1 < g := by omega
  clear H3 hHeld RZ TH CE
  have HE1 := hid_mk he1
  clear he1
  generalize wC.setCells (w.heap.size + 1) 0 (stl (some ⟨g, 0, none⟩) 8 cp x m1 24 e1 m2 24 24 t) = w9 at K9 hlv ⊢
  go_wp2
  refine bodyPost_ret (v := .agg (stl (some ⟨g, 0, none⟩) 8 cp x m1 24 e1 m2 24 24 t).toArray) (results_cell1 Tryz.results53 (by first | rfl | (simp; done)) hlv.out) rfl (HQ.out _ _ _ _ _ _ _ HE1.out ⟨?_, ?_, ?_, ?_, ?_, ?_⟩ ?_ (HB.out.trans (K9.out.below (B := w.heap.size) (by omega) HB.out.size)))
  · exact HR.out.ofBlock K9.out.size fun k hk ho => K9.out.block k hk (by have := (on_some g k).1 ho; omega)
  · exact HA.out.ws.ofBlock K9.out.size fun k hk ho => K9.out.block k hk (by have := q1.out k (.inl ho); omega)
  · exact HA.out.gs.ofBlock K9.out.size fun k hk ho => K9.out.block k hk (by have := q1.out k (.inr ho); omega)
  · exact fun k h1 h2 => by have := (on_some g k).1 h1; have := lC.out k (.inl h2); omega
  · exact fun k h1 h2 => by have := (on_some g k).1 h1; have := lC.out k (.inr h2); omega
  · exact HA.out.ne
  · rintro k (hk | hk | hk)
    · have := (on_some g k).1 hk; omega
    · have := q1.out k (.inl hk); omega
    · have := q1.out k (.inr hk); omega
end Go.Proofs.YtpkhnajhamnggaaGreatDoor
