/- Closed of the specification at all states; all words of a list under those of another. No condition but that there are no more words than a list of the laws may have, and that a slice that is nil has no room. -/
import Derived.Test.YtfeoaegkhbjaeaaKysD
namespace Go.Proofs.Ytfeoaegkhbjaeaa
open Go.ChangeShapes Go.WideShapes Go.ChangeAt Go.RowKit
set_option maxRecDepth 100000

theorem all_take {M : List Wd} {f : Wd → Bool} {k : Nat} {x : Wd} (h : M[k]? = some x) (h0 : (M.take k).all f = true) (h1 : f x = true) : (M.take (k + 1)).all f = true := by
  rw [List.take_add_one, h]
  simp only [Option.toList_some, List.all_append, h0, Bool.true_and]
  simp [h1]
theorem all_at {M : List Wd} {f : Wd → Bool} {k : Nat} {x : Wd} (h : M[k]? = some x) (h1 : f x = false) : M.all f = false := by
  rw [List.all_eq_false]
  exact ⟨x, List.mem_of_getElem? h, by simp [h1]⟩
theorem all_whole {M : List Wd} {f : Wd → Bool} {k : Nat} (h : M.length ≤ k) (h0 : (M.take k).all f = true) : M.all f = true := by
  rwa [List.take_of_length_le h] at h0

set_option maxHeartbeats 4000000 in
theorem l10Under_any (a : Option Addr) (n c : Nat) (M : List Wd) (b : Option Addr) (m d : Nat) (K : List Wd) (w : World) (hM : SliceW w.heap.size w a n M) (hK : SliceW w.heap.size w b m K) :
    Calls Try.prog 50 #[.slice a n c, .slice b m d] w fun e w' => e = .returned (.bool (M.all (undY K))) ∧ Below w.heap.size w w' := by
  have SM := hid_mk hM
  have SK := hid_mk hK
  have hml := hM.2.1
  have hmx := hM.1
  unfold maxLen at hmx
  obtain ⟨z, Z⟩ : ∃ z, Hid (z = M.all (undY K)) := ⟨_, rfl⟩
  rw [← Z.out]
  clear hM hK
  go_enter Try.func50, Try.ntmps50
  go_wp2
  go_loopw [5] (fun iv wr => ∃ k : Nat, k ≤ n ∧ iv = .int .i64 (k : Int) ∧ Hid ((M.take k).all (undY K) = true) ∧ Hid (Below w.heap.size w wr)) (fun iv _ => n - (intOf iv).toNat)
  case atStart => exact ⟨0, Nat.zero_le _, rfl, by simp [Hid], Below.refl _ _⟩
  case round =>
    obtain ⟨k, hk, rfl, AA, BB⟩ := hrel
    have hsB := BB.out.size
    by_cases hlt : k < n
    · obtain ⟨kb, o, e, rfl, hkb, hy, hat⟩ := (SM.out.keep BB.out).at hlt
      obtain ⟨d0, d1, d2, d3, d4, d5⟩ := hat
      have s2 := specUnders_any e.n e.i e.b e.t e.p e.s b m d K wr ((SK.out.keep BB.out).mono hsB)
      have HY := hid_mk hy
      cases hv : undY K e with
      | true =>
        rw [show undB e.i e.b e.t e.p e.s K = true from hv] at s2
        have S2 := hid_mk s2
        have HV := hid_mk hv
        clear s2 hy hv
        go_wp2_with (go_at_call 62; refine S2.out.mono ?_; rintro e2 w2 ⟨rfl, hb⟩; refine Hid.out ?_)
        refine Lib.hid ?_
        have B2 := hid_mk (BB.out.trans (hb.mono hsB))
        clear hb d0 d1 d2 d3 d4 d5
        go_wp2
        go_roundw
        case rel => exact ⟨k + 1, hlt, by simp, all_take HY.out AA.out HV.out, B2⟩
        case measure => simp [intOf]; omega
      | false =>
        rw [show undB e.i e.b e.t e.p e.s K = false from hv] at s2
        have S2 := hid_mk s2
        have hz : z = false := by rw [Z.out]; exact all_at hy hv
        subst hz
        clear s2 hy hv
        go_wp2_with (go_at_call 62; refine S2.out.mono ?_; rintro e2 w2 ⟨rfl, hb⟩; refine Hid.out ?_)
        refine Lib.hid ?_
        have B2 := hid_mk (BB.out.trans (hb.mono hsB))
        clear hb d0 d1 d2 d3 d4 d5
        go_wp2
        go_ret
        exact ⟨rfl, B2.out⟩
    · have hz : z = true := by rw [Z.out]; exact all_whole (k := k) (by omega) AA.out
      subst hz
      go_wp2
      go_ret
      exact ⟨rfl, BB.out⟩

set_option maxHeartbeats 8000000 in
theorem specClosed_any (a : Option Addr) (n c : Nat) (x : Wd) (a1 : Option Addr) (n1 c1 : Nat) (a2 : Option Addr) (n2 c2 : Nat) (t : Int) (R L : List Wd) (G : List Bool) (b : Option Addr) (m d : Nat) (y : Wd) (b1 : Option Addr) (m1 d1 : Nat) (b2 : Option Addr) (m2 d2 : Nat) (u : Int) (R' L' : List Wd) (G' : List Bool) (w : World)
    (hc : a = none → c = 0) (hc1 : a1 = none → c1 = 0) (hd : b = none → d = 0) (hd1 : b1 = none → d1 = 0) (hn : n + 1 + n1 ≤ 2097153) (hm : m + 1 + m1 ≤ 2097153) (hS : StS w a n a1 n1 a2 n2 R L G) (hT : StS w b m b1 m1 b2 m2 R' L' G') :
    Calls Try.prog 24 #[.agg #[.slice a n c, .int .i64 x.n, .bool x.i, .int .i64 x.b, .int .i64 x.t, .int .i64 x.p, .int .i64 x.s, .slice a1 n1 c1, .slice a2 n2 c2, .int .i64 t], .agg #[.slice b m d, .int .i64 y.n, .bool y.i, .int .i64 y.b, .int .i64 y.t, .int .i64 y.p, .int .i64 y.s, .slice b1 m1 d1, .slice b2 m2 d2, .int .i64 u]] w fun e w' => e = .returned (.bool (clsB R x L G t R' y L' G' u)) ∧ Below w.heap.size w w' := by
  have H : Hid (Hold w ((w.alloc (.cells (stl a n c x a1 n1 c1 a2 n2 c2 t).toArray 49)).alloc (.cells (stl b m d y b1 m1 d1 b2 m2 d2 u).toArray 49)) [celF (w.heap.size + 1) (stl b m d y b1 m1 d1 b2 m2 d2 u), celF w.heap.size (stl a n c x a1 n1 c1 a2 n2 c2 t)]) := by
    have h1 := ((Hold.new w).alloc (.cells (stl a n c x a1 n1 c1 a2 n2 c2 t).toArray 49)).push (celF w.heap.size (stl a n c x a1 n1 c1 a2 n2 c2 t)) (Cel.new w _ _)
    have g2 := Cel.new (w.alloc (.cells (stl a n c x a1 n1 c1 a2 n2 c2 t).toArray 49)) (stl b m d y b1 m1 d1 b2 m2 d2 u) 49
    rw [World.size_alloc] at g2
    exact (h1.alloc (.cells (stl b m d y b1 m1 d1 b2 m2 d2 u).toArray 49)).push (celF (w.heap.size + 1) (stl b m d y b1 m1 d1 b2 m2 d2 u)) g2
  obtain ⟨z, Z⟩ : ∃ z, Hid (z = clsB R x L G t R' y L' G' u) := ⟨_, rfl⟩
  rw [← Z.out]
  have I1 : Hid (∀ w2, Below w.heap.size w w2 → Calls Try.prog 20 #[.agg #[.slice a n c, .int .i64 x.n, .bool x.i, .int .i64 x.b, .int .i64 x.t, .int .i64 x.p, .int .i64 x.s, .slice a1 n1 c1, .slice a2 n2 c2, .int .i64 t]] w2 fun e w' => e = .returned (.bool (sokB R x L G t)) ∧ Below w2.heap.size w2 w') := fun w2 hb => specStateOk_any a n c x a1 n1 c1 a2 n2 c2 t R L G w2 (hS.below hb)
  have I2 : Hid (∀ w2, Below w.heap.size w w2 → Calls Try.prog 20 #[.agg #[.slice b m d, .int .i64 y.n, .bool y.i, .int .i64 y.b, .int .i64 y.t, .int .i64 y.p, .int .i64 y.s, .slice b1 m1 d1, .slice b2 m2 d2, .int .i64 u]] w2 fun e w' => e = .returned (.bool (sokB R' y L' G' u)) ∧ Below w2.heap.size w2 w') := fun w2 hb => specStateOk_any b m d y b1 m1 d1 b2 m2 d2 u R' L' G' w2 (hT.below hb)
  have K1 : Hid (∀ w2, Below w.heap.size w w2 → Calls Try.prog 51 #[.agg #[.slice a n c, .int .i64 x.n, .bool x.i, .int .i64 x.b, .int .i64 x.t, .int .i64 x.p, .int .i64 x.s, .slice a1 n1 c1, .slice a2 n2 c2, .int .i64 t]] w2 fun e w' => ∃ bs ds, e = .returned (.slice bs (keyL R x L).length ds) ∧ SliceW w'.heap.size w' bs (keyL R x L).length (keyL R x L) ∧ Below w2.heap.size w2 w') := fun w2 hb => by
    refine (specKeys_any a n c x a1 n1 c1 a2 n2 c2 t R L G w2 hc hc1 hn (hS.below hb)).mono ?_
    rintro e w' ⟨bs, ds, rfl, hr, _, hb2⟩
    refine ⟨bs, ds, rfl, hr.sliceX (Nat.le_trans (List.length_filter_le _ _) ?_), hb2⟩
    rw [List.length_append, List.length_append, hS.rs.2.1, hS.mem.ws.2.1]
    simp
    omega
  have K2 : Hid (∀ w2, Below w.heap.size w w2 → Calls Try.prog 51 #[.agg #[.slice b m d, .int .i64 y.n, .bool y.i, .int .i64 y.b, .int .i64 y.t, .int .i64 y.p, .int .i64 y.s, .slice b1 m1 d1, .slice b2 m2 d2, .int .i64 u]] w2 fun e w' => ∃ bt dt, e = .returned (.slice bt (keyL R' y L').length dt) ∧ SliceW w'.heap.size w' bt (keyL R' y L').length (keyL R' y L') ∧ Below w2.heap.size w2 w') := fun w2 hb => by
    refine (specKeys_any b m d y b1 m1 d1 b2 m2 d2 u R' L' G' w2 hd hd1 hm (hT.below hb)).mono ?_
    rintro e w' ⟨bs, ds, rfl, hr, _, hb2⟩
    refine ⟨bs, ds, rfl, hr.sliceX (Nat.le_trans (List.length_filter_le _ _) ?_), hb2⟩
    rw [List.length_append, List.length_append, hT.rs.2.1, hT.mem.ws.2.1]
    simp
    omega
  unfold clsB at Z
  clear hc hc1 hd hd1 hn hm hS hT
  generalize hw1 : (w.alloc (.cells (stl a n c x a1 n1 c1 a2 n2 c2 t).toArray 49)).alloc (.cells (stl b m d y b1 m1 d1 b2 m2 d2 u).toArray 49) = w1 at H
  go_enter Try.func24, Try.ntmps24
  go_upto_region 1 with fail
  clear hw1
  have D0 := hid_mk H.out.drew
  have hu : undef = Value.tuple #[] := rfl
  obtain ⟨p0, p1, p2, p3, p4, p5, p6, p7, p8, p9⟩ := (D0.out.cel (.tail _ (.head _))).c10
  obtain ⟨q0, q1, q2, q3, q4, q5, q6, q7, q8, q9⟩ := (D0.out.cel (.head _)).c10
  cases h1 : sokB R x L G t with
  | false =>
    have hz : z = false := by rw [Z.out, h1]; rfl
    subst hz
    have i1 := I1.out w1.drew D0.out.bel
    rw [h1] at i1
    have J1 := hid_mk i1
    clear i1 I1 I2 K1 K2
    go_region_with (first | (go_at_call 20; refine J1.out.mono ?_; rintro e w2 ⟨rfl, hb⟩; have B2 := hid_mk (D0.out.next hb).bel; clear hb) | fail)
    all_goals
      go_wp2_with fail
      go_ret
      exact ⟨rfl, B2.out⟩
  | true =>
    cases h2 : sokB R' y L' G' u with
    | false =>
      have hz : z = false := by rw [Z.out, h1, h2]; rfl
      subst hz
      have i1 := I1.out w1.drew D0.out.bel
      rw [h1] at i1
      have J1 := hid_mk i1
      have J2 : Hid (∀ w2, Below w.heap.size w w2 → Calls Try.prog 20 #[.agg #[.slice b m d, .int .i64 y.n, .bool y.i, .int .i64 y.b, .int .i64 y.t, .int .i64 y.p, .int .i64 y.s, .slice b1 m1 d1, .slice b2 m2 d2, .int .i64 u]] w2 fun e w' => e = .returned (.bool false) ∧ Below w2.heap.size w2 w') := fun w2 hb => by
        have h := I2.out w2 hb
        rwa [h2] at h
      clear i1 I1 I2 K1 K2
      go_region_with (first | (have B9 := B2; go_at_call 20; refine (J2.out _ B2.out.bel).mono ?_; rintro e w3 ⟨rfl, hb⟩; have B3 := hid_mk (B2.out.next hb).bel; clear hb) | (go_at_call 20; refine J1.out.mono ?_; rintro e w2 ⟨rfl, hb⟩; have B2 := hid_mk (D0.out.next hb); clear hb; obtain ⟨q0, q1, q2, q3, q4, q5, q6, q7, q8, q9⟩ := (B2.out.cel (.head _)).c10) | fail)
      all_goals
        go_wp2_with fail
        go_ret
        exact ⟨rfl, B3.out⟩
    | true =>
      clear hu p0 p1 p2 p3 p4 p5 p6 p7 p8 p9 q0 q1 q2 q3 q4 q5 q6 q7 q8 q9
      have hz : z = (keyL R' y L').all (undY (keyL R x L)) := by rw [Z.out, h1, h2]; rfl
      rw [h1] at I1
      rw [h2] at I2
      clear Z h1 h2
      generalize keyL R x L = KS at K1 hz
      generalize keyL R' y L' = KT at K2 hz
      have ALL : Hid (∀ w', Hold w w' [celF (w.heap.size + 1) (stl b m d y b1 m1 d1 b2 m2 d2 u), celF w.heap.size (stl a n c x a1 n1 c1 a2 n2 c2 t)] → (w'.cell? ⟨w.heap.size, 0, none⟩ = some (.slice a n c) ∧ w'.cell? ⟨w.heap.size, 1, none⟩ = some (.int .i64 x.n) ∧ w'.cell? ⟨w.heap.size, 2, none⟩ = some (.bool x.i) ∧ w'.cell? ⟨w.heap.size, 3, none⟩ = some (.int .i64 x.b) ∧ w'.cell? ⟨w.heap.size, 4, none⟩ = some (.int .i64 x.t) ∧ w'.cell? ⟨w.heap.size, 5, none⟩ = some (.int .i64 x.p) ∧ w'.cell? ⟨w.heap.size, 6, none⟩ = some (.int .i64 x.s) ∧ w'.cell? ⟨w.heap.size, 7, none⟩ = some (.slice a1 n1 c1) ∧ w'.cell? ⟨w.heap.size, 8, none⟩ = some (.slice a2 n2 c2) ∧ w'.cell? ⟨w.heap.size, 9, none⟩ = some (.int .i64 t) ∧ w'.cell? ⟨w.heap.size + 1, 0, none⟩ = some (.slice b m d) ∧ w'.cell? ⟨w.heap.size + 1, 1, none⟩ = some (.int .i64 y.n) ∧ w'.cell? ⟨w.heap.size + 1, 2, none⟩ = some (.bool y.i) ∧ w'.cell? ⟨w.heap.size + 1, 3, none⟩ = some (.int .i64 y.b) ∧ w'.cell? ⟨w.heap.size + 1, 4, none⟩ = some (.int .i64 y.t) ∧ w'.cell? ⟨w.heap.size + 1, 5, none⟩ = some (.int .i64 y.p) ∧ w'.cell? ⟨w.heap.size + 1, 6, none⟩ = some (.int .i64 y.s) ∧ w'.cell? ⟨w.heap.size + 1, 7, none⟩ = some (.slice b1 m1 d1) ∧ w'.cell? ⟨w.heap.size + 1, 8, none⟩ = some (.slice b2 m2 d2) ∧ w'.cell? ⟨w.heap.size + 1, 9, none⟩ = some (.int .i64 u) ∧ Hid (Hold w w' [celF (w.heap.size + 1) (stl b m d y b1 m1 d1 b2 m2 d2 u), celF w.heap.size (stl a n c x a1 n1 c1 a2 n2 c2 t)]))) := fun w' h => by
        have h1 := h.cel (.tail _ (.head _))
        have h2 := h.cel (.head _)
        exact ⟨h1.c 0 _ rfl, h1.c 1 _ rfl, h1.c 2 _ rfl, h1.c 3 _ rfl, h1.c 4 _ rfl, h1.c 5 _ rfl, h1.c 6 _ rfl, h1.c 7 _ rfl, h1.c 8 _ rfl, h1.c 9 _ rfl, h2.c 0 _ rfl, h2.c 1 _ rfl, h2.c 2 _ rfl, h2.c 3 _ rfl, h2.c 4 _ rfl, h2.c 5 _ rfl, h2.c 6 _ rfl, h2.c 7 _ rfl, h2.c 8 _ rfl, h2.c 9 _ rfl, h⟩
      have GET : Hid (∀ w', (w'.cell? ⟨w.heap.size, 0, none⟩ = some (.slice a n c) ∧ w'.cell? ⟨w.heap.size, 1, none⟩ = some (.int .i64 x.n) ∧ w'.cell? ⟨w.heap.size, 2, none⟩ = some (.bool x.i) ∧ w'.cell? ⟨w.heap.size, 3, none⟩ = some (.int .i64 x.b) ∧ w'.cell? ⟨w.heap.size, 4, none⟩ = some (.int .i64 x.t) ∧ w'.cell? ⟨w.heap.size, 5, none⟩ = some (.int .i64 x.p) ∧ w'.cell? ⟨w.heap.size, 6, none⟩ = some (.int .i64 x.s) ∧ w'.cell? ⟨w.heap.size, 7, none⟩ = some (.slice a1 n1 c1) ∧ w'.cell? ⟨w.heap.size, 8, none⟩ = some (.slice a2 n2 c2) ∧ w'.cell? ⟨w.heap.size, 9, none⟩ = some (.int .i64 t) ∧ w'.cell? ⟨w.heap.size + 1, 0, none⟩ = some (.slice b m d) ∧ w'.cell? ⟨w.heap.size + 1, 1, none⟩ = some (.int .i64 y.n) ∧ w'.cell? ⟨w.heap.size + 1, 2, none⟩ = some (.bool y.i) ∧ w'.cell? ⟨w.heap.size + 1, 3, none⟩ = some (.int .i64 y.b) ∧ w'.cell? ⟨w.heap.size + 1, 4, none⟩ = some (.int .i64 y.t) ∧ w'.cell? ⟨w.heap.size + 1, 5, none⟩ = some (.int .i64 y.p) ∧ w'.cell? ⟨w.heap.size + 1, 6, none⟩ = some (.int .i64 y.s) ∧ w'.cell? ⟨w.heap.size + 1, 7, none⟩ = some (.slice b1 m1 d1) ∧ w'.cell? ⟨w.heap.size + 1, 8, none⟩ = some (.slice b2 m2 d2) ∧ w'.cell? ⟨w.heap.size + 1, 9, none⟩ = some (.int .i64 u) ∧ Hid (Hold w w' [celF (w.heap.size + 1) (stl b m d y b1 m1 d1 b2 m2 d2 u), celF w.heap.size (stl a n c x a1 n1 c1 a2 n2 c2 t)])) → Hold w w' [celF (w.heap.size + 1) (stl b m d y b1 m1 d1 b2 m2 d2 u), celF w.heap.size (stl a n c x a1 n1 c1 a2 n2 c2 t)]) := fun w' h => h.2.2.2.2.2.2.2.2.2.2.2.2.2.2.2.2.2.2.2.2
      have L5 := hid_mk (fun a n c b m d w h1 h2 => l10Under_any a n c KT b m d KS w h1 h2)
      rw [← hz] at L5
      clear H hz
      go_region_held3 (fun w' => w'.cell? ⟨w.heap.size, 0, none⟩ = some (.slice a n c) ∧ w'.cell? ⟨w.heap.size, 1, none⟩ = some (.int .i64 x.n) ∧ w'.cell? ⟨w.heap.size, 2, none⟩ = some (.bool x.i) ∧ w'.cell? ⟨w.heap.size, 3, none⟩ = some (.int .i64 x.b) ∧ w'.cell? ⟨w.heap.size, 4, none⟩ = some (.int .i64 x.t) ∧ w'.cell? ⟨w.heap.size, 5, none⟩ = some (.int .i64 x.p) ∧ w'.cell? ⟨w.heap.size, 6, none⟩ = some (.int .i64 x.s) ∧ w'.cell? ⟨w.heap.size, 7, none⟩ = some (.slice a1 n1 c1) ∧ w'.cell? ⟨w.heap.size, 8, none⟩ = some (.slice a2 n2 c2) ∧ w'.cell? ⟨w.heap.size, 9, none⟩ = some (.int .i64 t) ∧ w'.cell? ⟨w.heap.size + 1, 0, none⟩ = some (.slice b m d) ∧ w'.cell? ⟨w.heap.size + 1, 1, none⟩ = some (.int .i64 y.n) ∧ w'.cell? ⟨w.heap.size + 1, 2, none⟩ = some (.bool y.i) ∧ w'.cell? ⟨w.heap.size + 1, 3, none⟩ = some (.int .i64 y.b) ∧ w'.cell? ⟨w.heap.size + 1, 4, none⟩ = some (.int .i64 y.t) ∧ w'.cell? ⟨w.heap.size + 1, 5, none⟩ = some (.int .i64 y.p) ∧ w'.cell? ⟨w.heap.size + 1, 6, none⟩ = some (.int .i64 y.s) ∧ w'.cell? ⟨w.heap.size + 1, 7, none⟩ = some (.slice b1 m1 d1) ∧ w'.cell? ⟨w.heap.size + 1, 8, none⟩ = some (.slice b2 m2 d2) ∧ w'.cell? ⟨w.heap.size + 1, 9, none⟩ = some (.int .i64 u) ∧ Hid (Hold w w' [celF (w.heap.size + 1) (stl b m d y b1 m1 d1 b2 m2 d2 u), celF w.heap.size (stl a n c x a1 n1 c1 a2 n2 c2 t)]))
        (first | (with_reducible assumption) | (((with_reducible refine ALL.out _ ?_); (first | (with_reducible exact D0.out) | ((with_reducible apply Hold.next ?_ KE.out); (with_reducible exact GET.out _ (by with_reducible assumption))) | ((with_reducible apply Hold.next ?_ KD.out); (with_reducible exact GET.out _ (by with_reducible assumption))) | ((with_reducible apply Hold.next ?_ KC.out); (with_reducible exact GET.out _ (by with_reducible assumption))) | ((with_reducible apply Hold.next ?_ KB.out); (with_reducible exact GET.out _ (by with_reducible assumption))) | ((with_reducible apply Hold.next ?_ KA.out); (with_reducible exact GET.out _ (by with_reducible assumption))) | fail))))
        (first
          | (go_at_call 50; refine (L5.out _ _ _ _ _ _ _ TT.out SS.out).mono ?_; rintro e wE ⟨rfl, hbE⟩; have KE := hid_mk hbE; clear hbE)
          | (have KZ := KB; go_at_call 51; with_reducible refine (K2.out _ (GET.out _ (by with_reducible assumption)).bel).mono ?_; rintro e wC ⟨bt, dt, rfl, hst, hbC⟩; have KC := hid_mk hbC; have TT := hid_mk hst; (first | (have SS := hid_mk ((SS.out.keep hbC).mono hbC.size)) | skip); clear hst hbC)
          | (have KZ := KB; go_at_call 51; with_reducible refine (K1.out _ (GET.out _ (by with_reducible assumption)).bel).mono ?_; rintro e wD ⟨bs, ds, rfl, hss, hbD⟩; have KD := hid_mk hbD; have SS := hid_mk hss; (first | (have TT := hid_mk ((TT.out.keep hbD).mono hbD.size)) | skip); clear hss hbD)
          | (have KZ := KA; go_at_call 20; with_reducible refine (I2.out _ (GET.out _ (by with_reducible assumption)).bel).mono ?_; rintro e wB ⟨rfl, hbB⟩; have KB := hid_mk hbB; clear hbB)
          | (go_at_call 20; with_reducible refine (I1.out _ (GET.out _ (by with_reducible assumption)).bel).mono ?_; rintro e wA ⟨rfl, hbA⟩; have KA := hid_mk hbA; clear hbA))
      all_goals
        have B9 := hid_mk (GET.out _ (by with_reducible assumption)).bel
        clear ALL GET
        go_wp2_with fail
        go_ret
        exact ⟨rfl, B9.out⟩
end Go.Proofs.Ytfeoaegkhbjaeaa
