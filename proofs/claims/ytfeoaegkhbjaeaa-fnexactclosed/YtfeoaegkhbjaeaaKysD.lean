/- Closed of the program at all states: whether both are right and each key of the second is under one of the first. No condition but that there are no more words than a list of the laws may have. -/
import Derived.Test.YtfeoaegkhbjaeaaKysC
import Derived.Test.YtfeoaegkhbjaeaaStT
import Derived.Sort.CutIn
namespace Go.Proofs.Ytfeoaegkhbjaeaa
open Go.ChangeShapes Go.WideShapes Go.ChangeAt Go.RowKit
set_option maxRecDepth 100000
attribute [local go_sem] Oper.semAt_some

def undY (M : List Wd) (y : Wd) : Bool := undB y.i y.b y.t y.p y.s M
/-- What Closed answers. -/
def clsB (R : List Wd) (x : Wd) (L : List Wd) (G : List Bool) (t : Int) (R' : List Wd) (y : Wd) (L' : List Wd) (G' : List Bool) (u : Int) : Bool :=
  sokB R x L G t && sokB R' y L' G' u && (keyL R' y L').all (undY (keyL R x L))
theorem keeps_below {B : Nat} {W W' : World} (h : Below W.heap.size W W') : KeepsFrom B W W' := ⟨h.size, fun k _ _ ho _ => (h.block k (Array.getElem?_eq_some_iff.1 ho).1).trans ho⟩
theorem sliceW_own (B : Nat) (a : Option Addr) (n : Nat) (M : List Wd) : Own (fun (_ : List Wd) W => SliceW B W a n M) := fun s X Y row h hg hr => by
  refine ⟨h.1, h.2.1, ?_⟩
  rcases h.2.2 with h0 | ⟨k, o, ha, hk, hc⟩
  · exact .inl h0
  · exact .inr ⟨k, o, ha, hk, fun j y hj => WordAt.of_vs fun m v hv => cell_kept ((hc j y hj).vs m v hv) hg hr⟩
theorem Hold.boxD {w0 w : World} {fs : List Fct} (h : Hold w0 w fs) (vs : List Value) (T : TypeId) (r : Nat) (hr : r = w.heap.size) : Hold w0 (w.alloc (.cells vs.toArray T)) (celF r vs :: fs) := by
  subst hr
  exact (h.alloc _).push (celF w.heap.size vs) (Cel.new w vs T)
theorem SliceW.slk {w : World} {B : Nat} {own : Nat → Prop} {a : Option Addr} {n : Nat} {M : List Wd} (h : SliceW B w a n M) (hn : ∀ k, ¬ own k) : SlK w own a n M := by
  refine ⟨h.1, h.2.1, ?_⟩
  rcases h.2.2 with h0 | ⟨k, o, ha, hk, hc⟩
  · exact .inl h0
  · exact .inr ⟨k, o, ha, hn k, hc⟩

set_option maxHeartbeats 8000000 in
theorem implClosed_any (a : Option Addr) (n c : Nat) (x : Wd) (a1 : Option Addr) (n1 c1 : Nat) (a2 : Option Addr) (n2 c2 : Nat) (t : Int) (R L : List Wd) (G : List Bool) (b : Option Addr) (m d : Nat) (y : Wd) (b1 : Option Addr) (m1 d1 : Nat) (b2 : Option Addr) (m2 d2 : Nat) (u : Int) (R' L' : List Wd) (G' : List Bool) (w : World) (hk : (keyL R x L).length ≤ 2097153)
    (hS : StS w a n a1 n1 a2 n2 R L G) (hT : StS w b m b1 m1 b2 m2 R' L' G') :
    Calls Try.prog 25 #[.agg #[.slice a n c, .int .i64 x.n, .bool x.i, .int .i64 x.b, .int .i64 x.t, .int .i64 x.p, .int .i64 x.s, .slice a1 n1 c1, .slice a2 n2 c2, .int .i64 t], .agg #[.slice b m d, .int .i64 y.n, .bool y.i, .int .i64 y.b, .int .i64 y.t, .int .i64 y.p, .int .i64 y.s, .slice b1 m1 d1, .slice b2 m2 d2, .int .i64 u]] w fun e w' => e = .returned (.bool (clsB R x L G t R' y L' G' u)) ∧ Below w.heap.size w w' := by
  have H : Hid (Hold w (((w.alloc (.cells (stl a n c x a1 n1 c1 a2 n2 c2 t).toArray 49)).alloc (.cells (stl b m d y b1 m1 d1 b2 m2 d2 u).toArray 49)).alloc (.cells ([.bool false] : List Value).toArray 4)) [celF (w.heap.size + 1 + 1) [.bool false], celF (w.heap.size + 1) (stl b m d y b1 m1 d1 b2 m2 d2 u), celF w.heap.size (stl a n c x a1 n1 c1 a2 n2 c2 t)]) := by
    have h1 := ((Hold.new w).alloc (.cells (stl a n c x a1 n1 c1 a2 n2 c2 t).toArray 49)).push (celF w.heap.size (stl a n c x a1 n1 c1 a2 n2 c2 t)) (Cel.new w _ _)
    have g2 := Cel.new (w.alloc (.cells (stl a n c x a1 n1 c1 a2 n2 c2 t).toArray 49)) (stl b m d y b1 m1 d1 b2 m2 d2 u) 49
    rw [World.size_alloc] at g2
    have h2 := (h1.alloc (.cells (stl b m d y b1 m1 d1 b2 m2 d2 u).toArray 49)).push (celF (w.heap.size + 1) (stl b m d y b1 m1 d1 b2 m2 d2 u)) g2
    have g3 := Cel.new ((w.alloc (.cells (stl a n c x a1 n1 c1 a2 n2 c2 t).toArray 49)).alloc (.cells (stl b m d y b1 m1 d1 b2 m2 d2 u).toArray 49)) [.bool false] 4
    rw [World.size_alloc, World.size_alloc] at g3
    exact (h2.alloc (.cells ([.bool false] : List Value).toArray 4)).push (celF (w.heap.size + 1 + 1) [.bool false]) g3
  have s1 := fun w h => specStateOk_any a n c x a1 n1 c1 a2 n2 c2 t R L G w h
  have S := hid_mk hS
  have T := hid_mk hT
  have I1 := hid_mk (fun w h => implStateOk_any a n c x a1 n1 c1 a2 n2 c2 t R L G w h)
  have I2 := hid_mk (fun w h => implStateOk_any b m d y b1 m1 d1 b2 m2 d2 u R' L' G' w h)
  have I3 := hid_mk (fun w h => implKeys_any a n c x a1 n1 c1 a2 n2 c2 t R L G w hk h)
  have I4 := hid_mk (fun w => keysOf_any b m d y b1 m1 d1 b2 m2 d2 u w)
  have hs1 := hS.rs.2.1
  have hT1 := hT.rs
  clear s1 hS hT hs1 hT1
  obtain ⟨z, Z⟩ : ∃ z, Hid (z = clsB R x L G t R' y L' G' u) := ⟨_, rfl⟩
  rw [← Z.out]
  unfold clsB at Z
  generalize hw1 : (((w.alloc (.cells (stl a n c x a1 n1 c1 a2 n2 c2 t).toArray 49)).alloc (.cells (stl b m d y b1 m1 d1 b2 m2 d2 u).toArray 49)).alloc (.cells ([.bool false] : List Value).toArray 4)) = w1 at H
  have hf28 : Fence.wide.fn 22 := trivial
  have hf8 : Fence.wide.fn 52 := trivial
  have hf22 : Fence.wide.fn 53 := trivial
  have hf29 : Fence.wide.fn 54 := trivial
  refine (callsIn_wide (n := 6)).1 ?_
  refine callsIn_of_wp_marks Try.func25 rfl trivial ?_ rfl
  simp only [Try.ntmps25, List.size_toArray, List.length_cons, List.length_nil, Nat.reduceAdd, Nat.reduceSub, Array.replicate_succ, Array.replicate_zero, List.push_toArray, List.append_toArray, List.nil_append, List.cons_append]
  gi_upto_region 1 with fail
  clear hw1
  obtain ⟨m0, m1', m2', m3, m4, m5, m6, m7, m8, m9⟩ := (H.out.cel (.tail _ (.tail _ (.head _)))).c10
  have hrc := (H.out.cel (.head _)).c 0 _ rfl
  have hrf := (H.out.cel (.head _)).f 0 (by simp)
  cases h1 : sokB R x L G t with
  | false =>
    have hz : z = false := by rw [Z.out, h1]; rfl
    subst hz
    have i1 := I1.out w1 (S.out.below H.out.bel)
    rw [h1] at i1
    have J1 := hid_mk i1
    clear i1
    gi_wp2_with (gi_at_call 22; refine (callsIn_wide.2 J1.out).mono ?_; rintro e w2 ⟨rfl, hb⟩; have H2 := hid_mk (H.out.next hb); clear hb; have hrc := (H2.out.cel (.head _)).c 0 _ rfl; have hrf := (H2.out.cel (.head _)).f 0 (by simp))
    refine ⟨.bool false, by simp [results, Try.results25, go_sem, hrc], rfl, ?_⟩
    exact H2.out.bel.setCell (p := ⟨w.heap.size + 1 + 1, 0, none⟩) (by show w.heap.size ≤ w.heap.size + 1 + 1; omega) _
  | true =>
    have i1 := I1.out w1 (S.out.below H.out.bel)
    rw [h1] at i1
    have J1 := hid_mk i1
    clear i1
    cases h2 : sokB R' y L' G' u with
    | false =>
      have hz : z = false := by rw [Z.out, h1, h2]; rfl
      subst hz
      have J2 : Hid (∀ w2, Below w.heap.size w w2 → Calls Try.prog 22 #[.agg #[.slice b m d, .int .i64 y.n, .bool y.i, .int .i64 y.b, .int .i64 y.t, .int .i64 y.p, .int .i64 y.s, .slice b1 m1 d1, .slice b2 m2 d2, .int .i64 u]] w2 fun e w' => e = .returned (.bool false) ∧ Below w2.heap.size w2 w') := fun w2 hb => by
        have h := I2.out w2 (T.out.below hb)
        rwa [h2] at h
      gi_wp2_with (first | (gi_at_call 22; refine (callsIn_wide.2 J1.out).mono ?_; rintro e w2 ⟨rfl, hb⟩; have H2 := hid_mk (H.out.next hb); clear hb J1; obtain ⟨o0, o1, o2, o3, o4, o5, o6, o7, o8, o9⟩ := (H2.out.cel (.tail _ (.head _))).c10) | (gi_at_call 22; refine (callsIn_wide.2 (J2.out _ H2.out.bel)).mono ?_; rintro e w3 ⟨rfl, hb⟩; have H3 := hid_mk (H2.out.next hb); clear hb; have hrc := (H3.out.cel (.head _)).c 0 _ rfl; have hrf := (H3.out.cel (.head _)).f 0 (by simp)))
      refine ⟨.bool false, by simp [results, Try.results25, go_sem, hrc], rfl, ?_⟩
      exact H3.out.bel.setCell (p := ⟨w.heap.size + 1 + 1, 0, none⟩) (by show w.heap.size ≤ w.heap.size + 1 + 1; omega) _
    | true =>
      have hz : z = (keyL R' y L').all (undY (keyL R x L)) := by rw [Z.out, h1, h2]; rfl
      have HZ := hid_mk hz
      clear hz Z
      have J2 : Hid (∀ w2, Below w.heap.size w w2 → Calls Try.prog 22 #[.agg #[.slice b m d, .int .i64 y.n, .bool y.i, .int .i64 y.b, .int .i64 y.t, .int .i64 y.p, .int .i64 y.s, .slice b1 m1 d1, .slice b2 m2 d2, .int .i64 u]] w2 fun e w' => e = .returned (.bool true) ∧ Below w2.heap.size w2 w') := fun w2 hb => by
        have h := I2.out w2 (T.out.below hb)
        rwa [h2] at h
      clear h1 h2 I1 I2
      obtain ⟨KS, hKS⟩ : ∃ KS, Hid (KS = keyL R x L) := ⟨_, rfl⟩
      rw [← hKS.out] at I3 HZ hk
      obtain ⟨kn, hkn⟩ : ∃ kn, kn = KS.length := ⟨_, rfl⟩
      rw [← hkn] at I3 hk
      clear hkn hKS
      gi_upto_region 3 with (first | (gi_at_call 22; refine (callsIn_wide.2 J1.out).mono ?_; rintro e w2 ⟨rfl, hb⟩; have H2 := hid_mk (H.out.next hb); clear hb J1; obtain ⟨o0, o1, o2, o3, o4, o5, o6, o7, o8, o9⟩ := (H2.out.cel (.tail _ (.head _))).c10) | (gi_at_call 22; refine (callsIn_wide.2 (J2.out _ H2.out.bel)).mono ?_; rintro e w3 ⟨rfl, hb⟩; have H3 := hid_mk (H2.out.next hb); clear hb))
      clear o0 o1 o2 o3 o4 o5 o6 o7 o8 o9 m0 m1' m2' m3 m4 m5 m6 m7 m8 m9 hrc hrf H2 H J2
      obtain ⟨m0, m1', m2', m3, m4, m5, m6, m7, m8, m9⟩ := (H3.out.cel (.tail _ (.tail _ (.head _)))).c10
      gi_upto_region 4 with (gi_at_call 52; refine (callsIn_wide.2 (I3.out _ (S.out.below H3.out.bel))).mono ?_; rintro e w4 ⟨bk, dk, rfl, hrw, hfk, hb⟩)
      have A4 := hid_mk (hrw.sliceX (by omega))
      have F4 := hid_mk hfk
      have H4 := hid_mk ((H3.out.next hb).boxD [.slice bk kn dk] 28 w4.heap.size rfl)
      have hz4 := (H3.out.cel (.head _)).lt
      have hz5 := hb.size
      clear hrw hfk hb m0 m1' m2' m3 m4 m5 m6 m7 m8 m9 H3
      have e4 : (w4.alloc (.cells ([.slice bk kn dk] : List Value).toArray 28)).heap.size = w4.heap.size + 1 := by simp
      replace A4 : Hid (SliceW w4.heap.size (w4.alloc (.cells ([.slice bk kn dk] : List Value).toArray 28)) bk kn KS) := A4.out.keep ((Below.refl _ _).alloc (Nat.le_refl _) _)
      generalize w4.alloc (.cells ([.slice bk kn dk] : List Value).toArray 28) = w5 at H4 A4 e4 ⊢
      obtain ⟨r5, hr5⟩ : ∃ r, r = w4.heap.size := ⟨_, rfl⟩
      rw [← hr5] at H4 A4 e4 hz5 ⊢
      clear hr5
      have E4 := hid_mk e4
      have hr54 : r5 < w5.heap.size := by omega
      clear e4
      obtain ⟨o0, o1, o2, o3, o4, o5, o6, o7, o8, o9⟩ := (H4.out.cel (.tail _ (.tail _ (.head _)))).c10
      gi_wp2_with (gi_at_call 53; refine (callsIn_wide.2 (I4.out _)).mono ?_; rintro e w6 ⟨rfl, hw6⟩; subst hw6)
      clear o0 o1 o2 o3 o4 o5 o6 o7 o8 o9
      have H6 := hid_mk (H4.out.boxD (stl b m d y b1 m1 d1 b2 m2 d2 u) 49 w5.heap.size rfl)
      have A6 : Hid (SliceW r5 (w5.alloc (.cells (stl b m d y b1 m1 d1 b2 m2 d2 u).toArray 49)) bk kn KS) := A4.out.keep ((Below.refl _ _).alloc (by omega) _)
      have e6 : (w5.alloc (.cells (stl b m d y b1 m1 d1 b2 m2 d2 u).toArray 49)).heap.size = w5.heap.size + 1 := by simp
      clear H4 A4
      generalize w5.alloc (.cells (stl b m d y b1 m1 d1 b2 m2 d2 u).toArray 49) = w6 at H6 A6 e6 ⊢
      obtain ⟨r6, hr6⟩ : ∃ r, r = w5.heap.size := ⟨_, rfl⟩
      rw [← hr6] at H6 e6 hr54 ⊢
      clear hr6
      have T6 := T.out.below H6.out.bel
      refine wpIn_rangeFunc_ownH rfl (by decide) (gf := 64) (lb := #[.pointer (some ⟨r6, 0, none⟩)]) rfl trivial (enters_of Try.func64 (by kernel_rfl) rfl)
        (keys_stops Fence.wide 5 trivial rfl (by decide) r6 w.heap.size (fun _ _ => False) b m d y b1 m1 d1 b2 m2 d2 u R' L' w6 (by omega) (by omega) (fun k hk => hk.elim) (H6.out.cel (.head _)).c (T6.rs.slk (fun _ h => h)) (T6.mem.ws.slk (fun _ h => h)))
        KpB.trans (fun W l o o' hl h h2 _ => KpB.putObj (by omega) W l o o' hl h h2) (Below.refl _ _) (fun _ => rfl)
        (fun pre W => (pre.all (undY KS) = true ∧ W.cell? ⟨w.heap.size + 1 + 1, 0, none⟩ = some (.bool false) ∧ W.frozen? ⟨w.heap.size + 1 + 1, 0, none⟩ = false ∧ W.cell? ⟨r5, 0, none⟩ = some (.slice bk kn dk) ∧ r6 < W.heap.size) ∧ SliceW r5 W bk kn KS ∧ Below w.heap.size w W)
        (fun cc pre W => (cc = .ret ∧ (∃ ini last, pre = ini ++ [last] ∧ undY KS last = false) ∧ W.cell? ⟨w.heap.size + 1 + 1, 0, none⟩ = some (.bool false)) ∧ Below w.heap.size w W)
        (OwnFrom.and (Own.from (fun s A B row hs hg hr => ⟨hs.1, cell_kept hs.2.1 hg hr, (frozen_kept hs.2.1 hg hr).trans hs.2.2.1, cell_kept hs.2.2.2.1 hg hr, Nat.lt_of_lt_of_le hs.2.2.2.2 hg.size⟩) _) (OwnFrom.and (Own.from (sliceW_own _ _ _ _) _) (ownFrom_below (Nat.le_refl _) (by omega))))
        (fun cc => OwnFrom.and (Own.from (fun s A B row hs hg hr => ⟨hs.1, hs.2.1, cell_kept hs.2.2 hg hr⟩) _) (ownFrom_below (Nat.le_refl _) (by omega)))
        ⟨⟨rfl, (H6.out.cel (.tail _ (.tail _ (.head _)))).c 0 _ rfl, (H6.out.cel (.tail _ (.tail _ (.head _)))).f 0 (by simp), (H6.out.cel (.tail _ (.head _))).c 0 _ rfl, by omega⟩, A6.out, H6.out.bel⟩
        (fun e a' W => ∃ Bx, r6 < Bx ∧ BoxW W Bx e ∧ a' = { tmps := #[.agg #[.slice a n c, .int .i64 x.n, .bool x.i, .int .i64 x.b, .int .i64 x.t, .int .i64 x.p, .int .i64 x.s, .slice a1 n1 c1, .slice a2 n2 c2, .int .i64 t], .agg #[.slice b m d, .int .i64 y.n, .bool y.i, .int .i64 y.b, .int .i64 y.t, .int .i64 y.p, .int .i64 y.s, .slice b1 m1 d1, .slice b2 m2 d2, .int .i64 u], .pointer (some ⟨w.heap.size, 0, none⟩), .pointer (some ⟨w.heap.size + 1, 0, none⟩), .pointer (some ⟨w.heap.size + 1 + 1, 0, none⟩), .pointer (some ⟨r5, 0, none⟩), .pointer (some ⟨Bx, 0, none⟩), .agg #[.slice a n c, .int .i64 x.n, .bool x.i, .int .i64 x.b, .int .i64 x.t, .int .i64 x.p, .int .i64 x.s, .slice a1 n1 c1, .slice a2 n2 c2, .int .i64 t], .bool true, .bool false, .bool false, .agg #[.slice b m d, .int .i64 y.n, .bool y.i, .int .i64 y.b, .int .i64 y.t, .int .i64 y.p, .int .i64 y.s, .slice b1 m1 d1, .slice b2 m2 d2, .int .i64 u], .bool true, .bool false, .bool false, .agg #[.slice a n c, .int .i64 x.n, .bool x.i, .int .i64 x.b, .int .i64 x.t, .int .i64 x.p, .int .i64 x.s, .slice a1 n1 c1, .slice a2 n2 c2, .int .i64 t], .slice bk kn dk, .agg #[.slice b m d, .int .i64 y.n, .bool y.i, .int .i64 y.b, .int .i64 y.t, .int .i64 y.p, .int .i64 y.s, .slice b1 m1 d1, .slice b2 m2 d2, .int .i64 u], .func (.func 64) #[] #[.pointer (some ⟨r6, 0, none⟩)], .agg #[.int .i64 e.n, .bool e.i, .int .i64 e.b, .int .i64 e.t, .int .i64 e.p, .int .i64 e.s], undef, undef, undef, undef], defers := [] })
        (fun e a' _ X Y row hs hg hr => by obtain ⟨Bx, h1, h2, h3⟩ := hs; exact ⟨Bx, h1, boxW_own Bx e () X Y row h2 hg (fun r e => (hr r e).2), h3⟩)
        ?assign ?body ?done ?stop
      case assign =>
        rintro l pre e W K ⟨⟨hp, c1, f1, c2, hr6⟩, sW, hB⟩ hK
        have hsB := hB.size
        gi_wp2
        exact hK _ _ (keeps_below ((Below.refl _ W).alloc (Nat.le_refl _) _)) (KpB.ofBelow (by omega) ((Below.refl _ W).alloc (Nat.le_refl _) _)) ⟨⟨hp, (((Below.refl W.heap.size W).alloc (Nat.le_refl _) _).cell (p := ⟨w.heap.size + 1 + 1, 0, none⟩) (by show w.heap.size + 1 + 1 < W.heap.size; omega)).trans c1, (((Below.refl W.heap.size W).alloc (Nat.le_refl _) _).frozen (p := ⟨w.heap.size + 1 + 1, 0, none⟩) (by show w.heap.size + 1 + 1 < W.heap.size; omega)).trans f1, (((Below.refl W.heap.size W).alloc (Nat.le_refl _) _).cell (p := ⟨r5, 0, none⟩) (by show r5 < W.heap.size; omega)).trans c2, by simp; omega⟩, sW.keep ((Below.refl _ W).alloc (by omega) _), hB.alloc hsB _⟩ ⟨W.heap.size, hr6, World.alloc_heap_new W _, rfl⟩
      case body =>
        rintro l pre e a' W hl ⟨r, hr⟩ ⟨⟨hp, hc, hf, ho, hr6⟩, sW, hB⟩ ⟨Bx, hBx, bX, rfl⟩ hlt
        obtain ⟨x0, x1, x2, x3, x4, x5⟩ := bX.cells
        have hsB := hB.size
        have i5 := implUnders_any e.n e.i e.b e.t e.p e.s bk kn dk KS W (sW.mono (by omega))
        cases hv : undY KS e with
        | true =>
          rw [show undB e.i e.b e.t e.p e.s KS = true from hv] at i5
          have J5 := hid_mk i5
          clear i5
          gi_wp2_with (gi_at_call 54; refine (CallsIn.inRound l (callsIn_wide.2 J5.out)).mono ?_; rintro e2 w7 ⟨rfl, hb⟩)
          exact ⟨keeps_below hb, KpB.ofBelow (by omega) hb, ⟨by rw [List.all_append, hp]; simp [hv], (hb.cell (p := ⟨w.heap.size + 1 + 1, 0, none⟩) (by show w.heap.size + 1 + 1 < W.heap.size; omega)).trans hc, (hb.frozen (p := ⟨w.heap.size + 1 + 1, 0, none⟩) (by show w.heap.size + 1 + 1 < W.heap.size; omega)).trans hf, (hb.cell (p := ⟨r5, 0, none⟩) (by show r5 < W.heap.size; omega)).trans ho, Nat.lt_of_lt_of_le hr6 hb.size⟩, sW.keep (hb.mono (by omega)), hB.trans (hb.mono hsB)⟩
        | false =>
          rw [show undB e.i e.b e.t e.p e.s KS = false from hv] at i5
          have J5 := hid_mk i5
          clear i5
          gi_wp2_with (gi_at_call 54; refine (CallsIn.inRound l (callsIn_wide.2 J5.out)).mono ?_; rintro e2 w7 ⟨rfl, hb⟩; have hc7 := (hb.cell (p := ⟨w.heap.size + 1 + 1, 0, none⟩) (by show w.heap.size + 1 + 1 < W.heap.size; omega)).trans hc; have hf7 := (hb.frozen (p := ⟨w.heap.size + 1 + 1, 0, none⟩) (by show w.heap.size + 1 + 1 < W.heap.size; omega)).trans hf)
          exact ⟨(keeps_below hb).trans ((KeepsOthers.setCell _ _ _).from _), ⟨rfl, ⟨pre, e, rfl, hv⟩, World.cell?_setCell_same' _ _ _ (by rw [hc7]; rfl)⟩, (hB.trans (hb.mono hsB)).setCell (p := ⟨w.heap.size + 1 + 1, 0, none⟩) (by show w.heap.size ≤ w.heap.size + 1 + 1; omega) _⟩
      case done =>
        rintro D ys W hD rfl ⟨⟨hp, hc, hf, ho, hr6⟩, sW, hB⟩ hK
        have hzt : z = true := by rw [HZ.out]; exact hp
        subst hzt
        gi_wp2
        have hK' := (KeepsOthers.setCell W ⟨w.heap.size + 1 + 1, 0, none⟩ (.bool true)).same D _ hK rfl
        refine ⟨by simp, .inl ⟨_, _, rfl, run_takeDeferred hK', ?_⟩⟩
        have hc5 := cell_kept (World.cell?_setCell_same' W ⟨w.heap.size + 1 + 1, 0, none⟩ (.bool true) (by rw [hc]; rfl)) (grownBy_putObj' _ D (.deferred none)) (fun r e => by cases e; exact ⟨_, hK', rfl⟩)
        refine ⟨.bool true, ?_, rfl, (hB.setCell (p := ⟨w.heap.size + 1 + 1, 0, none⟩) (by show w.heap.size ≤ w.heap.size + 1 + 1; omega) _).trans (belowK_b (w := w) (Nat.le_refl _) _ D _ _ (by omega) hK' rfl rfl)⟩
        simp [results, Try.results25, go_sem, hc5]
      case stop =>
        rintro D cc pre W hD hpre ⟨⟨rfl, ⟨ini, last, he, hl⟩, hc⟩, hB⟩ hK
        have hzt : z = false := by
          rw [HZ.out, List.all_eq_false]
          exact ⟨last, hpre.subset (by rw [he]; simp), by rw [hl]; simp⟩
        subst hzt
        gi_wp2
        refine ⟨by simp, .inl ⟨_, _, rfl, run_takeDeferred hK, ?_⟩⟩
        have hc5 := cell_kept hc (grownBy_putObj' _ D (.deferred none)) (fun r e => by cases e; exact ⟨_, hK, rfl⟩)
        refine ⟨.bool false, ?_, rfl, hB.trans (belowK_b (w := w) (Nat.le_refl _) _ D _ _ (by omega) hK rfl rfl)⟩
        simp [results, Try.results25, go_sem, hc5]
end Go.Proofs.Ytfeoaegkhbjaeaa
