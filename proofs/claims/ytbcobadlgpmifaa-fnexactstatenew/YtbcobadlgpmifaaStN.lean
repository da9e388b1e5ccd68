/- StateNew of the specification and of the program: what they answer. No condition. -/
import Derived.Test.YtbcobadlgpmifaaStT
import Derived.Test.YtbcobadlgpmifaaIMem
import Derived.Test.YtbcobadlgpmifaaWordK
import Derived.Deep.RegionHeld3
import Derived.Deep.CutBlock
namespace Go.Proofs.Ytbcobadlgpmifaa
open Go.ChangeShapes Go.WideShapes Go.ChangeAt Go.RowKit
set_option maxRecDepth 100000

section
variable {w w1 w2 : World}
theorem hb_alloc (h : Hid (Below w.heap.size w w1)) (o : Obj) : Hid (Below w.heap.size w (w1.alloc o)) := h.out.alloc h.out.size o
theorem hb_drew (h : Hid (Below w.heap.size w w1)) : Hid (Below w.heap.size w w1.drew) := h.out.drew
theorem hb_set (h : Hid (Below w.heap.size w w1)) {r : Nat} (hr : w.heap.size ≤ r) (i : Nat) (v : Value) : Hid (Below w.heap.size w (w1.setCell ⟨r, i, none⟩ v)) := h.out.setCell (p := ⟨r, i, none⟩) hr v
theorem hb_next (h : Hid (Below w.heap.size w w1)) (k : Hid (Below w1.heap.size w1 w2)) : Hid (Below w.heap.size w w2) := h.out.trans (k.out.mono h.out.size)
end
section
variable {w w' : World} {q r n k : Nat} {R : List Wd} {G : List Bool} {vs : List Value}
theorem outW_alloc (h : OutW w q n k R) (o : Obj) : OutW (w.alloc o) q n k R := h.below ((Below.refl _ _).alloc (Nat.le_refl _) _)
theorem outW_drew (h : OutW w q n k R) : OutW w.drew q n k R := h.below (Below.refl _ _).drew
theorem outW_set (h : OutW w q n k R) (hr : q ≠ r) (i : Nat) (v : Value) : OutW (w.setCell ⟨r, i, none⟩ v) q n k R := h.keepB ((KeepBut.refl r w).setCell i v) hr
theorem outB_alloc (h : OutB w q n k G) (o : Obj) : OutB (w.alloc o) q n k G := h.ofBlock (by simp) (((Below.refl w.heap.size w).alloc (Nat.le_refl _) o).block q h.lt)
theorem outB_set (h : OutB w q n k G) (hr : q ≠ r) (i : Nat) (v : Value) : OutB (w.setCell ⟨r, i, none⟩ v) q n k G := h.ofBlock (by simp) (((KeepBut.refl r w).setCell i v).block q h.lt hr)
theorem outW_made (w : World) (hq : q = w.heap.size) (T : TypeId) : OutW (w.alloc (.cells (madeCells #[.int .i64 0, .bool false, .int .i64 0, .int .i64 0, .int .i64 0, .int .i64 0] 48) T)) q 8 8 (List.replicate 8 wd0) := by
  subst hq
  exact made_fullW w 8 T
theorem cel_at (w : World) (hr : r = w.heap.size) (vs : List Value) (T : TypeId) : Cel (w.alloc (.cells vs.toArray T)) r vs := by
  subst hr
  exact Cel.new w vs T
theorem Cel.set10 {u0 u1 u2 u3 u4 u5 u6 u7 u8 u9 : Value} (h : Cel w r [u0, u1, u2, u3, u4, u5, u6, u7, u8, u9]) (v0 v1 v2 v3 v4 v5 v6 v7 v8 v9 : Value) :
    Cel ((((((((((w.setCell ⟨r, 0, none⟩ v0).setCell ⟨r, 1, none⟩ v1).setCell ⟨r, 2, none⟩ v2).setCell ⟨r, 3, none⟩ v3).setCell ⟨r, 4, none⟩ v4).setCell ⟨r, 5, none⟩ v5).setCell ⟨r, 6, none⟩ v6).setCell ⟨r, 7, none⟩ v7).setCell ⟨r, 8, none⟩ v8).setCell ⟨r, 9, none⟩ v9) r [v0, v1, v2, v3, v4, v5, v6, v7, v8, v9] :=
  (((((((((h.set 0 v0).set 1 v1).set 2 v2).set 3 v3).set 4 v4).set 5 v5).set 6 v6).set 7 v7).set 8 v8).set 9 v9
/-- A row's first word is written. -/
theorem OutW.first6 (h : OutW w q n n R) (hl : R.length = n) (hn : 0 < n) (x : Wd) : OutW ((((((w.setCell ⟨q, 0, none⟩ (.int .i64 x.n)).setCell ⟨q, 1, none⟩ (.bool x.i)).setCell ⟨q, 2, none⟩ (.int .i64 x.b)).setCell ⟨q, 3, none⟩ (.int .i64 x.t)).setCell ⟨q, 4, none⟩ (.int .i64 x.p)).setCell ⟨q, 5, none⟩ (.int .i64 x.s)) q n n (R.set 0 x) := by
  exact (h.row.put hl (i := 0) hn x).out
end

/-- A new state on its way: its block, its rows; nothing that was there has turned. -/
structure NewS (w0 : World) (vs : List Value) (R : List Wd) (r q q1 q2 : Nat) (w : World) : Prop where
  c : Cel w r vs
  rs : OutW w q 8 8 R
  m : OutW w q1 24 24 (List.replicate 24 wd0)
  g : OutB w q2 24 24 (List.replicate 24 false)
  b : Below w0.heap.size w0 w
  ne : w0.heap.size ≤ r ∧ w0.heap.size ≤ q ∧ w0.heap.size ≤ q1 ∧ w0.heap.size ≤ q2 ∧ r ≠ q ∧ r ≠ q1 ∧ r ≠ q2 ∧ q ≠ q1 ∧ q ≠ q2 ∧ q1 ≠ q2

section
variable {w0 w w' : World} {vs : List Value} {R : List Wd} {r q q1 q2 : Nat}
theorem NewS.next (h : NewS w0 vs R r q q1 q2 w) (hb : Below w.heap.size w w') : NewS w0 vs R r q q1 q2 w' :=
  ⟨h.c.below hb, h.rs.below hb, h.m.below hb, h.g.ofBlock hb.size (hb.block q2 h.g.lt), h.b.trans (hb.mono h.b.size), h.ne⟩
theorem NewS.drew (h : NewS w0 vs R r q q1 q2 w) : NewS w0 vs R r q q1 q2 w.drew := h.next (Below.refl _ _).drew
theorem NewS.setc (h : NewS w0 vs R r q q1 q2 w) (i : Nat) (v : Value) : NewS w0 (vs.set i v) R r q q1 q2 (w.setCell ⟨r, i, none⟩ v) := by
  obtain ⟨e0, e1, e2, e3, e4, e5, e6, e7, e8, e9⟩ := h.ne
  exact ⟨h.c.set i v, outW_set h.rs (fun e => e4 e.symm) i v, outW_set h.m (fun e => e5 e.symm) i v, outB_set h.g (fun e => e6 e.symm) i v, h.b.setCell (p := ⟨r, i, none⟩) e0 v, h.ne⟩
theorem NewS.first (h : NewS w0 vs R r q q1 q2 w) (hl : R.length = 8) (x : Wd) : NewS w0 vs (R.set 0 x) r q q1 q2 ((((((w.setCell ⟨q, 0, none⟩ (.int .i64 x.n)).setCell ⟨q, 1, none⟩ (.bool x.i)).setCell ⟨q, 2, none⟩ (.int .i64 x.b)).setCell ⟨q, 3, none⟩ (.int .i64 x.t)).setCell ⟨q, 4, none⟩ (.int .i64 x.p)).setCell ⟨q, 5, none⟩ (.int .i64 x.s)) := by
  obtain ⟨e0, e1, e2, e3, e4, e5, e6, e7, e8, e9⟩ := h.ne
  have k : KeepBut q w ((((((w.setCell ⟨q, 0, none⟩ (.int .i64 x.n)).setCell ⟨q, 1, none⟩ (.bool x.i)).setCell ⟨q, 2, none⟩ (.int .i64 x.b)).setCell ⟨q, 3, none⟩ (.int .i64 x.t)).setCell ⟨q, 4, none⟩ (.int .i64 x.p)).setCell ⟨q, 5, none⟩ (.int .i64 x.s)) := ((((((KeepBut.refl q w).setCell _ _).setCell _ _).setCell _ _).setCell _ _).setCell _ _).setCell _ _
  exact ⟨h.c.keep k e4, h.rs.first6 hl (by decide) x, h.m.keepB k (fun e => e7 e.symm), h.g.ofBlock k.size (k.block q2 h.g.lt (fun e => e8 e.symm)), h.b.trans (k.below e1 h.b.size), h.ne⟩
/-- The registers of a new state. -/
def newR : List Wd := ⟨0, true, 0, 24, 59, 0⟩ :: List.replicate 7 wd0
theorem NewS.ans (h : NewS w0 vs newR r q q1 q2 w) : AnsS (some ⟨q, 0, none⟩) (some ⟨q1, 0, none⟩) (some ⟨q2, 0, none⟩) 8 24 24 newR (List.replicate 24 wd0) (List.replicate 24 false) w := by
  obtain ⟨e0, e1, e2, e3, e4, e5, e6, e7, e8, e9⟩ := h.ne
  exact ⟨.inr ⟨q, rfl, rfl, h.rs⟩, .inr ⟨q1, rfl, by simp, h.m⟩, .inr ⟨q2, rfl, by simp, h.g⟩, fun k h1 h2 => e7 (((on_some q k).1 h1).trans ((on_some q1 k).1 h2).symm), fun k h1 h2 => e8 (((on_some q k).1 h1).trans ((on_some q2 k).1 h2).symm), fun k h1 h2 => e9 (((on_some q1 k).1 h1).trans ((on_some q2 k).1 h2).symm)⟩
theorem NewS.from (h : NewS w0 vs R r q q1 q2 w) : ∀ k, On (some ⟨q, 0, none⟩) k ∨ On (some ⟨q1, 0, none⟩) k ∨ On (some ⟨q2, 0, none⟩) k → w0.heap.size ≤ k := by
  obtain ⟨e0, e1, e2, e3, e4, e5, e6, e7, e8, e9⟩ := h.ne
  rintro k (hk | hk | hk)
  · rw [← (on_some q k).1 hk]; exact e1
  · rw [← (on_some q1 k).1 hk]; exact e2
  · rw [← (on_some q2 k).1 hk]; exact e3
end
theorem kok1 : kokB 0 24 59 0 = true := by decide +kernel
theorem kok2 : kokB 0 48 4 0 = true := by decide +kernel


set_option maxHeartbeats 8000000 in
theorem specStateNew_any (w : World) :
    Calls Try.prog 10 #[] w fun e w' => ∃ q q1 q2, e = .returned (.agg #[.slice (some ⟨q, 0, none⟩) 8 8, .int .i64 0, .bool true, .int .i64 0, .int .i64 48, .int .i64 4, .int .i64 0, .slice (some ⟨q1, 0, none⟩) 24 24, .slice (some ⟨q2, 0, none⟩) 24 24, .int .i64 0]) ∧ AnsS (some ⟨q, 0, none⟩) (some ⟨q1, 0, none⟩) (some ⟨q2, 0, none⟩) 8 24 24 newR (List.replicate 24 wd0) (List.replicate 24 false) w' ∧ (∀ k, On (some ⟨q, 0, none⟩) k ∨ On (some ⟨q1, 0, none⟩) k ∨ On (some ⟨q2, 0, none⟩) k → w.heap.size ≤ k) ∧ Below w.heap.size w w' := by
  have hw : ∀ w : World, (Instr.makeSlice 34 (.int .i64 8) (.int .i64 8)).run Try.prog w = .ok (.slice (some ⟨w.heap.size, 0, none⟩) 8 8) (w.alloc (.cells (madeCells #[.int .i64 0, .bool false, .int .i64 0, .int .i64 0, .int .i64 0, .int .i64 0] (8 * 6)) 37)) := fun w => run_makeWords 8 (by decide) w
  have H := cel_new w [.slice none 0 0, .int .i64 0, .bool false, .int .i64 0, .int .i64 0, .int .i64 0, .int .i64 0, .slice none 0 0, .slice none 0 0, .int .i64 0] 41
  have s1 := specKeyWord_any 0 24 59 0 0
  have s2 := specKeyWord_any 0 48 4 0 0
  simp only [kok1, kok2, cond_true, show (0 : Int) % 65536 = 0 from rfl] at s1 s2
  have S1 := hid_mk s1
  have S2 := hid_mk s2
  clear s1 s2
  generalize hw1 : w.alloc (.cells ([.slice none 0 0, .int .i64 0, .bool false, .int .i64 0, .int .i64 0, .int .i64 0, .int .i64 0, .slice none 0 0, .slice none 0 0, .int .i64 0]).toArray 41) = w1 at H
  go_enter Try.func10, Try.ntmps10
  go_upto_region 1 with fail
  clear hw1
  have F0 : Hid (Below w1.heap.size w1 w1) := Below.refl _ _
  have zF : w.heap.size < w1.heap.size := (H.out.cel (.head _)).lt
  go_cut [1, 2, 3] (fun pv sv mv wx => ∃ r q q1 q2, pv = .pointer (some ⟨r, 0, none⟩) ∧ sv = .slice (some ⟨q, 0, none⟩) 8 8 ∧ mv = .agg #[.slice (some ⟨q1, 0, none⟩) 24 24, .slice (some ⟨q2, 0, none⟩) 24 24] ∧ Hid (NewS w1 [.slice (some ⟨q, 0, none⟩) 8 8, .int .i64 0, .bool false, .int .i64 0, .int .i64 0, .int .i64 0, .int .i64 0, .slice (some ⟨q1, 0, none⟩) 24 24, .slice (some ⟨q2, 0, none⟩) 24 24, .int .i64 0] (List.replicate 8 wd0) r q q1 q2 wx))
  case first =>
    go_region_held3 (fun w' => Hid (Below w1.heap.size w1 w'))
      (repeat' (first | (with_reducible assumption) | (with_reducible apply hb_drew) | (with_reducible apply hb_alloc) | (with_reducible apply hb_next _ KN) | ((with_reducible refine hb_set ?_ ?_ _ _); rotate_left; first | omega | (simp; omega)) | fail))
      (first | (go_at_call 27; refine (specMemoryNew_any _).mono ?_; rintro e w4 ⟨qw, qw', rfl, OW⟩; have KN := hid_mk OW.bel; have zK := OW.bel.size; (try simp at zK); have zn := OW.ne; have za := OW.nq; (try simp at za); have zb := OW.nq'; (try simp at zb); have zc := OW.ws.lt; have zd := OW.gs.lt; (first | (with_reducible have Z := hid_mk ((Cel.new _ [.slice none 0 0, .int .i64 0, .bool false, .int .i64 0, .int .i64 0, .int .i64 0, .int .i64 0, .slice none 0 0, .slice none 0 0, .int .i64 0] 41).below OW.bel); (try rw [World.size_alloc] at Z); have zl := Z.out.lt; obtain ⟨z0, z1, z2, z3, z4, z5, z6, z7, z8, z9⟩ := Z.out.c10; obtain ⟨y0, y1, y2, y3, y4, y5, y6, y7, y8, y9⟩ := Z.out.f10) | (with_reducible have Z := hid_mk ((Cel.new _ [.slice none 0 0, .int .i64 0, .bool false, .int .i64 0, .int .i64 0, .int .i64 0, .int .i64 0, .slice none 0 0, .slice none 0 0, .int .i64 0] 41).drew.below OW.bel); (try rw [World.size_alloc] at Z); have zl := Z.out.lt; obtain ⟨z0, z1, z2, z3, z4, z5, z6, z7, z8, z9⟩ := Z.out.c10; obtain ⟨y0, y1, y2, y3, y4, y5, y6, y7, y8, y9⟩ := Z.out.f10) | (with_reducible have Z := hid_mk (((Cel.new _ [.slice none 0 0, .int .i64 0, .bool false, .int .i64 0, .int .i64 0, .int .i64 0, .int .i64 0, .slice none 0 0, .slice none 0 0, .int .i64 0] 41).alloc _).below OW.bel); (try rw [World.size_alloc] at Z); have zl := Z.out.lt; obtain ⟨z0, z1, z2, z3, z4, z5, z6, z7, z8, z9⟩ := Z.out.c10; obtain ⟨y0, y1, y2, y3, y4, y5, y6, y7, y8, y9⟩ := Z.out.f10) | (with_reducible have Z := hid_mk (((Cel.new _ [.slice none 0 0, .int .i64 0, .bool false, .int .i64 0, .int .i64 0, .int .i64 0, .int .i64 0, .slice none 0 0, .slice none 0 0, .int .i64 0] 41).alloc _).drew.below OW.bel); (try rw [World.size_alloc] at Z); have zl := Z.out.lt; obtain ⟨z0, z1, z2, z3, z4, z5, z6, z7, z8, z9⟩ := Z.out.c10; obtain ⟨y0, y1, y2, y3, y4, y5, y6, y7, y8, y9⟩ := Z.out.f10) | skip); (first | (with_reducible have Y := hid_mk ((made_fullW _ 8 37).below OW.bel); (try rw [World.size_alloc] at Y)) | (with_reducible have Y := hid_mk ((outW_drew (made_fullW _ 8 37)).below OW.bel); (try rw [World.size_alloc] at Y)) | (with_reducible have Y := hid_mk ((outW_alloc (made_fullW _ 8 37) _).below OW.bel); (try rw [World.size_alloc] at Y)) | (with_reducible have Y := hid_mk ((outW_drew (outW_alloc (made_fullW _ 8 37) _)).below OW.bel); (try rw [World.size_alloc] at Y)) | skip); have OW := hid_mk OW))
    all_goals
      go_wp2_with fail
      go_meet
      case rel =>
        refine ⟨_, _, _, _, rfl, rfl, rfl, ⟨?_, ?_, ?_, ?_, (by with_reducible assumption : Hid (Below w1.heap.size w1 _)).out, ?_⟩⟩
        · (first | (with_reducible exact Z.out.set10 _ _ _ _ _ _ _ _ _ _) | (with_reducible exact (Z.out.alloc _).set10 _ _ _ _ _ _ _ _ _ _) | (with_reducible refine cel_at _ ?_ _ _; (first | (with_reducible rfl) | (simp; done))) | (with_reducible refine Cel.alloc ?_ _; with_reducible refine cel_at _ ?_ _ _; (first | (with_reducible rfl) | (simp; done))) | (with_reducible refine Cel.alloc ?_ _; with_reducible exact Z.out.set10 _ _ _ _ _ _ _ _ _ _))
        · (repeat' (first | (with_reducible exact Y.out) | ((with_reducible refine outW_made _ ?_ _); (first | (with_reducible rfl) | (simp; done))) | (with_reducible apply outW_alloc) | ((with_reducible refine outW_set ?_ ?_ _ _); rotate_left; omega) | fail))
        · (repeat' (first | (with_reducible exact OW.out.ws) | (with_reducible apply outW_alloc) | ((with_reducible refine outW_set ?_ ?_ _ _); rotate_left; omega) | fail))
        · (repeat' (first | (with_reducible exact OW.out.gs) | (with_reducible apply outB_alloc) | ((with_reducible refine outB_set ?_ ?_ _ _); rotate_left; omega) | fail))
        · (first | omega | (simp; omega))
  case' rest =>
    obtain ⟨r, q, q1, q2, rfl, rfl, rfl, NS⟩ := hcut
    clear F0 hw
    go_wp2_with fail
    have G0 := hid_mk NS.out.drew
    have N0 := NS
    go_cut [9] (fun pv wx => pv = .pointer (some ⟨q, 0, none⟩) ∧ Hid (NewS w1 [.slice (some ⟨q, 0, none⟩) 8 8, .int .i64 0, .bool false, .int .i64 0, .int .i64 0, .int .i64 0, .int .i64 0, .slice (some ⟨q1, 0, none⟩) 24 24, .slice (some ⟨q2, 0, none⟩) 24 24, .int .i64 0] newR r q q1 q2 wx))
    case first =>
      have zc := NS.out.c.c 0 _ rfl
      clear NS
      go_region_with (first | (go_at_call 28; refine (S1.out _).mono ?_; rintro e w3 ⟨rfl, hb⟩; have N3 := hid_mk (G0.out.next hb); clear hb; have ze := N3.out.c.c 0 _ rfl; obtain ⟨d0, d1, d2, d3, d4, d5⟩ := N3.out.rs.wd 0 wd0 (by decide) rfl; have f0 := N3.out.rs.fr 0 (by decide); have f1 := N3.out.rs.fr 1 (by decide); have f2 := N3.out.rs.fr 2 (by decide); have f3 := N3.out.rs.fr 3 (by decide); have f4 := N3.out.rs.fr 4 (by decide); have f5 := N3.out.rs.fr 5 (by decide)))
      all_goals
        go_wp2_with fail
        go_meet
        case rel =>
          refine ⟨rfl, ?_⟩
          have N4 := N3.out.first rfl ⟨0, true, 0, 24, 59, 0⟩
          exact N4
    case' rest =>
      obtain ⟨rfl, NS⟩ := hcut
      clear G0 N0
      obtain ⟨m0, m1, m2, m3, m4, m5, m6, m7, m8, m9⟩ := NS.out.c.c10
      go_wp2_with fail
      refine (S2.out _).mono ?_
      rintro e w5 ⟨rfl, hb⟩
      replace NS := hid_mk (NS.out.next hb)
      have H5 := hid_mk (H.out.next NS.out.b)
      have HB := hid_mk H.out.bel
      clear hb m0 m1 m2 m3 m4 m5 m6 m7 m8 m9 H
      obtain ⟨o0, o1, o2, o3, o4, o5, o6, o7, o8, o9⟩ := NS.out.c.c10
      obtain ⟨g0, g1, g2, g3, g4, g5, g6, g7, g8, g9⟩ := NS.out.c.f10
      go_upto_region 4 with fail
      clear o0 o1 o2 o3 o4 o5 o6 o7 o8 o9 g0 g1 g2 g3 g4 g5 g6 g7 g8 g9
      replace NS : Hid (NewS w1 [.slice (some ⟨q, 0, none⟩) 8 8, .int .i64 0, .bool true, .int .i64 0, .int .i64 48, .int .i64 4, .int .i64 0, .slice (some ⟨q1, 0, none⟩) 24 24, .slice (some ⟨q2, 0, none⟩) 24 24, .int .i64 0] newR r q q1 q2 ((((((w5.setCell ⟨r, 1, none⟩ (.int .i64 0)).setCell ⟨r, 2, none⟩ (.bool true)).setCell ⟨r, 3, none⟩ (.int .i64 0)).setCell ⟨r, 4, none⟩ (.int .i64 48)).setCell ⟨r, 5, none⟩ (.int .i64 4)).setCell ⟨r, 6, none⟩ (.int .i64 0))) := ((((((NS.out.setc 1 (.int .i64 0)).setc 2 (.bool true)).setc 3 (.int .i64 0)).setc 4 (.int .i64 48)).setc 5 (.int .i64 4)).setc 6 (.int .i64 0))
      have hr : w.heap.size ≠ r := by
        have := NS.out.ne.1
        omega
      have C5 : Hid (Cel ((((((w5.setCell ⟨r, 1, none⟩ (.int .i64 0)).setCell ⟨r, 2, none⟩ (.bool true)).setCell ⟨r, 3, none⟩ (.int .i64 0)).setCell ⟨r, 4, none⟩ (.int .i64 48)).setCell ⟨r, 5, none⟩ (.int .i64 4)).setCell ⟨r, 6, none⟩ (.int .i64 0)) w.heap.size [.slice none 0 0, .int .i64 0, .bool false, .int .i64 0, .int .i64 0, .int .i64 0, .int .i64 0, .slice none 0 0, .slice none 0 0, .int .i64 0]) := ((((((H5.out.cel (.head _)).other hr 1 _).other hr 2 _).other hr 3 _).other hr 4 _).other hr 5 _).other hr 6 _
      generalize ((((((w5.setCell ⟨r, 1, none⟩ (.int .i64 0)).setCell ⟨r, 2, none⟩ (.bool true)).setCell ⟨r, 3, none⟩ (.int .i64 0)).setCell ⟨r, 4, none⟩ (.int .i64 48)).setCell ⟨r, 5, none⟩ (.int .i64 4)).setCell ⟨r, 6, none⟩ (.int .i64 0)) = w9 at NS C5 ⊢
      clear H5
      obtain ⟨o0, o1, o2, o3, o4, o5, o6, o7, o8, o9⟩ := NS.out.c.c10
      obtain ⟨p0, p1, p2, p3, p4, p5, p6, p7, p8, p9⟩ := C5.out.c10
      obtain ⟨h0, h1, h2, h3, h4, h5, h6, h7, h8, h9⟩ := C5.out.f10
      go_wp2
      refine bodyPost_ret (v := .agg #[.slice (some ⟨q, 0, none⟩) 8 8, .int .i64 0, .bool true, .int .i64 0, .int .i64 48, .int .i64 4, .int .i64 0, .slice (some ⟨q1, 0, none⟩) 24 24, .slice (some ⟨q2, 0, none⟩) 24 24, .int .i64 0]) (by simp [results, Try.results10, go_sem, p0, p1, p2, p3, p4, p5, p6, p7, p8, p9]) rfl ⟨q, q1, q2, rfl, ?_⟩
      have k := (((((((((((KeepBut.refl w.heap.size w9).setCell 0 (.slice (some ⟨q, 0, none⟩) 8 8)).setCell 1 (.int .i64 0)).setCell 2 (.bool true)).setCell 3 (.int .i64 0)).setCell 4 (.int .i64 48)).setCell 5 (.int .i64 4)).setCell 6 (.int .i64 0)).setCell 7 (.slice (some ⟨q1, 0, none⟩) 24 24)).setCell 8 (.slice (some ⟨q2, 0, none⟩) 24 24)).setCell 9 (.int .i64 0))
      have A := NS.out.ans
      have zr : w.heap.size < w1.heap.size := zF
      exact ⟨(ansSF _ _ _ 8 24 24 newR (List.replicate 24 wd0) (List.replicate 24 false)).keep w9 _ A k.size (fun j hj ho => k.block j hj (by have := NS.out.from j ho; omega)), fun j hj => by have := NS.out.from j hj; omega, (HB.out.trans (NS.out.b.mono HB.out.size)).trans (k.below (Nat.le_refl _) (Nat.le_trans HB.out.size NS.out.b.size))⟩


set_option maxHeartbeats 8000000 in
theorem implStateNew_any (w : World) :
    Calls Try.prog 11 #[] w fun e w' => ∃ q q1 q2, e = .returned (.agg #[.slice (some ⟨q, 0, none⟩) 8 8, .int .i64 0, .bool true, .int .i64 0, .int .i64 48, .int .i64 4, .int .i64 0, .slice (some ⟨q1, 0, none⟩) 24 24, .slice (some ⟨q2, 0, none⟩) 24 24, .int .i64 0]) ∧ AnsS (some ⟨q, 0, none⟩) (some ⟨q1, 0, none⟩) (some ⟨q2, 0, none⟩) 8 24 24 newR (List.replicate 24 wd0) (List.replicate 24 false) w' ∧ (∀ k, On (some ⟨q, 0, none⟩) k ∨ On (some ⟨q1, 0, none⟩) k ∨ On (some ⟨q2, 0, none⟩) k → w.heap.size ≤ k) ∧ Below w.heap.size w w' := by
  have hw : ∀ w : World, (Instr.makeSlice 34 (.int .i64 8) (.int .i64 8)).run Try.prog w = .ok (.slice (some ⟨w.heap.size, 0, none⟩) 8 8) (w.alloc (.cells (madeCells #[.int .i64 0, .bool false, .int .i64 0, .int .i64 0, .int .i64 0, .int .i64 0] (8 * 6)) 37)) := fun w => run_makeWords 8 (by decide) w
  have H := cel_new w [.slice none 0 0, .int .i64 0, .bool false, .int .i64 0, .int .i64 0, .int .i64 0, .int .i64 0, .slice none 0 0, .slice none 0 0, .int .i64 0] 41
  have s1 := implKeyWord_any 0 24 59 0 0
  have s2 := implKeyWord_any 0 48 4 0 0
  simp only [kok1, kok2, cond_true, show (0 : Int) % 65536 = 0 from rfl] at s1 s2
  have S1 := hid_mk s1
  have S2 := hid_mk s2
  clear s1 s2
  generalize hw1 : w.alloc (.cells ([.slice none 0 0, .int .i64 0, .bool false, .int .i64 0, .int .i64 0, .int .i64 0, .int .i64 0, .slice none 0 0, .slice none 0 0, .int .i64 0]).toArray 41) = w1 at H
  go_enter Try.func11, Try.ntmps11
  go_upto_region 1 with fail
  clear hw1
  have zF : w.heap.size < w1.heap.size := (H.out.cel (.head _)).lt
  have O := hid_mk (made_fullW w1 8 37)
  replace H := hid_mk (H.out.alloc (.cells (madeCells #[.int .i64 0, .bool false, .int .i64 0, .int .i64 0, .int .i64 0, .int .i64 0] (8 * 6)) 37))
  go_upto_region 2 with fail
  clear hw
  have zO := O.out.lt
  generalize w1.alloc (.cells (madeCells #[.int .i64 0, .bool false, .int .i64 0, .int .i64 0, .int .i64 0, .int .i64 0] 48) 37) = w2 at H O zO ⊢
  generalize w1.heap.size = q at zF H O zO ⊢
  go_wp2_with fail
  refine (S1.out _).mono ?_
  rintro e w3 ⟨rfl, hb⟩
  replace O := hid_mk (O.out.below hb)
  replace H := hid_mk (H.out.next hb)
  obtain ⟨d0, d1, d2, d3, d4, d5⟩ := O.out.wd 0 wd0 (by decide) rfl
  have f0 := O.out.fr 0 (by decide)
  have f1 := O.out.fr 1 (by decide)
  have f2 := O.out.fr 2 (by decide)
  have f3 := O.out.fr 3 (by decide)
  have f4 := O.out.fr 4 (by decide)
  have f5 := O.out.fr 5 (by decide)
  go_upto_region 3 with fail
  clear d0 d1 d2 d3 d4 d5 f0 f1 f2 f3 f4 f5 hb
  have O4 : Hid (OutW ((((((w3.setCell ⟨q, 0, none⟩ (.int .i64 0)).setCell ⟨q, 1, none⟩ (.bool true)).setCell ⟨q, 2, none⟩ (.int .i64 0)).setCell ⟨q, 3, none⟩ (.int .i64 24)).setCell ⟨q, 4, none⟩ (.int .i64 59)).setCell ⟨q, 5, none⟩ (.int .i64 0)) q 8 8 newR) := O.out.first6 rfl (by decide) ⟨0, true, 0, 24, 59, 0⟩
  have H4 : Hid (Hold w ((((((w3.setCell ⟨q, 0, none⟩ (.int .i64 0)).setCell ⟨q, 1, none⟩ (.bool true)).setCell ⟨q, 2, none⟩ (.int .i64 0)).setCell ⟨q, 3, none⟩ (.int .i64 24)).setCell ⟨q, 4, none⟩ (.int .i64 59)).setCell ⟨q, 5, none⟩ (.int .i64 0)) [celF w.heap.size [.slice none 0 0, .int .i64 0, .bool false, .int .i64 0, .int .i64 0, .int .i64 0, .int .i64 0, .slice none 0 0, .slice none 0 0, .int .i64 0]]) := H.out.wrote (T := fun k => k = q) (KeptS.ofBut ((((((KeepBut.refl q w3).setCell _ _).setCell _ _).setCell _ _).setCell _ _).setCell _ _ |>.setCell _ _) rfl) (fun k e => by omega) (fun f hf k hk => by
    simp only [List.mem_cons, List.not_mem_nil, or_false] at hf
    subst hf
    simp only [celF] at hk
    omega)
  generalize ((((((w3.setCell ⟨q, 0, none⟩ (.int .i64 0)).setCell ⟨q, 1, none⟩ (.bool true)).setCell ⟨q, 2, none⟩ (.int .i64 0)).setCell ⟨q, 3, none⟩ (.int .i64 24)).setCell ⟨q, 4, none⟩ (.int .i64 59)).setCell ⟨q, 5, none⟩ (.int .i64 0)) = w4 at H4 O4 ⊢
  clear H O zO
  go_wp2_with fail
  refine (S2.out _).mono ?_
  rintro e w5 ⟨rfl, hb⟩
  have O6 := hid_mk (outW_alloc (O4.out.below hb) (.cells ([.int .i64 0, .bool true, .int .i64 0, .int .i64 48, .int .i64 4, .int .i64 0] : List Value).toArray 37))
  have zq : q < w5.heap.size := (O4.out.below hb).lt
  have H6 := hid_mk (((H4.out.next hb).alloc (.cells ([.int .i64 0, .bool true, .int .i64 0, .int .i64 48, .int .i64 4, .int .i64 0] : List Value).toArray 37)).push (celF w5.heap.size [.int .i64 0, .bool true, .int .i64 0, .int .i64 48, .int .i64 4, .int .i64 0]) (Cel.new w5 [.int .i64 0, .bool true, .int .i64 0, .int .i64 48, .int .i64 4, .int .i64 0] 37))
  clear hb H4 O4
  go_upto_region 4 with fail
  generalize w5.alloc (.cells ([.int .i64 0, .bool true, .int .i64 0, .int .i64 48, .int .i64 4, .int .i64 0] : List Value).toArray 37) = w6 at H6 O6 ⊢
  generalize w5.heap.size = p at H6 zq ⊢
  obtain ⟨p0, p1, p2, p3, p4, p5⟩ : _ ∧ _ ∧ _ ∧ _ ∧ _ ∧ _ := ⟨(H6.out.cel (.head _)).c 0 _ rfl, (H6.out.cel (.head _)).c 1 _ rfl, (H6.out.cel (.head _)).c 2 _ rfl, (H6.out.cel (.head _)).c 3 _ rfl, (H6.out.cel (.head _)).c 4 _ rfl, (H6.out.cel (.head _)).c 5 _ rfl⟩
  go_wp2_with fail
  go_region_with (first | (go_at_call 30; refine (implMemoryNew_any _).mono ?_; rintro e w7 ⟨qw, qw', rfl, OW⟩; have H7 := hid_mk (H6.out.drew.next OW.bel); have O7 := hid_mk ((outW_drew O6.out).below OW.bel); have zn := OW.ne; have za := OW.nq; (try simp at za); have zb := OW.nq'; (try simp at zb); have OW := hid_mk OW; obtain ⟨m0, m1, m2, m3, m4, m5⟩ : _ ∧ _ ∧ _ ∧ _ ∧ _ ∧ _ := ⟨(H7.out.cel (.head _)).c 0 _ rfl, (H7.out.cel (.head _)).c 1 _ rfl, (H7.out.cel (.head _)).c 2 _ rfl, (H7.out.cel (.head _)).c 3 _ rfl, (H7.out.cel (.head _)).c 4 _ rfl, (H7.out.cel (.head _)).c 5 _ rfl⟩; obtain ⟨o0, o1, o2, o3, o4, o5, o6, o7, o8, o9⟩ := (H7.out.cel (.tail _ (.head _))).c10; obtain ⟨g0, g1, g2, g3, g4, g5, g6, g7, g8, g9⟩ := (H7.out.cel (.tail _ (.head _))).f10))
  all_goals
    go_wp2
    refine bodyPost_ret (v := .agg #[.slice (some ⟨q, 0, none⟩) 8 8, .int .i64 0, .bool true, .int .i64 0, .int .i64 48, .int .i64 4, .int .i64 0, .slice (some ⟨qw, 0, none⟩) 24 24, .slice (some ⟨qw', 0, none⟩) 24 24, .int .i64 0]) (by simp [results, Try.results11, go_sem, o0, o1, o2, o3, o4, o5, o6, o7, o8, o9]) rfl ⟨q, qw, qw', rfl, ?_⟩
    have k := (((((((((((KeepBut.refl w.heap.size w7).setCell 0 (.slice (some ⟨q, 0, none⟩) 8 8)).setCell 1 (.int .i64 0)).setCell 2 (.bool true)).setCell 3 (.int .i64 0)).setCell 4 (.int .i64 48)).setCell 5 (.int .i64 4)).setCell 6 (.int .i64 0)).setCell 7 (.slice (some ⟨qw, 0, none⟩) 24 24)).setCell 8 (.slice (some ⟨qw', 0, none⟩) 24 24)).setCell 9 (.int .i64 0))
    have zt : q < w6.heap.size := O6.out.lt
    have A : AnsS (some ⟨q, 0, none⟩) (some ⟨qw, 0, none⟩) (some ⟨qw', 0, none⟩) 8 24 24 newR (List.replicate 24 wd0) (List.replicate 24 false) w7 := ⟨.inr ⟨q, rfl, rfl, O7.out⟩, .inr ⟨qw, rfl, by simp, OW.out.ws⟩, .inr ⟨qw', rfl, by simp, OW.out.gs⟩, fun k h1 h2 => by
      have e1 := (on_some q k).1 h1
      have e2 := (on_some qw k).1 h2
      omega, fun k h1 h2 => by
      have e1 := (on_some q k).1 h1
      have e2 := (on_some qw' k).1 h2
      omega, fun k h1 h2 => by
      have e1 := (on_some qw k).1 h1
      have e2 := (on_some qw' k).1 h2
      omega⟩
    have hz6 : w.heap.size ≤ w6.heap.size := H6.out.bel.size
    have hfr : ∀ j, On (some ⟨q, 0, none⟩) j ∨ On (some ⟨qw, 0, none⟩) j ∨ On (some ⟨qw', 0, none⟩) j → w.heap.size < j := by
      rintro j (hj | hj | hj)
      · rw [← (on_some q j).1 hj]; exact zF
      · rw [← (on_some qw j).1 hj]; omega
      · rw [← (on_some qw' j).1 hj]; omega
    exact ⟨(ansSF _ _ _ 8 24 24 newR (List.replicate 24 wd0) (List.replicate 24 false)).keep w7 _ A k.size (fun j hj ho => k.block j hj (by have := hfr j ho; omega)), fun j hj => by have := hfr j hj; omega, H7.out.bel.trans (k.below (Nat.le_refl _) H7.out.bel.size)⟩

end Go.Proofs.Ytbcobadlgpmifaa
