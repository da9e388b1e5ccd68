/- l2DrawTwo, DrawCovers, DrawMeet: each returns two Keys of some four ints each, and turns nothing that was there. -/
import Derived.Test.YtackeckfhnpaaaaDrawK2
namespace Go.Proofs.Ytackeckfhnpaaaa
open Go.ChangeShapes Go.WideShapes Go.ChangeAt Go.RowKit

theorem two_all {w : World} {r r' : Nat} {x0 x1 x2 x3 x4 x5 x6 x7 : Int} (a : Four w r x0 x1 x2 x3) (b : Four w r' x4 x5 x6 x7) :
    w.cell? ⟨r, 0, none⟩ = some (.int .i64 x0) ∧ w.cell? ⟨r, 1, none⟩ = some (.int .i64 x1) ∧ w.cell? ⟨r, 2, none⟩ = some (.int .i64 x2) ∧ w.cell? ⟨r, 3, none⟩ = some (.int .i64 x3) ∧
    w.cell? ⟨r', 0, none⟩ = some (.int .i64 x4) ∧ w.cell? ⟨r', 1, none⟩ = some (.int .i64 x5) ∧ w.cell? ⟨r', 2, none⟩ = some (.int .i64 x6) ∧ w.cell? ⟨r', 3, none⟩ = some (.int .i64 x7) :=
  ⟨a.c0, a.c1, a.c2, a.c3, b.c0, b.c1, b.c2, b.c3⟩
/-- Four cells written in a row into one block leave a key in another one as it was. -/
theorem Four.others {w : World} {r : Nat} {x y z v : Int} (h : Four w r x y z v) {u : Nat} (hr : r ≠ u) (a b c d : Value) :
    Four ((((w.setCell ⟨u, 0, none⟩ a).setCell ⟨u, 1, none⟩ b).setCell ⟨u, 2, none⟩ c).setCell ⟨u, 3, none⟩ d) r x y z v := (((h.other hr _ _).other hr _ _).other hr _ _).other hr _ _

/-- Two keys that are being drawn, in ra and rb; the cursor in q; the call's two results still zero; nothing that was there in w0 has turned. -/
structure Make2 (w0 : World) (q ra rb : Nat) (a : Option Addr) (len cap : Nat) (x0 x1 x2 x3 x4 x5 x6 x7 : Int) (w : World) : Prop where
  ka : Four w ra x0 x1 x2 x3
  kb : Four w rb x4 x5 x6 x7
  z1 : Four w w0.heap.size 0 0 0 0
  z2 : Four w (w0.heap.size + 1) 0 0 0 0
  d : Drawn q q w a len cap
  k : Below w0.heap.size w0 w
  hq : q = w0.heap.size + 1 + 1
  ha : q < ra
  hb : ra < rb
section
variable {w0 w w' : World} {q ra rb : Nat} {a : Option Addr} {len cap : Nat} {x0 x1 x2 x3 x4 x5 x6 x7 : Int}
theorem Make2.moved (h : Make2 w0 q ra rb a len cap x0 x1 x2 x3 x4 x5 x6 x7 w) (d : Drawn q q w' a len cap) (k : KeepBut q w w') : Make2 w0 q ra rb a len cap x0 x1 x2 x3 x4 x5 x6 x7 w' := by
  have h1 := h.hq; have h2 := h.ha; have h3 := h.hb
  exact ⟨h.ka.keep k (by omega), h.kb.keep k (by omega), h.z1.keep k (by omega), h.z2.keep k (by omega), d, h.k.trans (k.below (by omega) h.k.size), h.hq, h.ha, h.hb⟩
theorem Make2.drew (h : Make2 w0 q ra rb a len cap x0 x1 x2 x3 x4 x5 x6 x7 w) : Make2 w0 q ra rb a len cap x0 x1 x2 x3 x4 x5 x6 x7 w.drew :=
  ⟨h.ka.drew, h.kb.drew, h.z1.drew, h.z2.drew, h.d.drew, h.k.drew, h.hq, h.ha, h.hb⟩
theorem Make2.setB0 (h : Make2 w0 q ra rb a len cap x0 x1 x2 x3 x4 x5 x6 x7 w) (n : Int) : Make2 w0 q ra rb a len cap x0 x1 x2 x3 n x5 x6 x7 (w.setCell ⟨rb, 0, none⟩ (.int .i64 n)) := by
  have h1 := h.hq; have h2 := h.ha; have h3 := h.hb
  exact ⟨h.ka.other (by omega) _ _, h.kb.set0 n, h.z1.other (by omega) _ _, h.z2.other (by omega) _ _, h.d.setNew (by omega) (by omega) _ _, h.k.setCell (by show _ ≤ rb; omega) _, h.hq, h.ha, h.hb⟩
theorem Make2.setB1 (h : Make2 w0 q ra rb a len cap x0 x1 x2 x3 x4 x5 x6 x7 w) (n : Int) : Make2 w0 q ra rb a len cap x0 x1 x2 x3 x4 n x6 x7 (w.setCell ⟨rb, 1, none⟩ (.int .i64 n)) := by
  have h1 := h.hq; have h2 := h.ha; have h3 := h.hb
  exact ⟨h.ka.other (by omega) _ _, h.kb.set1 n, h.z1.other (by omega) _ _, h.z2.other (by omega) _ _, h.d.setNew (by omega) (by omega) _ _, h.k.setCell (by show _ ≤ rb; omega) _, h.hq, h.ha, h.hb⟩
theorem Make2.setB2 (h : Make2 w0 q ra rb a len cap x0 x1 x2 x3 x4 x5 x6 x7 w) (n : Int) : Make2 w0 q ra rb a len cap x0 x1 x2 x3 x4 x5 n x7 (w.setCell ⟨rb, 2, none⟩ (.int .i64 n)) := by
  have h1 := h.hq; have h2 := h.ha; have h3 := h.hb
  exact ⟨h.ka.other (by omega) _ _, h.kb.set2 n, h.z1.other (by omega) _ _, h.z2.other (by omega) _ _, h.d.setNew (by omega) (by omega) _ _, h.k.setCell (by show _ ≤ rb; omega) _, h.hq, h.ha, h.hb⟩
theorem Make2.setB3 (h : Make2 w0 q ra rb a len cap x0 x1 x2 x3 x4 x5 x6 x7 w) (n : Int) : Make2 w0 q ra rb a len cap x0 x1 x2 x3 x4 x5 x6 n (w.setCell ⟨rb, 3, none⟩ (.int .i64 n)) := by
  have h1 := h.hq; have h2 := h.ha; have h3 := h.hb
  exact ⟨h.ka.other (by omega) _ _, h.kb.set3 n, h.z1.other (by omega) _ _, h.z2.other (by omega) _ _, h.d.setNew (by omega) (by omega) _ _, h.k.setCell (by show _ ≤ rb; omega) _, h.hq, h.ha, h.hb⟩
end

set_option maxRecDepth 100000 in
set_option maxHeartbeats 8000000 in
theorem drawTwo_any {w : World} {a : Option Addr} {len cap : Nat} (hc : Code8 w.heap.size w a len) :
    Calls Try.prog 22 #[.slice a len cap] w fun e w' => ∃ x0 x1 x2 x3 x4 x5 x6 x7 : Int, e = .returned (.tuple #[.agg #[.int .i64 x0, .int .i64 x1, .int .i64 x2, .int .i64 x3], .agg #[.int .i64 x4, .int .i64 x5, .int .i64 x6, .int .i64 x7]]) ∧ Below w.heap.size w w' := by
  have T0 := hid_mk (TwoK.new w 0 0 0 0 0 0 0 0 25 25)
  have hs : ((w.alloc (.cells #[.int .i64 0, .int .i64 0, .int .i64 0, .int .i64 0] 25)).alloc (.cells #[.int .i64 0, .int .i64 0, .int .i64 0, .int .i64 0] 25)).heap.size = w.heap.size + 1 + 1 := by simp
  have C : Hid (Code8 (w.heap.size + 1 + 1) ((w.alloc (.cells #[.int .i64 0, .int .i64 0, .int .i64 0, .int .i64 0] 25)).alloc (.cells #[.int .i64 0, .int .i64 0, .int .i64 0, .int .i64 0] 25)) a len) := hs ▸ hc.later T0.out.k
  clear hc
  go_enter Try.func22, Try.ntmps22
  go_wp2_with fail
  refine (d_new (by rw [hs]; exact C.out)).mono ?_
  rw [hs]
  rintro e w1 ⟨rfl, d1, b1⟩
  have T1 := hid_mk (T0.out.next (by rw [hs]; exact b1))
  have D1 := hid_mk d1
  clear d1 b1 C hs T0
  go_wp2_with fail
  refine (d_key D1.out).mono ?_
  rintro e w2 ⟨x0, x1, x2, x3, rfl, d2, k2⟩
  have A2 := hid_mk (Four.new w2 x0 x1 x2 x3 25)
  have P2 := hid_mk ((T1.out.a.keep k2 (by omega)).alloc (.cells #[.int .i64 x0, .int .i64 x1, .int .i64 x2, .int .i64 x3] 25))
  have Q2 := hid_mk ((T1.out.b.keep k2 (by omega)).alloc (.cells #[.int .i64 x0, .int .i64 x1, .int .i64 x2, .int .i64 x3] 25))
  have K2 := hid_mk ((T1.out.k.trans (k2.below (by omega) T1.out.k.size)).alloc (by have := k2.size; have := T1.out.k.size; omega) (.cells #[.int .i64 x0, .int .i64 x1, .int .i64 x2, .int .i64 x3] 25))
  have D2 := hid_mk (d2.alloc (.cells #[.int .i64 x0, .int .i64 x1, .int .i64 x2, .int .i64 x3] 25))
  have l2 : w.heap.size + 1 + 1 < w2.heap.size := d2.lt
  clear d2 k2 T1 D1
  go_wp2_with fail
  refine (d_key D2.out).mono ?_
  rintro e w3 ⟨x4, x5, x6, x7, rfl, d3, k3⟩
  have z3 := k3.size
  simp at z3
  have M3 : Hid (Make2 w (w.heap.size + 1 + 1) w2.heap.size w3.heap.size a len cap x0 x1 x2 x3 x4 x5 x6 x7 (w3.alloc (.cells #[.int .i64 x4, .int .i64 x5, .int .i64 x6, .int .i64 x7] 25))) :=
    ⟨(A2.out.keep k3 (by omega)).alloc _, Four.new _ _ _ _ _ _, (P2.out.keep k3 (by omega)).alloc _, (Q2.out.keep k3 (by omega)).alloc _, d3.alloc _,
      (K2.out.trans (k3.below (by omega) (by simp; omega))).alloc (by omega) _, rfl, by omega, by omega⟩
  clear d3 k3 A2 P2 Q2 K2 D2
  go_wp2_with fail
  refine (d_once 2 M3.out.d).mono ?_
  rintro e w4 ⟨o, rfl, d4, k4⟩
  have M4 := hid_mk (M3.out.moved d4 k4)
  clear d4 k4 M3
  obtain ⟨ra, hra⟩ : ∃ r, r = w2.heap.size := ⟨_, rfl⟩
  obtain ⟨rb, hrb⟩ : ∃ r, r = w3.heap.size := ⟨_, rfl⟩
  rw [← hra, ← hrb] at M4 ⊢
  clear hra hrb l2 z3 w1 w2 w3
  go_upto_if 14 with fail
  go_cut [] (fun wx => ∃ x0 x1 x2 x3 x4 x5 x6 x7 : Int, Hid (Make2 w (w.heap.size + 1 + 1) ra rb a len cap x0 x1 x2 x3 x4 x5 x6 x7 wx))
  case first =>
    cases o
    · go_wp2
      go_meet
      case rel => exact ⟨_, _, _, _, _, _, _, _, M4.out⟩
    · obtain ⟨_, a0, a1, a2, a3, _, _, _, _⟩ := M4.out.ka
      obtain ⟨_, c0, c1, c2, c3, f0, f1, f2, f3⟩ := M4.out.kb
      have M5 := hid_mk ((((M4.out.setB0 x0).setB1 x1).setB2 x2).setB3 x3)
      have M6 := hid_mk M5.out.drew
      go_wp2_with fail
      go_region_held3 (fun w' => w'.cell? ⟨ra, 2, none⟩ = some (.int .i64 x2)) (first | (with_reducible exact M6.out.ka.c2) | (with_reducible exact M7.out.ka.c2) | (with_reducible exact (M7.out.setB2 _).ka.c2) | fail)
        (first
          | (go_at_call 32; refine (d_below 64 M6.out.d).mono ?_; rintro e w7 ⟨y, rfl, _, hy, d7, k7⟩; have M7 := hid_mk (M6.out.moved d7 k7); obtain ⟨_, a0, a1, a2, a3, _, _, _, _⟩ := M7.out.ka; obtain ⟨_, c0, c1, c2, c3, f0, f1, f2, f3⟩ := M7.out.kb; clear d7 k7 hy))
      have M8 := hid_mk (M7.out.setB2 (bits .and .i64 x2 y))
      obtain ⟨_, a0, a1, a2, a3, _, _, _, _⟩ := M8.out.ka
      obtain ⟨_, c0, c1, c2, c3, f0, f1, f2, f3⟩ := M8.out.kb
      go_wp2
      all_goals
        go_meet
        case rel => first | exact ⟨_, _, _, _, _, _, _, _, M8.out⟩ | exact ⟨_, _, _, _, _, _, _, _, M8.out.setB0 _⟩
  case rest =>
    obtain ⟨x0, x1, x2, x3, x4, x5, x6, x7, M5⟩ := hcut
    clear M4
    have n1 : ra ≠ w.heap.size := by have := M5.out.ha; omega
    have n2 : rb ≠ w.heap.size := by have := M5.out.ha; have := M5.out.hb; omega
    have n3 : ra ≠ w.heap.size + 1 := by have := M5.out.ha; omega
    have n4 : rb ≠ w.heap.size + 1 := by have := M5.out.ha; have := M5.out.hb; omega
    obtain ⟨_, z0, z1, z2, z3, f0, f1, f2, f3⟩ := M5.out.z1
    obtain ⟨_, y0, y1, y2, y3, g0, g1, g2, g3⟩ := M5.out.z2
    have M6 := hid_mk M5.out.drew
    go_wp2_with fail
    go_region_held3 (fun w' => w'.cell? ⟨ra, 0, none⟩ = some (.int .i64 x0) ∧ w'.cell? ⟨ra, 1, none⟩ = some (.int .i64 x1) ∧ w'.cell? ⟨ra, 2, none⟩ = some (.int .i64 x2) ∧ w'.cell? ⟨ra, 3, none⟩ = some (.int .i64 x3) ∧ w'.cell? ⟨rb, 0, none⟩ = some (.int .i64 x4) ∧ w'.cell? ⟨rb, 1, none⟩ = some (.int .i64 x5) ∧ w'.cell? ⟨rb, 2, none⟩ = some (.int .i64 x6) ∧ w'.cell? ⟨rb, 3, none⟩ = some (.int .i64 x7))
      (first
        | (with_reducible exact two_all M6.out.ka M6.out.kb)
        | (with_reducible exact two_all (M6.out.ka.others n1 _ _ _ _) (M6.out.kb.others n2 _ _ _ _))
        | (with_reducible exact two_all (M6.out.ka.others n3 _ _ _ _) (M6.out.kb.others n4 _ _ _ _))
        | (with_reducible exact two_all ((M6.out.ka.others n1 _ _ _ _).others n3 _ _ _ _) ((M6.out.kb.others n2 _ _ _ _).others n4 _ _ _ _))
        | (with_reducible exact two_all ((M6.out.ka.others n3 _ _ _ _).others n1 _ _ _ _) ((M6.out.kb.others n4 _ _ _ _).others n2 _ _ _ _))
        | (with_reducible exact two_all (M5.out.ka.others n1 _ _ _ _).drew (M5.out.kb.others n2 _ _ _ _).drew)
        | (with_reducible exact two_all (M5.out.ka.others n3 _ _ _ _).drew (M5.out.kb.others n4 _ _ _ _).drew)
        | (with_reducible exact two_all ((M5.out.ka.others n1 _ _ _ _).others n3 _ _ _ _).drew ((M5.out.kb.others n2 _ _ _ _).others n4 _ _ _ _).drew)
        | (with_reducible exact two_all ((M5.out.ka.others n3 _ _ _ _).others n1 _ _ _ _).drew ((M5.out.kb.others n4 _ _ _ _).others n2 _ _ _ _).drew)
        | fail) (fail)
    all_goals
      go_wp2
      refine bodyPost_ret (v := .tuple #[.agg #[.int .i64 x0, .int .i64 x1, .int .i64 x2, .int .i64 x3], .agg #[.int .i64 x4, .int .i64 x5, .int .i64 x6, .int .i64 x7]]) (by simp [results, Try.results22, go_sem, z0, z1, z2, z3, y0, y1, y2, y3]) rfl ⟨_, _, _, _, _, _, _, _, rfl, ?_⟩
      repeat' (first | (with_reducible exact M5.out.k) | (with_reducible apply Below.drew) | (with_reducible refine Below.setCell ?_ ?_ _) | (simp; done) | (simp; omega))
end Go.Proofs.Ytackeckfhnpaaaa
