/- toMemory, markMemory and heldMemory of the laws: memories of the call's own; what is marked is held. No condition but that the lists are no longer than the law lets them be. -/
import Derived.Test.YtfeoaegkhbjaeaaMemM
namespace Go.Proofs.Ytfeoaegkhbjaeaa
open Go.ChangeShapes Go.WideShapes Go.ChangeAt Go.RowKit
set_option maxRecDepth 100000

/-- Three memories' blocks, one behind the other, beside what was there at first. -/
structure Mt (w0 : World) (v0 v1 u0 u1 x0 x1 : Value) (w : World) : Prop where
  a : Duo w w0.heap.size v0 v1
  r : Duo w (w0.heap.size + 1) u0 u1
  o : Duo w (w0.heap.size + 1 + 1) x0 x1
  bel : Below w0.heap.size w0 w
section
variable {w0 w w' : World} {v0 v1 u0 u1 x0 x1 : Value}
theorem Mt.new (w : World) (v0 v1 u0 u1 x0 x1 : Value) (T U V : TypeId) : Mt w v0 v1 u0 u1 x0 x1 (((w.alloc (.cells #[v0, v1] T)).alloc (.cells #[u0, u1] U)).alloc (.cells #[x0, x1] V)) := by
  have h1 := Duo.new (w.alloc (.cells #[v0, v1] T)) u0 u1 U
  have h2 := Duo.new ((w.alloc (.cells #[v0, v1] T)).alloc (.cells #[u0, u1] U)) x0 x1 V
  rw [World.size_alloc] at h1
  rw [World.size_alloc, World.size_alloc] at h2
  exact ⟨((Duo.new w v0 v1 T).alloc _).alloc _, h1.alloc _, h2, (((Below.refl _ w).alloc (Nat.le_refl _) _).alloc (by simp) _).alloc (by simp; omega) _⟩
theorem Mt.next (h : Mt w0 v0 v1 u0 u1 x0 x1 w) (hb : Below w.heap.size w w') : Mt w0 v0 v1 u0 u1 x0 x1 w' := ⟨h.a.below hb, h.r.below hb, h.o.below hb, h.bel.trans (hb.mono h.bel.size)⟩
theorem Mt.set0 (h : Mt w0 v0 v1 u0 u1 x0 x1 w) (v : Value) : Mt w0 v0 v1 u0 u1 v x1 (w.setCell ⟨w0.heap.size + 1 + 1, 0, none⟩ v) :=
  ⟨h.a.other (by omega) 0 v, h.r.other (by omega) 0 v, h.o.set0 v, h.bel.setCell (p := ⟨w0.heap.size + 1 + 1, 0, none⟩) (by show w0.heap.size ≤ w0.heap.size + 1 + 1; omega) v⟩
theorem Mt.set1 (h : Mt w0 v0 v1 u0 u1 x0 x1 w) (v : Value) : Mt w0 v0 v1 u0 u1 x0 v (w.setCell ⟨w0.heap.size + 1 + 1, 1, none⟩ v) :=
  ⟨h.a.other (by omega) 1 v, h.r.other (by omega) 1 v, h.o.set1 v, h.bel.setCell (p := ⟨w0.heap.size + 1 + 1, 1, none⟩) (by show w0.heap.size ≤ w0.heap.size + 1 + 1; omega) v⟩
end

set_option maxHeartbeats 4000000 in
theorem toMemory_any (a : Option Addr) (n c : Nat) (a' : Option Addr) (n' c' : Nat) (L : List Wd) (G : List Bool) (w : World) (hn : n ≤ 1048576) (hn' : n' ≤ 1048576) (hM : MemS w a n a' n' L G) :
    Calls Try.prog 10 #[.agg #[.slice a n c, .slice a' n' c']] w fun e w' => ∃ q q', e = .returned (.agg #[.slice (some ⟨q, 0, none⟩) n n, .slice (some ⟨q', 0, none⟩) n' n']) ∧ OwnM w q q' n n' L G w' := by
  have T0 := hid_mk (Mt.new w (.slice a n c) (.slice a' n' c') (.slice none 0 0) (.slice none 0 0) (.slice none 0 0) (.slice none 0 0) 25 30 30)
  have S := hid_mk hM
  have hlw := hM.ws.2.1
  have hlg := hM.gs.2.1
  clear hM
  have hz1 : w.heap.size + 1 + 1 < (((w.alloc (.cells #[.slice a n c, .slice a' n' c'] 25)).alloc (.cells #[.slice none 0 0, .slice none 0 0] 30)).alloc (.cells #[.slice none 0 0, .slice none 0 0] 30)).heap.size := by simp
  generalize hw1 : ((w.alloc (.cells #[.slice a n c, .slice a' n' c'] 25)).alloc (.cells #[.slice none 0 0, .slice none 0 0] 30)).alloc (.cells #[.slice none 0 0, .slice none 0 0] 30) = w1 at T0 hz1
  go_enter Try.func10, Try.ntmps10
  go_upto_region 2 with fail
  clear hw1
  obtain ⟨_, m0, m1, _, _⟩ := T0.out.a
  obtain ⟨_, o0, o1, g0, g1⟩ := T0.out.o
  go_wp2_with fail
  refine (toWordS_own a n c L _ hn ((S.out.ws.keep T0.out.bel).mono T0.out.bel.size)).mono ?_
  rintro e w2 ⟨q, rfl, hq, hO, hb2⟩
  have T2 := hid_mk ((T0.out.next hb2).set0 (.slice (some ⟨q, 0, none⟩) n n))
  have O2 := hid_mk (hO.keepB ((KeepBut.refl (w.heap.size + 1 + 1) w2).setCell 0 (.slice (some ⟨q, 0, none⟩) n n)) (by omega))
  have hq2 := hO.lt
  obtain ⟨_, o0', o1', g0', g1'⟩ := T0.out.o.below hb2
  clear m0 m1 o0 o1 g0 g1 hO hb2 T0
  go_upto_region 3 with fail
  clear o0' o1' g0' g1'
  generalize hw3 : w2.setCell ⟨w.heap.size + 1 + 1, 0, none⟩ (.slice (some ⟨q, 0, none⟩) n n) = w3 at T2 O2 ⊢
  have hs3 : w3.heap.size = w2.heap.size := by rw [← hw3, World.size_setCell]
  clear hw3
  obtain ⟨_, m0, m1, _, _⟩ := T2.out.a
  go_wp2_with fail
  refine (toBoolS_own a' n' c' G _ hn' ((S.out.gs.keep T2.out.bel).mono T2.out.bel.size)).mono ?_
  rintro e w4 ⟨q', rfl, hq', hO', hb4⟩
  have T4 := hid_mk ((T2.out.next hb4).set1 (.slice (some ⟨q', 0, none⟩) n' n'))
  have P4 := hid_mk ((O2.out.below hb4).keepB ((KeepBut.refl (w.heap.size + 1 + 1) w4).setCell 1 (.slice (some ⟨q', 0, none⟩) n' n')) (by omega))
  have Q4 := hid_mk (hO'.keepB ((KeepBut.refl (w.heap.size + 1 + 1) w4).setCell 1 (.slice (some ⟨q', 0, none⟩) n' n')) (by omega))
  obtain ⟨_, o0', o1', g0', g1'⟩ := T2.out.o.below hb4
  clear m0 m1 hO' hb4 T2 O2
  go_upto_region 4 with fail
  clear o0' o1' g0' g1'
  generalize w4.setCell ⟨w.heap.size + 1 + 1, 1, none⟩ (.slice (some ⟨q', 0, none⟩) n' n') = w5 at T4 P4 Q4 ⊢
  obtain ⟨_, o0, o1, g0, g1⟩ := T4.out.o
  obtain ⟨_, r0, r1, h0, h1⟩ := T4.out.r
  go_wp2
  refine bodyPost_ret (v := .agg #[.slice (some ⟨q, 0, none⟩) n n, .slice (some ⟨q', 0, none⟩) n' n']) (by simp [results, Try.results10, go_sem, r0, r1]) rfl ⟨q, q', rfl, ?_⟩
  have k : KeepBut (w.heap.size + 1) w5 ((w5.setCell ⟨w.heap.size + 1, 0, none⟩ (.slice (some ⟨q, 0, none⟩) n n)).setCell ⟨w.heap.size + 1, 1, none⟩ (.slice (some ⟨q', 0, none⟩) n' n')) := ((KeepBut.refl _ _).setCell 0 _).setCell 1 _
  exact ⟨P4.out.keepB k (by omega), Q4.out.keepB k (by omega), hlw, hlg, by omega, by omega, by omega, T4.out.bel.trans (k.below (by omega) T4.out.bel.size)⟩
end Go.Proofs.Ytfeoaegkhbjaeaa
