/- szMemory, toMemory, eqMemory, markMemory, heldMemory and sameWords of the laws. No condition but that the lists are no longer than the law lets them be. · markMemory and heldMemory of the laws: what is marked is held. No condition but that the lists are no longer than the law lets them be. · toMemory, markMemory and heldMemory of the laws: memories of the call's own; what is marked is held. No condition but that the lists are no longer than the law lets them be. · Facts on a world, each of which hangs on some blocks alone, kept as a list over what turns; the cells of a block as a list of values. No condition. · Facts on a world, each of which hangs on some blocks alone, kept as a list over what turns; memories that a call has answered. No condition. · Six cells of a block that is new, written: all that was held is held. No condition. · markMemory and heldMemory of the laws at a memory that a call has answered, nil rows too: what is marked is held. No condition but that the lists are no longer than the law lets them be. -/
import Derived.Test.YtpkhnajhamnggaaGreatDoorZE
import Derived.Test.YtpkhnajhamnggaaGreatDoorZC
import Derived.Lib.Hide
namespace Go.Proofs.YtpkhnajhamnggaaGreatDoor
open Go.ChangeShapes Go.WideShapes Go.ChangeAt Go.RowKit
set_option maxRecDepth 100000

/-- A memory's block beside what was there at first. -/
structure Mb (w0 : World) (r : Nat) (v0 v1 : Value) (w : World) : Prop where
  d : Duo w r v0 v1
  bel : Below w0.heap.size w0 w
theorem Mb.new (w : World) (v0 v1 : Value) (T : TypeId) : Mb w w.heap.size v0 v1 (w.alloc (.cells #[v0, v1] T)) := ⟨Duo.new w v0 v1 T, (Below.refl _ _).alloc (Nat.le_refl _) _⟩
theorem Mb.next {w0 w w' : World} {r : Nat} {v0 v1 : Value} (h : Mb w0 r v0 v1 w) (hb : Below w.heap.size w w') : Mb w0 r v0 v1 w' := ⟨h.d.below hb, h.bel.trans (hb.mono h.bel.size)⟩

set_option maxHeartbeats 2000000 in
theorem szMemory_any (a : Option Addr) (n c : Nat) (a' : Option Addr) (n' c' : Nat) (hn : n ≤ maxLen) (hn' : n' ≤ maxLen) (w : World) :
    Calls Tryz.prog 30 #[.agg #[.slice a n c, .slice a' n' c'], .int .i64 1048576] w fun e w' => e = .returned (.int .i64 (if n + n' ≤ 1048576 then 1048576 - (n : Int) - (n' : Int) else -1)) ∧ Below w.heap.size w w' := by
  have M0 := hid_mk (Mb.new w (.slice a n c) (.slice a' n' c') 30)
  have s1 := fun w => szWordS_any a n c w hn
  by_cases h1 : n ≤ 1048576
  · have s2 := fun w => szBoolS_any a' n' c' (1048576 - (n : Int)) (by omega) (by omega) w hn'
    simp only [if_pos h1] at s1
    obtain ⟨m, hm⟩ : ∃ m : Int, m = 1048576 - (n : Int) := ⟨_, rfl⟩
    rw [← hm] at s1 s2
    have hm0 : 0 ≤ m := by omega
    have hm1 : m ≤ 1048576 := by omega
    by_cases h2 : n + n' ≤ 1048576
    · have h3 : (n' : Int) ≤ m := by omega
      rw [if_pos h2, show 1048576 - (n : Int) - (n' : Int) = m - (n' : Int) by omega]
      simp only [if_pos h3] at s2
      have S1 := hid_mk s1
      have S2 := hid_mk s2
      obtain ⟨u, hu⟩ : ∃ u : Int, u = m - (n' : Int) := ⟨_, rfl⟩
      rw [← hu] at S2 ⊢
      have hu0 : 0 ≤ u := by omega
      clear s1 s2 hm hu hn hn' h1 h2 h3
      go_enter Tryz.func30, Tryz.ntmps30
      go_wp2_with (go_at_call 29; refine (S1.out _).mono ?_; rintro e w1 ⟨rfl, rfl⟩)
      go_wp2_with (go_at_call 71; refine (S2.out _).mono ?_; rintro e w1 ⟨rfl, rfl⟩)
      go_wp2
      go_ret
      exact ⟨rfl, M0.out.bel⟩
    · have h3 : ¬ (n' : Int) ≤ m := by omega
      rw [if_neg h2]
      simp only [if_neg h3] at s2
      have S1 := hid_mk s1
      have S2 := hid_mk s2
      clear s1 s2 hm hn hn' h1 h2 h3
      go_enter Tryz.func30, Tryz.ntmps30
      go_wp2_with (go_at_call 29; refine (S1.out _).mono ?_; rintro e w1 ⟨rfl, rfl⟩)
      go_wp2_with (go_at_call 71; refine (S2.out _).mono ?_; rintro e w1 ⟨rfl, rfl⟩)
      go_wp2
      go_ret
      exact ⟨rfl, M0.out.bel⟩
  · rw [if_neg (by omega)]
    simp only [if_neg h1] at s1
    have S1 := hid_mk s1
    clear s1
    go_enter Tryz.func30, Tryz.ntmps30
    go_wp2_with (go_at_call 29; refine (S1.out _).mono ?_; rintro e w1 ⟨rfl, rfl⟩)
    go_wp2
    go_ret
    exact ⟨rfl, M0.out.bel⟩

set_option maxHeartbeats 4000000 in
theorem eqMemory_same (a b : Option Addr) (n c d : Nat) (a' b' : Option Addr) (n' c' d' : Nat) (L : List Wd) (G : List Bool) (w : World) (hM : MemS w a n a' n' L G) (hN : MemS w b n b' n' L G) :
    Calls Tryz.prog 46 #[.agg #[.slice a n c, .slice a' n' c'], .agg #[.slice b n d, .slice b' n' d']] w fun e w' => e = .returned (.bool true) ∧ Below w.heap.size w w' := by
  have B0 : Hid (Below w.heap.size w ((w.alloc (.cells #[.slice a n c, .slice a' n' c'] 40)).alloc (.cells #[.slice b n d, .slice b' n' d'] 40))) := ((Below.refl _ _).alloc (Nat.le_refl _) _).alloc (by simp) _
  have D0 := hid_mk ((Duo.new w (.slice a n c) (.slice a' n' c') 40).alloc (.cells #[.slice b n d, .slice b' n' d'] 40))
  have E0 : Hid (Duo ((w.alloc (.cells #[.slice a n c, .slice a' n' c'] 40)).alloc (.cells #[.slice b n d, .slice b' n' d'] 40)) (w.heap.size + 1) (.slice b n d) (.slice b' n' d')) := by
    have h := Duo.new (w.alloc (.cells #[.slice a n c, .slice a' n' c'] 40)) (.slice b n d) (.slice b' n' d') 40
    rw [World.size_alloc] at h
    exact h
  have SA := hid_mk hM
  have SB := hid_mk hN
  clear hM hN
  generalize hw1 : (w.alloc (.cells #[.slice a n c, .slice a' n' c'] 40)).alloc (.cells #[.slice b n d, .slice b' n' d'] 40) = w1 at B0 D0 E0
  go_enter Tryz.func46, Tryz.ntmps46
  go_upto_region 1 with fail
  clear hw1
  obtain ⟨_, m0, m1, _, _⟩ := D0.out
  obtain ⟨_, e0, e1, _, _⟩ := E0.out
  go_wp2_with fail
  refine (eqWordS_same a b n c d L _ ((SA.out.ws.keep B0.out).mono B0.out.size) ((SB.out.ws.keep B0.out).mono B0.out.size)).mono ?_
  rintro e w2 ⟨rfl, hb2⟩
  have B2 := hid_mk (B0.out.trans (hb2.mono B0.out.size))
  have D2 := hid_mk (D0.out.below hb2)
  have E2 := hid_mk (E0.out.below hb2)
  clear hb2 m0 m1 e0 e1 B0 D0 E0
  obtain ⟨_, m0, m1, _, _⟩ := D2.out
  obtain ⟨_, e0, e1, _, _⟩ := E2.out
  go_wp2_with fail
  refine (eqBoolS_same a' b' n' c' d' G _ ((SA.out.gs.keep B2.out).mono B2.out.size) ((SB.out.gs.keep B2.out).mono B2.out.size)).mono ?_
  rintro e w3 ⟨rfl, hb3⟩
  have B3 := hid_mk (B2.out.trans (hb3.mono B2.out.size))
  clear hb3 B2 D2 E2 m0 m1 e0 e1
  go_wp2
  go_ret
  exact ⟨rfl, B3.out⟩

end Go.Proofs.YtpkhnajhamnggaaGreatDoor

namespace Go.Proofs.YtpkhnajhamnggaaGreatDoor
open Go.ChangeShapes Go.WideShapes Go.ChangeAt Go.RowKit
set_option maxRecDepth 100000

/-- Of what was there nothing has turned but two blocks. -/
structure Keep2 (q q' : Nat) (w w' : World) : Prop where
  os : w'.os = w.os
  tape : w'.tape = w.tape
  output : w'.output = w.output
  size : w.heap.size ≤ w'.heap.size
  block : ∀ k, k < w.heap.size → k ≠ q → k ≠ q' → w'.heap[k]? = w.heap[k]?
theorem Keep2.below {q q' B : Nat} {w w' : World} (h : Keep2 q q' w w') (hq : B ≤ q) (hq' : B ≤ q') (hB : B ≤ w.heap.size) : Below B w w' :=
  ⟨h.os, h.tape, h.output, h.size, fun k hk => h.block k (by omega) (by omega) (by omega)⟩
theorem KeepBut.two {q q' : Nat} {w w1 w' : World} (h : KeepBut q w w1) (g : KeepBut q' w1 w') : Keep2 q q' w w' :=
  ⟨g.os.trans h.os, g.tape.trans h.tape, g.output.trans h.output, Nat.le_trans h.size g.size, fun k hk h1 h2 => (g.block k (Nat.lt_of_lt_of_le hk h.size) h2).trans (h.block k hk h1)⟩

set_option maxHeartbeats 4000000 in
theorem markMem_any (q o n c q' o' n' c' : Nat) (L : List Wd) (G : List Bool) (hn : n ≤ 1048576) (hn' : n' ≤ 1048576) (hne : q ≠ q') (w : World) (hW : RowW w q o n n L) (hB : RowB w q' o' n' n' G) :
    Calls Tryz.prog 49 #[.agg #[.slice (some ⟨q, o, none⟩) n c, .slice (some ⟨q', o', none⟩) n' c'], .int .i64 1] w fun e w' => e = .returned (.int .i64 (1 + 6 * (n : Int) + (n' : Int))) ∧ RowW w' q o n n (marksW 1 n) ∧ RowB w' q' o' n' n' (marksB (1 + 6 * (n : Int)) n') ∧ Keep2 q q' w w' := by
  have M0 := hid_mk (Mb.new w (.slice (some ⟨q, o, none⟩) n c) (.slice (some ⟨q', o', none⟩) n' c') 40)
  have W0 := hid_mk ((hW.below M0.out.bel).first (marksW 1 n))
  have G0 := hid_mk ((hB.below M0.out.bel).first (marksB (1 + 6 * (n : Int)) n'))
  have K0 : Hid (KeepBut q w (w.alloc (.cells #[.slice (some ⟨q, o, none⟩) n c, .slice (some ⟨q', o', none⟩) n' c'] 40))) := (KeepBut.refl _ _).alloc _
  have hq := hW.lt
  have hq' := hB.lt
  clear hW hB
  obtain ⟨m, hm⟩ : ∃ m : Int, m = 1 + 6 * (n : Int) := ⟨_, rfl⟩
  rw [← hm] at G0 ⊢
  have hm0 : 1 ≤ m := by omega
  have hm1 : m ≤ 16777216 := by omega
  have HM := hid_mk hm
  clear hm
  generalize hw1 : w.alloc (.cells #[.slice (some ⟨q, o, none⟩) n c, .slice (some ⟨q', o', none⟩) n' c'] 40) = w1 at M0 W0 G0 K0
  go_enter Tryz.func49, Tryz.ntmps49
  go_upto_region 1 with fail
  clear hw1
  obtain ⟨_, m0, m1, _, _⟩ := M0.out.d
  go_wp2_with fail
  refine (markW_any q o n c 1 (by decide) (by decide) _ hn W0.out).mono ?_
  rintro e w2 ⟨rfl, hW2, hK2⟩
  rw [← HM.out]
  have M2 : Hid (Duo w2 w.heap.size (.slice (some ⟨q, o, none⟩) n c) (.slice (some ⟨q', o', none⟩) n' c')) := M0.out.d.keep hK2 (by omega)
  have G2 := hid_mk (G0.out.keepB hK2 (Ne.symm hne))
  have W2 := hid_mk hW2
  have K2 := hid_mk (K0.out.trans hK2)
  clear hW2 hK2 m0 m1 M0 W0 G0 K0
  obtain ⟨_, m0, m1, _, _⟩ := M2.out
  go_wp2_with fail
  refine (markB_any q' o' n' c' m hm0 hm1 _ hn' G2.out).mono ?_
  rintro e w3 ⟨rfl, hG3, hK3⟩
  have W3 := hid_mk (W2.out.keepB hK3 hne)
  have G3 := hid_mk hG3
  have K3 := hid_mk (K2.out.two hK3)
  clear hG3 hK3 m0 m1 M2 G2 W2 K2
  go_wp2
  go_ret
  exact ⟨rfl, W3.out, G3.out, K3.out⟩

set_option maxHeartbeats 4000000 in
theorem heldMem_any (a : Option Addr) (n c : Nat) (a' : Option Addr) (n' c' : Nat) (hn : n ≤ 1048576) (hn' : n' ≤ 1048576) (w : World) (hM : MemS w a n a' n' (marksW 1 n) (marksB (1 + 6 * (n : Int)) n')) :
    Calls Tryz.prog 51 #[.agg #[.slice a n c, .slice a' n' c'], .int .i64 1] w fun e w' => e = .returned (.int .i64 (1 + 6 * (n : Int) + (n' : Int))) ∧ Below w.heap.size w w' := by
  have M0 := hid_mk (Mb.new w (.slice a n c) (.slice a' n' c') 40)
  have S := hid_mk hM
  clear hM
  obtain ⟨m, hm⟩ : ∃ m : Int, m = 1 + 6 * (n : Int) := ⟨_, rfl⟩
  rw [← hm] at S ⊢
  have hm0 : 1 ≤ m := by omega
  have hm1 : m ≤ 16777216 := by omega
  have HM := hid_mk hm
  clear hm
  generalize hw1 : w.alloc (.cells #[.slice a n c, .slice a' n' c'] 40) = w1 at M0
  go_enter Tryz.func51, Tryz.ntmps51
  go_upto_region 1 with fail
  clear hw1
  obtain ⟨_, m0, m1, _, _⟩ := M0.out.d
  go_wp2_with fail
  refine (heldW_any a n c 1 (by decide) (by decide) _ hn ((S.out.ws.keep M0.out.bel).mono M0.out.bel.size)).mono ?_
  rintro e w2 ⟨rfl, hb2⟩
  rw [← HM.out]
  have M2 := hid_mk (M0.out.next hb2)
  clear hb2 m0 m1 M0
  obtain ⟨_, m0, m1, _, _⟩ := M2.out.d
  go_wp2_with fail
  refine (heldB_any a' n' c' m hm0 hm1 _ hn' ((S.out.gs.keep M2.out.bel).mono M2.out.bel.size)).mono ?_
  rintro e w3 ⟨rfl, hb3⟩
  have M3 := hid_mk (M2.out.next hb3)
  clear hb3 m0 m1 M2
  go_wp2
  go_ret
  exact ⟨rfl, M3.out.bel⟩
end Go.Proofs.YtpkhnajhamnggaaGreatDoor

namespace Go.Proofs.YtpkhnajhamnggaaGreatDoor
open Go.ChangeShapes Go.WideShapes Go.ChangeAt Go.RowKit
set_option maxRecDepth 100000

/-- Three memories' blocks, one behind the other, beside what was there at first. -/
structure Mt (w0 : World) (v0 v1 u0 u1 x0 x1 : Value) (w : World) : Prop where
  a : Duo w w0.heap.size v0 v1
  r : Duo w (w0.heap.size + 1) u0 u1
  o : Duo w (w0.heap.size + 1 + 1) x0 x1
  bel : Below w0.heap.size w0 w
section
variable {w0 w w' : World} {v0 v1 u0 u1 x0 x1 : Value}
theorem Mt.new (w : World) (v0 v1 u0 u1 x0 x1 : Value) (T U V : TypeId) : Mt w v0 v1 u0 u1 x0 x1 (((w.alloc (.cells #[v0, v1] T)).alloc (.cells #[u0, u1] U)).alloc (.cells #[x0, x1] V)) := by
  have h1 := Duo.new (w.alloc (.cells #[v0, v1] T)) u0 u1 U
  have h2 := Duo.new ((w.alloc (.cells #[v0, v1] T)).alloc (.cells #[u0, u1] U)) x0 x1 V
  rw [World.size_alloc] at h1
  rw [World.size_alloc, World.size_alloc] at h2
  exact ⟨((Duo.new w v0 v1 T).alloc _).alloc _, h1.alloc _, h2, (((Below.refl _ w).alloc (Nat.le_refl _) _).alloc (by simp) _).alloc (by simp; omega) _⟩
theorem Mt.next (h : Mt w0 v0 v1 u0 u1 x0 x1 w) (hb : Below w.heap.size w w') : Mt w0 v0 v1 u0 u1 x0 x1 w' := ⟨h.a.below hb, h.r.below hb, h.o.below hb, h.bel.trans (hb.mono h.bel.size)⟩
theorem Mt.set0 (h : Mt w0 v0 v1 u0 u1 x0 x1 w) (v : Value) : Mt w0 v0 v1 u0 u1 v x1 (w.setCell ⟨w0.heap.size + 1 + 1, 0, none⟩ v) :=
  ⟨h.a.other (by omega) 0 v, h.r.other (by omega) 0 v, h.o.set0 v, h.bel.setCell (p := ⟨w0.heap.size + 1 + 1, 0, none⟩) (by show w0.heap.size ≤ w0.heap.size + 1 + 1; omega) v⟩
theorem Mt.set1 (h : Mt w0 v0 v1 u0 u1 x0 x1 w) (v : Value) : Mt w0 v0 v1 u0 u1 x0 v (w.setCell ⟨w0.heap.size + 1 + 1, 1, none⟩ v) :=
  ⟨h.a.other (by omega) 1 v, h.r.other (by omega) 1 v, h.o.set1 v, h.bel.setCell (p := ⟨w0.heap.size + 1 + 1, 1, none⟩) (by show w0.heap.size ≤ w0.heap.size + 1 + 1; omega) v⟩
end

set_option maxHeartbeats 4000000 in
theorem toMemory_any (a : Option Addr) (n c : Nat) (a' : Option Addr) (n' c' : Nat) (L : List Wd) (G : List Bool) (w : World) (hn : n ≤ 1048576) (hn' : n' ≤ 1048576) (hM : MemS w a n a' n' L G) :
    Calls Tryz.prog 40 #[.agg #[.slice a n c, .slice a' n' c']] w fun e w' => ∃ q q', e = .returned (.agg #[.slice (some ⟨q, 0, none⟩) n n, .slice (some ⟨q', 0, none⟩) n' n']) ∧ OwnM w q q' n n' L G w' := by
  have T0 := hid_mk (Mt.new w (.slice a n c) (.slice a' n' c') (.slice none 0 0) (.slice none 0 0) (.slice none 0 0) (.slice none 0 0) 30 40 40)
  have S := hid_mk hM
  have hlw := hM.ws.2.1
  have hlg := hM.gs.2.1
  clear hM
  have hz1 : w.heap.size + 1 + 1 < (((w.alloc (.cells #[.slice a n c, .slice a' n' c'] 30)).alloc (.cells #[.slice none 0 0, .slice none 0 0] 40)).alloc (.cells #[.slice none 0 0, .slice none 0 0] 40)).heap.size := by simp
  generalize hw1 : ((w.alloc (.cells #[.slice a n c, .slice a' n' c'] 30)).alloc (.cells #[.slice none 0 0, .slice none 0 0] 40)).alloc (.cells #[.slice none 0 0, .slice none 0 0] 40) = w1 at T0 hz1
  go_enter Tryz.func40, Tryz.ntmps40
  go_upto_region 2 with fail
  clear hw1
  obtain ⟨_, m0, m1, _, _⟩ := T0.out.a
  obtain ⟨_, o0, o1, g0, g1⟩ := T0.out.o
  go_wp2_with fail
  refine (toWordS_own a n c L _ hn ((S.out.ws.keep T0.out.bel).mono T0.out.bel.size)).mono ?_
  rintro e w2 ⟨q, rfl, hq, hO, hb2⟩
  have T2 := hid_mk ((T0.out.next hb2).set0 (.slice (some ⟨q, 0, none⟩) n n))
  have O2 := hid_mk (hO.keepB ((KeepBut.refl (w.heap.size + 1 + 1) w2).setCell 0 (.slice (some ⟨q, 0, none⟩) n n)) (by omega))
  have hq2 := hO.lt
  obtain ⟨_, o0', o1', g0', g1'⟩ := T0.out.o.below hb2
  clear m0 m1 o0 o1 g0 g1 hO hb2 T0
  go_upto_region 3 with fail
  clear o0' o1' g0' g1'
  generalize hw3 : w2.setCell ⟨w.heap.size + 1 + 1, 0, none⟩ (.slice (some ⟨q, 0, none⟩) n n) = w3 at T2 O2 ⊢
  have hs3 : w3.heap.size = w2.heap.size := by rw [← hw3, World.size_setCell]
  clear hw3
  obtain ⟨_, m0, m1, _, _⟩ := T2.out.a
  go_wp2_with fail
  refine (toBoolS_own a' n' c' G _ hn' ((S.out.gs.keep T2.out.bel).mono T2.out.bel.size)).mono ?_
  rintro e w4 ⟨q', rfl, hq', hO', hb4⟩
  have T4 := hid_mk ((T2.out.next hb4).set1 (.slice (some ⟨q', 0, none⟩) n' n'))
  have P4 := hid_mk ((O2.out.below hb4).keepB ((KeepBut.refl (w.heap.size + 1 + 1) w4).setCell 1 (.slice (some ⟨q', 0, none⟩) n' n')) (by omega))
  have Q4 := hid_mk (hO'.keepB ((KeepBut.refl (w.heap.size + 1 + 1) w4).setCell 1 (.slice (some ⟨q', 0, none⟩) n' n')) (by omega))
  obtain ⟨_, o0', o1', g0', g1'⟩ := T2.out.o.below hb4
  clear m0 m1 hO' hb4 T2 O2
  go_upto_region 4 with fail
  clear o0' o1' g0' g1'
  generalize w4.setCell ⟨w.heap.size + 1 + 1, 1, none⟩ (.slice (some ⟨q', 0, none⟩) n' n') = w5 at T4 P4 Q4 ⊢
  obtain ⟨_, o0, o1, g0, g1⟩ := T4.out.o
  obtain ⟨_, r0, r1, h0, h1⟩ := T4.out.r
  go_wp2
  refine bodyPost_ret (v := .agg #[.slice (some ⟨q, 0, none⟩) n n, .slice (some ⟨q', 0, none⟩) n' n']) (by simp [results, Tryz.results40, go_sem, r0, r1]) rfl ⟨q, q', rfl, ?_⟩
  have k : KeepBut (w.heap.size + 1) w5 ((w5.setCell ⟨w.heap.size + 1, 0, none⟩ (.slice (some ⟨q, 0, none⟩) n n)).setCell ⟨w.heap.size + 1, 1, none⟩ (.slice (some ⟨q', 0, none⟩) n' n')) := ((KeepBut.refl _ _).setCell 0 _).setCell 1 _
  exact ⟨P4.out.keepB k (by omega), Q4.out.keepB k (by omega), hlw, hlg, by omega, by omega, by omega, T4.out.bel.trans (k.below (by omega) T4.out.bel.size)⟩
end Go.Proofs.YtpkhnajhamnggaaGreatDoor

namespace Go.Proofs.YtpkhnajhamnggaaGreatDoor
open Go.ChangeShapes Go.WideShapes Go.ChangeAt Go.RowKit
set_option maxRecDepth 100000

/-- Of what was there nothing has turned but the blocks in T. -/
structure KeptS (T : Nat → Prop) (w w' : World) : Prop where
  os : w'.os = w.os
  tape : w'.tape = w.tape
  output : w'.output = w.output
  size : w.heap.size ≤ w'.heap.size
  block : ∀ k, k < w.heap.size → ¬ T k → w'.heap[k]? = w.heap[k]?
theorem KeptS.below {T : Nat → Prop} {B : Nat} {w w' : World} (h : KeptS T w w') (hT : ∀ k, T k → B ≤ k) (hB : B ≤ w.heap.size) : Below B w w' :=
  ⟨h.os, h.tape, h.output, h.size, fun k hk => h.block k (by omega) fun ht => by have := hT k ht; omega⟩
theorem KeptS.ofBelow {T : Nat → Prop} {w w' : World} (h : Below w.heap.size w w') : KeptS T w w' := ⟨h.os, h.tape, h.output, h.size, fun k hk _ => h.block k hk⟩
theorem KeptS.ofBut {T : Nat → Prop} {q : Nat} {w w' : World} (h : KeepBut q w w') (hq : T q) : KeptS T w w' := ⟨h.os, h.tape, h.output, h.size, fun k hk ht => h.block k hk fun e => ht (e ▸ hq)⟩
theorem KeptS.trans {T : Nat → Prop} {w w1 w' : World} (h : KeptS T w w1) (g : KeptS T w1 w') : KeptS T w w' :=
  ⟨g.os.trans h.os, g.tape.trans h.tape, g.output.trans h.output, Nat.le_trans h.size g.size, fun k hk ht => (g.block k (Nat.lt_of_lt_of_le hk h.size) ht).trans (h.block k hk ht)⟩
theorem KeptS.mono {T U : Nat → Prop} {w w' : World} (h : KeptS T w w') (hTU : ∀ k, T k → U k) : KeptS U w w' := ⟨h.os, h.tape, h.output, h.size, fun k hk ht => h.block k hk fun e => ht (hTU k e)⟩

/-- A fact that hangs on the blocks in S alone. -/
structure Fct where
  S : Nat → Prop
  p : World → Prop
  keep : ∀ w w' : World, p w → w.heap.size ≤ w'.heap.size → (∀ k, k < w.heap.size → S k → w'.heap[k]? = w.heap[k]?) → p w'

/-- What was there at first has not turned, and these facts hold. -/
structure Hold (w0 w : World) (fs : List Fct) : Prop where
  bel : Below w0.heap.size w0 w
  all : ∀ f ∈ fs, f.p w
section
variable {w0 w w' : World} {fs : List Fct}
theorem Hold.new (w : World) : Hold w w [] := ⟨Below.refl _ _, fun _ h => by cases h⟩
theorem Hold.next (h : Hold w0 w fs) (hb : Below w.heap.size w w') : Hold w0 w' fs :=
  ⟨h.bel.trans (hb.mono h.bel.size), fun f hf => f.keep w w' (h.all f hf) hb.size fun k hk _ => hb.block k hk⟩
theorem Hold.alloc (h : Hold w0 w fs) (o : Obj) : Hold w0 (w.alloc o) fs := h.next ((Below.refl _ _).alloc (Nat.le_refl _) _)
theorem Hold.drew (h : Hold w0 w fs) : Hold w0 w.drew fs := h.next (Below.refl _ _).drew
theorem Hold.push (h : Hold w0 w fs) (f : Fct) (hf : f.p w) : Hold w0 w (f :: fs) := ⟨h.bel, fun g hg => by
  rcases List.mem_cons.1 hg with rfl | hg
  · exact hf
  · exact h.all g hg⟩
theorem Hold.at (h : Hold w0 w fs) {f : Fct} (hm : f ∈ fs) : f.p w := h.all f hm
theorem Hold.sub (h : Hold w0 w fs) {gs : List Fct} (hs : ∀ f ∈ gs, f ∈ fs) : Hold w0 w gs := ⟨h.bel, fun f hf => h.all f (hs f hf)⟩
theorem Hold.mid2 {f g1 g2 : Fct} {gs : List Fct} (h : Hold w0 w (f :: g1 :: g2 :: gs)) : Hold w0 w [g1, g2] := h.sub fun x hx => by
  simp only [List.mem_cons, List.not_mem_nil, or_false] at hx ⊢
  rcases hx with rfl | rfl
  · exact .inr (.inl rfl)
  · exact .inr (.inr (.inl rfl))
theorem Hold.tail {f : Fct} (h : Hold w0 w (f :: fs)) : Hold w0 w fs := h.sub fun _ hg => .tail _ hg
theorem Hold.wrote (h : Hold w0 w fs) {T : Nat → Prop} (k : KeptS T w w') (h0 : ∀ k, T k → w0.heap.size ≤ k) (hd : ∀ f ∈ fs, ∀ k, f.S k → ¬ T k) : Hold w0 w' fs :=
  ⟨h.bel.trans (k.below h0 h.bel.size), fun f hf => f.keep w w' (h.all f hf) k.size fun i hi hs => k.block i hi (hd f hf i hs)⟩
end

/-- A word's six cells. -/
def sixF (r : Nat) (x : Wd) : Fct where
  S := fun k => k = r
  p := fun w => Six w r x.n x.i x.b x.t x.p x.s
  keep := fun w w' h hs hb => by
    have e := hb r h.lt rfl
    obtain ⟨l, c0, c1, c2, c3, c4, c5, f0, f1, f2, f3, f4, f5⟩ := h
    exact ⟨Nat.lt_of_lt_of_le l hs, (World.cell?_of_block e).trans c0, (World.cell?_of_block e).trans c1, (World.cell?_of_block e).trans c2, (World.cell?_of_block e).trans c3, (World.cell?_of_block e).trans c4, (World.cell?_of_block e).trans c5, (World.frozen?_of_block e).trans f0, (World.frozen?_of_block e).trans f1, (World.frozen?_of_block e).trans f2, (World.frozen?_of_block e).trans f3, (World.frozen?_of_block e).trans f4, (World.frozen?_of_block e).trans f5⟩
section
variable {w0 w : World} {fs : List Fct}
theorem Hold.six (h : Hold w0 w fs) {r : Nat} {x : Wd} (hm : sixF r x ∈ fs) : Six w r x.n x.i x.b x.t x.p x.s := h.at hm
end
/-- The block of an address. -/
def On (a : Option Addr) (k : Nat) : Prop := ∃ x, a = some x ∧ x.block = k
theorem on_none (k : Nat) : ¬ On none k := fun ⟨_, h, _⟩ => by cases h
theorem on_some (q k : Nat) : On (some ⟨q, 0, none⟩) k ↔ q = k := ⟨fun ⟨_, h, e⟩ => by cases h; exact e, fun e => ⟨_, rfl, e⟩⟩
/-- The first cells of a block, which may be written. -/
structure Cel (w : World) (r : Nat) (vs : List Value) : Prop where
  lt : r < w.heap.size
  c : ∀ i v, vs[i]? = some v → w.cell? ⟨r, i, none⟩ = some v
  f : ∀ i, i < vs.length → w.frozen? ⟨r, i, none⟩ = false
section
variable {w w' : World} {r q : Nat} {vs : List Value}
theorem Cel.ofBlock (h : Cel w r vs) (hs : w.heap.size ≤ w'.heap.size) (e : w'.heap[r]? = w.heap[r]?) : Cel w' r vs :=
  ⟨Nat.lt_of_lt_of_le h.lt hs, fun i v hv => (World.cell?_of_block (w := w) (w' := w') (a := ⟨r, i, none⟩) e).trans (h.c i v hv), fun i hi => (World.frozen?_of_block (w := w) (w' := w') (a := ⟨r, i, none⟩) e).trans (h.f i hi)⟩
theorem Cel.keep (h : Cel w r vs) (k : KeepBut q w w') (hq : r ≠ q) : Cel w' r vs := h.ofBlock k.size (k.block r h.lt hq)
theorem Cel.below (h : Cel w r vs) (k : Below w.heap.size w w') : Cel w' r vs := h.ofBlock k.size (k.block r h.lt)
theorem Cel.alloc (h : Cel w r vs) (o : Obj) : Cel (w.alloc o) r vs := h.below ((Below.refl _ _).alloc (Nat.le_refl _) o)
theorem Cel.drew (h : Cel w r vs) : Cel w.drew r vs := h.below (Below.refl _ _).drew
theorem Cel.other (h : Cel w r vs) {r' : Nat} (hr : r ≠ r') (o : Nat) (u : Value) : Cel (w.setCell ⟨r', o, none⟩ u) r vs := h.keep (q := r') ((KeepBut.refl _ _).setCell o u) hr
theorem Cel.set (h : Cel w r vs) (i : Nat) (u : Value) : Cel (w.setCell ⟨r, i, none⟩ u) r (vs.set i u) := by
  refine ⟨Nat.lt_of_lt_of_le h.lt ((Below.refl 0 w).setCell (p := ⟨r, i, none⟩) (Nat.zero_le _) u).size, fun j v hv => ?_, fun j hj => ?_⟩
  · rw [List.getElem?_set] at hv
    split at hv
    · rename_i hij
      subst hij
      split at hv
      · rename_i hl
        cases hv
        exact World.cell?_setCell_same' w ⟨r, i, none⟩ _ (by rw [h.c i vs[i] (List.getElem?_eq_getElem hl)]; rfl)
      · cases hv
    · rename_i hij
      rw [World.cell?_setCell_other (h := by intro e; cases e; exact hij rfl)]
      exact h.c j v hv
  · rw [World.frozen?_setCell]
    exact h.f j (by simpa using hj)
end
theorem Cel.new (w : World) (vs : List Value) (T : TypeId) : Cel (w.alloc (.cells vs.toArray T)) w.heap.size vs :=
  ⟨by simp, fun i v hv => by rw [World.cell?_alloc_new]; simpa using hv, fun i _ => by simp⟩
def celF (r : Nat) (vs : List Value) : Fct where
  S := fun k => k = r
  p := fun w => Cel w r vs
  keep := fun _ _ h hs hb => h.ofBlock hs (hb r h.lt rfl)
theorem Hold.cel {w0 w : World} {fs : List Fct} (h : Hold w0 w fs) {r : Nat} {vs : List Value} (hm : celF r vs ∈ fs) : Cel w r vs := h.at hm

theorem Cel.c6 {w : World} {r : Nat} {v0 v1 v2 v3 v4 v5 : Value} (h : Cel w r [v0, v1, v2, v3, v4, v5]) :
    w.cell? ⟨r, 0, none⟩ = some v0 ∧ w.cell? ⟨r, 1, none⟩ = some v1 ∧ w.cell? ⟨r, 2, none⟩ = some v2 ∧ w.cell? ⟨r, 3, none⟩ = some v3 ∧ w.cell? ⟨r, 4, none⟩ = some v4 ∧ w.cell? ⟨r, 5, none⟩ = some v5 :=
  ⟨h.c 0 _ rfl, h.c 1 _ rfl, h.c 2 _ rfl, h.c 3 _ rfl, h.c 4 _ rfl, h.c 5 _ rfl⟩
theorem Cel.f6 {w : World} {r : Nat} {v0 v1 v2 v3 v4 v5 : Value} (h : Cel w r [v0, v1, v2, v3, v4, v5]) :
    w.frozen? ⟨r, 0, none⟩ = false ∧ w.frozen? ⟨r, 1, none⟩ = false ∧ w.frozen? ⟨r, 2, none⟩ = false ∧ w.frozen? ⟨r, 3, none⟩ = false ∧ w.frozen? ⟨r, 4, none⟩ = false ∧ w.frozen? ⟨r, 5, none⟩ = false :=
  ⟨h.f 0 (by simp), h.f 1 (by simp), h.f 2 (by simp), h.f 3 (by simp), h.f 4 (by simp), h.f 5 (by simp)⟩
end Go.Proofs.YtpkhnajhamnggaaGreatDoor

namespace Go.Proofs.YtpkhnajhamnggaaGreatDoor
open Go.ChangeShapes Go.WideShapes Go.ChangeAt Go.RowKit
set_option maxRecDepth 100000

/-- Two cells. -/
def duoF (r : Nat) (v0 v1 : Value) : Fct where
  S := fun k => k = r
  p := fun w => Duo w r v0 v1
  keep := fun w w' h hs hb => by
    have e := hb r h.lt rfl
    exact ⟨Nat.lt_of_lt_of_le h.lt hs, (World.cell?_of_block e).trans h.c0, (World.cell?_of_block e).trans h.c1, (World.frozen?_of_block e).trans h.f0, (World.frozen?_of_block e).trans h.f1⟩
/-- A memory that came in: its slices lie below B. -/
structure ArgM (B : Nat) (a : Option Addr) (n : Nat) (a' : Option Addr) (n' : Nat) (L : List Wd) (G : List Bool) (w : World) : Prop where
  ws : SliceW B w a n L
  gs : SliceB B w a' n' G
  lt : B ≤ w.heap.size
theorem ArgM.mem {B : Nat} {a : Option Addr} {n : Nat} {a' : Option Addr} {n' : Nat} {L : List Wd} {G : List Bool} {w : World} (h : ArgM B a n a' n' L G w) : MemS w a n a' n' L G := ⟨h.ws.mono h.lt, h.gs.mono h.lt⟩
theorem MemS.arg {a : Option Addr} {n : Nat} {a' : Option Addr} {n' : Nat} {L : List Wd} {G : List Bool} {w : World} (h : MemS w a n a' n' L G) : ArgM w.heap.size a n a' n' L G w := ⟨h.ws, h.gs, Nat.le_refl _⟩
def argF (B : Nat) (a : Option Addr) (n : Nat) (a' : Option Addr) (n' : Nat) (L : List Wd) (G : List Bool) : Fct where
  S := fun k => k < B
  p := ArgM B a n a' n' L G
  keep := fun w w' h hs hb => by
    refine ⟨⟨h.ws.1, h.ws.2.1, ?_⟩, ⟨h.gs.1, h.gs.2.1, ?_⟩, Nat.le_trans h.lt hs⟩
    · rcases h.ws.2.2 with h0 | ⟨k, o, ha, hk, hc⟩
      · exact .inl h0
      · refine .inr ⟨k, o, ha, hk, fun j x hj => WordAt.of_vs fun m v hm => ?_⟩
        exact (World.cell?_of_block (hb k (Nat.lt_of_lt_of_le hk h.lt) hk)).trans ((hc j x hj).vs m v hm)
    · rcases h.gs.2.2 with h0 | ⟨k, o, ha, hk, hc⟩
      · exact .inl h0
      · exact .inr ⟨k, o, ha, hk, fun j x hj => (World.cell?_of_block (hb k (Nat.lt_of_lt_of_le hk h.lt) hk)).trans (hc j x hj)⟩

/-- A row of words of a call's own, or nil. -/
def RowWA (w : World) (a : Option Addr) (n : Nat) (L : List Wd) : Prop := (a = none ∧ n = 0 ∧ L = []) ∨ ∃ q, a = some ⟨q, 0, none⟩ ∧ L.length = n ∧ OutW w q n n L
def RowBA (w : World) (a : Option Addr) (n : Nat) (G : List Bool) : Prop := (a = none ∧ n = 0 ∧ G = []) ∨ ∃ q, a = some ⟨q, 0, none⟩ ∧ G.length = n ∧ OutB w q n n G
theorem OutW.ofBlock {w w' : World} {q n k : Nat} {L : List Wd} (h : OutW w q n k L) (hs : w.heap.size ≤ w'.heap.size) (e : w'.heap[q]? = w.heap[q]?) : OutW w' q n k L :=
  ⟨Nat.lt_of_lt_of_le h.lt hs, fun i hi => by rw [World.cell?_of_block (w := w) (w' := w') (a := ⟨q, i, none⟩) e]; exact h.has i hi, fun i hi => by rw [World.frozen?_of_block (w := w) (w' := w') (a := ⟨q, i, none⟩) e]; exact h.fr i hi, fun j x hj hx => by
    refine WordAt.of_vs fun m v hm => ?_
    exact (World.cell?_of_block (w := w) (w' := w') (a := ⟨q, j * 6 + m, none⟩) e).trans ((h.wd j x hj hx).vs m v hm)⟩
theorem OutB.ofBlock {w w' : World} {q n k : Nat} {L : List Bool} (h : OutB w q n k L) (hs : w.heap.size ≤ w'.heap.size) (e : w'.heap[q]? = w.heap[q]?) : OutB w' q n k L :=
  ⟨Nat.lt_of_lt_of_le h.lt hs, fun i hi => by rw [World.cell?_of_block (w := w) (w' := w') (a := ⟨q, i, none⟩) e]; exact h.has i hi, fun i hi => by rw [World.frozen?_of_block (w := w) (w' := w') (a := ⟨q, i, none⟩) e]; exact h.fr i hi, fun j x hj hx => (World.cell?_of_block (w := w) (w' := w') (a := ⟨q, j, none⟩) e).trans (h.wd j x hj hx)⟩
theorem RowWA.ofBlock {w w' : World} {a : Option Addr} {n : Nat} {L : List Wd} (h : RowWA w a n L) (hs : w.heap.size ≤ w'.heap.size) (hb : ∀ k, k < w.heap.size → On a k → w'.heap[k]? = w.heap[k]?) : RowWA w' a n L := by
  rcases h with h | ⟨q, rfl, hl, hO⟩
  · exact .inl h
  · exact .inr ⟨q, rfl, hl, hO.ofBlock hs (hb q hO.lt ((on_some q q).2 rfl))⟩
theorem RowBA.ofBlock {w w' : World} {a : Option Addr} {n : Nat} {L : List Bool} (h : RowBA w a n L) (hs : w.heap.size ≤ w'.heap.size) (hb : ∀ k, k < w.heap.size → On a k → w'.heap[k]? = w.heap[k]?) : RowBA w' a n L := by
  rcases h with h | ⟨q, rfl, hl, hO⟩
  · exact .inl h
  · exact .inr ⟨q, rfl, hl, hO.ofBlock hs (hb q hO.lt ((on_some q q).2 rfl))⟩

/-- A memory that a call has answered: it owns its rows. -/
structure AnsM (a a' : Option Addr) (n n' : Nat) (L : List Wd) (G : List Bool) (w : World) : Prop where
  ws : RowWA w a n L
  gs : RowBA w a' n' G
  ne : ∀ k, On a k → ¬ On a' k
def ansF (a a' : Option Addr) (n n' : Nat) (L : List Wd) (G : List Bool) : Fct where
  S := fun k => On a k ∨ On a' k
  p := AnsM a a' n n' L G
  keep := fun _ _ h hs hb => ⟨h.ws.ofBlock hs fun k hk ho => hb k hk (.inl ho), h.gs.ofBlock hs fun k hk ho => hb k hk (.inr ho), h.ne⟩
section
variable {w w' : World} {a a' : Option Addr} {n n' : Nat} {L : List Wd} {G : List Bool}
theorem AnsM.below (h : AnsM a a' n n' L G w) (hb : Below w.heap.size w w') : AnsM a a' n n' L G w' := (ansF a a' n n' L G).keep w w' h hb.size fun k hk _ => hb.block k hk
theorem AnsM.lw (h : AnsM a a' n n' L G w) : L.length = n := by
  rcases h.ws with ⟨_, rfl, rfl⟩ | ⟨_, _, hl, _⟩
  · rfl
  · exact hl
theorem AnsM.lg (h : AnsM a a' n n' L G w) : G.length = n' := by
  rcases h.gs with ⟨_, rfl, rfl⟩ | ⟨_, _, hl, _⟩
  · rfl
  · exact hl
theorem AnsM.mem (h : AnsM a a' n n' L G w) (hn : n ≤ 1048576) (hn' : n' ≤ 1048576) : MemS w a n a' n' L G := by
  constructor
  · rcases h.ws with ⟨rfl, rfl, rfl⟩ | ⟨q, rfl, hl, hO⟩
    · exact ⟨by unfold maxLen; omega, rfl, .inl rfl⟩
    · exact hO.slice hl (by unfold maxLen; omega)
  · rcases h.gs with ⟨rfl, rfl, rfl⟩ | ⟨q, rfl, hl, hO⟩
    · exact ⟨by unfold maxLen; omega, rfl, .inl rfl⟩
    · exact hO.slice hl (by unfold maxLen; omega)
theorem AnsM.lt (h : AnsM a a' n n' L G w) {k : Nat} (hk : On a k ∨ On a' k) : k < w.heap.size := by
  rcases hk with hk | hk
  · rcases h.ws with ⟨rfl, _, _⟩ | ⟨q, rfl, _, hO⟩
    · exact absurd hk (on_none k)
    · rw [← (on_some q k).1 hk]; exact hO.lt
  · rcases h.gs with ⟨rfl, _, _⟩ | ⟨q, rfl, _, hO⟩
    · exact absurd hk (on_none k)
    · rw [← (on_some q k).1 hk]; exact hO.lt
theorem AnsM.nil (w : World) : AnsM none none 0 0 [] [] w := ⟨.inl ⟨rfl, rfl, rfl⟩, .inl ⟨rfl, rfl, rfl⟩, fun k h => absurd h (on_none k)⟩
theorem OwnM.ans {w0 : World} {q q' : Nat} (h : OwnM w0 q q' n n' L G w) : AnsM (some ⟨q, 0, none⟩) (some ⟨q', 0, none⟩) n n' L G w :=
  ⟨.inr ⟨q, rfl, h.lw, h.ws⟩, .inr ⟨q', rfl, h.lg, h.gs⟩, fun k h1 h2 => h.ne (((on_some q k).1 h1).trans ((on_some q' k).1 h2).symm)⟩
theorem OwnM.from {w0 : World} {q q' : Nat} (h : OwnM w0 q q' n n' L G w) : ∀ k, On (some ⟨q, 0, none⟩) k ∨ On (some ⟨q', 0, none⟩) k → w0.heap.size ≤ k := fun k hk => by
  rcases hk with hk | hk
  · rw [← (on_some q k).1 hk]; exact h.nq
  · rw [← (on_some q' k).1 hk]; exact h.nq'
end

section
variable {w0 w : World} {fs : List Fct}
theorem Hold.duo (h : Hold w0 w fs) {r : Nat} {v0 v1 : Value} (hm : duoF r v0 v1 ∈ fs) : Duo w r v0 v1 := h.at hm
theorem Hold.arg (h : Hold w0 w fs) {B : Nat} {a : Option Addr} {n : Nat} {a' : Option Addr} {n' : Nat} {L : List Wd} {G : List Bool} (hm : argF B a n a' n' L G ∈ fs) : MemS w a n a' n' L G := ArgM.mem (h.at hm)
theorem Hold.ans (h : Hold w0 w fs) {a a' : Option Addr} {n n' : Nat} {L : List Wd} {G : List Bool} (hm : ansF a a' n n' L G ∈ fs) : AnsM a a' n n' L G w := h.at hm
end

set_option maxHeartbeats 1000000 in
theorem toMemory_ans (a : Option Addr) (n c : Nat) (a' : Option Addr) (n' c' : Nat) (L : List Wd) (G : List Bool) (w : World) (hn : n ≤ 1048576) (hn' : n' ≤ 1048576) (hM : MemS w a n a' n' L G) :
    Calls Tryz.prog 40 #[.agg #[.slice a n c, .slice a' n' c']] w fun e w' => ∃ b b', e = .returned (.agg #[.slice b n n, .slice b' n' n']) ∧ AnsM b b' n n' L G w' ∧ (∀ k, On b k ∨ On b' k → w.heap.size ≤ k) ∧ Below w.heap.size w w' := by
  refine (toMemory_any a n c a' n' c' L G w hn hn' hM).mono ?_
  rintro e w' ⟨q, q', rfl, hO⟩
  exact ⟨_, _, rfl, hO.ans, hO.from, hO.bel⟩
end Go.Proofs.YtpkhnajhamnggaaGreatDoor

namespace Go.Proofs.YtpkhnajhamnggaaGreatDoor
open Go.ChangeShapes Go.WideShapes Go.ChangeAt Go.RowKit
theorem Hold.six6 {w0 w : World} {fs : List Fct} {r : Nat} (h : Hold w0 w fs) (h0 : w0.heap.size ≤ r) (hd : ∀ f ∈ fs, ∀ k, f.S k → k ≠ r) (v0 v1 v2 v3 v4 v5 : Value) :
    Hold w0 ((((((w.setCell ⟨r, 0, none⟩ v0).setCell ⟨r, 1, none⟩ v1).setCell ⟨r, 2, none⟩ v2).setCell ⟨r, 3, none⟩ v3).setCell ⟨r, 4, none⟩ v4).setCell ⟨r, 5, none⟩ v5) fs :=
  h.wrote (T := fun k => k = r) (KeptS.ofBut (((((((KeepBut.refl r w).setCell _ v0).setCell _ v1).setCell _ v2).setCell _ v3).setCell _ v4).setCell _ v5) rfl) (fun k e => by omega) hd
theorem Hold.set2 {w0 w : World} {fs : List Fct} {r : Nat} (h : Hold w0 w fs) (h0 : w0.heap.size ≤ r) (hd : ∀ f ∈ fs, ∀ k, f.S k → k ≠ r) (v0 v1 : Value) :
    Hold w0 ((w.setCell ⟨r, 0, none⟩ v0).setCell ⟨r, 1, none⟩ v1) fs :=
  h.wrote (T := fun k => k = r) (KeptS.ofBut (((KeepBut.refl r w).setCell _ v0).setCell _ v1) rfl) (fun k e => by omega) hd
theorem Hold.realloc {w0 w : World} {fs : List Fct} {o o' : Obj} (h : Hold w0 (w.alloc o) fs) (l : w0.heap.size ≤ w.heap.size) (hd : ∀ f ∈ fs, ∀ k, f.S k → k < w.heap.size) : Hold w0 (w.alloc o') fs :=
  ⟨Aft.realloc (W := w0) h.bel l, fun f hf => f.keep _ _ (h.all f hf) (by rw [World.size_alloc, World.size_alloc]; exact Nat.le_refl _) fun k _ hs => by
    have hk := hd f hf k hs
    exact ((KeepBut.refl w.heap.size w).alloc o').block k hk (by omega) |>.trans (((KeepBut.refl w.heap.size w).alloc o).block k hk (by omega)).symm⟩
/-- The memory of an answer, as Filter asks it. -/
theorem ans_mem {w : World} {a a' : Option Addr} {n n' : Nat} {L : List Wd} {G : List Bool} (h : AnsM a a' n n' L G w) (hn : n ≤ 1048576) (hn' : n' ≤ 1048576) : SliceB w.heap.size w a' n' G := (h.mem hn hn').gs
end Go.Proofs.YtpkhnajhamnggaaGreatDoor

namespace Go.Proofs.YtpkhnajhamnggaaGreatDoor
open Go.ChangeShapes Go.WideShapes Go.ChangeAt Go.RowKit
set_option maxRecDepth 100000

theorem markW_nil (c : Nat) (k0 : Int) (w : World) : Calls Tryz.prog 48 #[.slice none 0 c, .int .i64 k0] w fun e w' => e = .returned (.int .i64 k0) ∧ w' = w := by
  go_enter Tryz.func48, Tryz.ntmps48
  go_wp2
  go_loopw [1, 5] (fun kk c wr => kk = .int .i64 k0 ∧ c = .int .i64 0 ∧ wr = w) (fun _ _ _ => 0)
  case atStart => exact ⟨rfl, rfl, rfl⟩
  case round =>
    obtain ⟨rfl, rfl, rfl⟩ := hrel
    go_wp2
    go_ret
    exact ⟨rfl, rfl⟩
theorem markB_nil (c : Nat) (k0 : Int) (w : World) : Calls Tryz.prog 98 #[.slice none 0 c, .int .i64 k0] w fun e w' => e = .returned (.int .i64 k0) ∧ w' = w := by
  go_enter Tryz.func98, Tryz.ntmps98
  go_wp2
  go_loopw [1, 5] (fun kk c wr => kk = .int .i64 k0 ∧ c = .int .i64 0 ∧ wr = w) (fun _ _ _ => 0)
  case atStart => exact ⟨rfl, rfl, rfl⟩
  case round =>
    obtain ⟨rfl, rfl, rfl⟩ := hrel
    go_wp2
    go_ret
    exact ⟨rfl, rfl⟩
theorem RowW.out {w : World} {q len k : Nat} {L : List Wd} (h : RowW w q 0 len k L) : OutW w q len k L :=
  ⟨h.lt, fun i hi => by have := h.has i hi; rwa [Nat.zero_add] at this, fun i hi => by have := h.fr i hi; rwa [Nat.zero_add] at this, fun j x hj hx => by have := h.wd j x hj hx; rwa [Nat.zero_add] at this⟩
theorem RowB.out {w : World} {q len k : Nat} {L : List Bool} (h : RowB w q 0 len k L) : OutB w q len k L :=
  ⟨h.lt, fun i hi => by have := h.has i hi; rwa [Nat.zero_add] at this, fun i hi => by have := h.fr i hi; rwa [Nat.zero_add] at this, fun j x hj hx => by have := h.wd j x hj hx; rwa [Nat.zero_add] at this⟩
theorem markW_ans (a : Option Addr) (n c : Nat) (L : List Wd) (k0 : Int) (h0 : 1 ≤ k0) (h1 : k0 ≤ 16777216) (w : World) (hn : n ≤ 1048576) (h : RowWA w a n L) :
    Calls Tryz.prog 48 #[.slice a n c, .int .i64 k0] w fun e w' => e = .returned (.int .i64 (k0 + 6 * (n : Int))) ∧ RowWA w' a n (marksW k0 n) ∧ KeptS (On a) w w' := by
  rcases h with ⟨rfl, rfl, rfl⟩ | ⟨q, rfl, hl, hO⟩
  · refine (markW_nil c k0 w).mono ?_
    rintro e w' ⟨rfl, rfl⟩
    exact ⟨by simp, .inl ⟨rfl, rfl, rfl⟩, KeptS.ofBelow (Below.refl _ _)⟩
  · refine (markW_any q 0 n c k0 h0 h1 w hn (hO.row.first _)).mono ?_
    rintro e w' ⟨rfl, hW, hK⟩
    exact ⟨rfl, .inr ⟨q, rfl, marksW_len _ _, hW.out⟩, KeptS.ofBut hK ((on_some q q).2 rfl)⟩
theorem markB_ans (a : Option Addr) (n c : Nat) (L : List Bool) (k0 : Int) (h0 : 1 ≤ k0) (h1 : k0 ≤ 16777216) (w : World) (hn : n ≤ 1048576) (h : RowBA w a n L) :
    Calls Tryz.prog 98 #[.slice a n c, .int .i64 k0] w fun e w' => e = .returned (.int .i64 (k0 + (n : Int))) ∧ RowBA w' a n (marksB k0 n) ∧ KeptS (On a) w w' := by
  rcases h with ⟨rfl, rfl, rfl⟩ | ⟨q, rfl, hl, hO⟩
  · refine (markB_nil c k0 w).mono ?_
    rintro e w' ⟨rfl, rfl⟩
    exact ⟨by simp, .inl ⟨rfl, rfl, rfl⟩, KeptS.ofBelow (Below.refl _ _)⟩
  · refine (markB_any q 0 n c k0 h0 h1 w hn (hO.row.first _)).mono ?_
    rintro e w' ⟨rfl, hW, hK⟩
    exact ⟨rfl, .inr ⟨q, rfl, marksB_len _ _, hW.out⟩, KeptS.ofBut hK ((on_some q q).2 rfl)⟩

set_option maxHeartbeats 4000000 in
theorem markMem_ans (a : Option Addr) (n c : Nat) (a' : Option Addr) (n' c' : Nat) (L : List Wd) (G : List Bool) (hn : n ≤ 1048576) (hn' : n' ≤ 1048576) (w : World) (h : AnsM a a' n n' L G w) :
    Calls Tryz.prog 49 #[.agg #[.slice a n c, .slice a' n' c'], .int .i64 1] w fun e w' => e = .returned (.int .i64 (1 + 6 * (n : Int) + (n' : Int))) ∧ AnsM a a' n n' (marksW 1 n) (marksB (1 + 6 * (n : Int)) n') w' ∧ KeptS (fun k => On a k ∨ On a' k) w w' := by
  have H := hid_mk ((((Hold.new w).push (ansF a a' n n' L G) h).alloc (.cells #[.slice a n c, .slice a' n' c'] 40)).push (duoF w.heap.size (.slice a n c) (.slice a' n' c')) (Duo.new w _ _ _))
  have hlt := hid_mk (fun k hk => h.lt (k := k) hk)
  have hne := hid_mk h.ne
  clear h
  obtain ⟨m, hm⟩ : ∃ m : Int, m = 1 + 6 * (n : Int) := ⟨_, rfl⟩
  rw [← hm]
  have hm0 : 1 ≤ m := by omega
  have hm1 : m ≤ 16777216 := by omega
  have HM := hid_mk hm
  clear hm
  generalize hw1 : w.alloc (.cells #[.slice a n c, .slice a' n' c'] 40) = w1 at H
  go_enter Tryz.func49, Tryz.ntmps49
  go_upto_region 1 with fail
  clear hw1
  obtain ⟨_, m0, m1, _, _⟩ := H.out.duo (.head _)
  have A := hid_mk (H.out.ans (.tail _ (.head _)))
  have D := hid_mk (H.out.duo (.head _))
  have B := hid_mk H.out.bel
  have K := hid_mk (KeptS.ofBelow (T := fun k => On a k ∨ On a' k) H.out.bel)
  clear H
  go_wp2_with fail
  refine (markW_ans a n c L 1 (by decide) (by decide) _ hn A.out.ws).mono ?_
  rintro e w2 ⟨rfl, hW2, hK2⟩
  rw [← HM.out]
  have W2 := hid_mk hW2
  have G2 := hid_mk (A.out.gs.ofBlock hK2.size fun k hk ho => hK2.block k hk fun hk2 => hne.out k hk2 ho)
  have D2 : Hid (Duo w2 w.heap.size (.slice a n c) (.slice a' n' c')) := (duoF w.heap.size (.slice a n c) (.slice a' n' c')).keep _ _ D.out hK2.size fun k hk hr => hK2.block k hk fun ho => by
    have h1 := hlt.out k (.inl ho)
    have h2 : k = w.heap.size := hr
    omega
  have K2 := hid_mk (K.out.trans (hK2.mono fun k hk => .inl hk))
  clear hW2 hK2 m0 m1 A B K D
  obtain ⟨_, m0, m1, _, _⟩ := D2.out
  go_wp2_with fail
  refine (markB_ans a' n' c' G m hm0 hm1 _ hn' G2.out).mono ?_
  rintro e w3 ⟨rfl, hG3, hK3⟩
  have W3 := hid_mk (W2.out.ofBlock hK3.size fun k hk ho => hK3.block k hk fun hk2 => hne.out k ho hk2)
  have G3 := hid_mk hG3
  have K3 := hid_mk (K2.out.trans (hK3.mono fun k hk => .inr hk))
  clear hG3 hK3 m0 m1 D2 G2 W2 K2
  go_wp2
  go_ret
  exact ⟨rfl, ⟨W3.out, G3.out, hne.out⟩, K3.out⟩
end Go.Proofs.YtpkhnajhamnggaaGreatDoor
