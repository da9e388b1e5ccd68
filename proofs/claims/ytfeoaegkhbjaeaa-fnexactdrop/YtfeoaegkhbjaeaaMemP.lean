/- markMemory and heldMemory of the laws: what is marked is held. No condition but that the lists are no longer than the law lets them be. -/
import Derived.Test.YtfeoaegkhbjaeaaMemM
namespace Go.Proofs.Ytfeoaegkhbjaeaa
open Go.ChangeShapes Go.WideShapes Go.ChangeAt Go.RowKit
set_option maxRecDepth 100000

/-- Of what was there nothing has turned but two blocks. -/
structure Keep2 (q q' : Nat) (w w' : World) : Prop where
  os : w'.os = w.os
  tape : w'.tape = w.tape
  output : w'.output = w.output
  size : w.heap.size ≤ w'.heap.size
  block : ∀ k, k < w.heap.size → k ≠ q → k ≠ q' → w'.heap[k]? = w.heap[k]?
theorem Keep2.below {q q' B : Nat} {w w' : World} (h : Keep2 q q' w w') (hq : B ≤ q) (hq' : B ≤ q') (hB : B ≤ w.heap.size) : Below B w w' :=
  ⟨h.os, h.tape, h.output, h.size, fun k hk => h.block k (by omega) (by omega) (by omega)⟩
theorem KeepBut.two {q q' : Nat} {w w1 w' : World} (h : KeepBut q w w1) (g : KeepBut q' w1 w') : Keep2 q q' w w' :=
  ⟨g.os.trans h.os, g.tape.trans h.tape, g.output.trans h.output, Nat.le_trans h.size g.size, fun k hk h1 h2 => (g.block k (Nat.lt_of_lt_of_le hk h.size) h2).trans (h.block k hk h1)⟩

set_option maxHeartbeats 4000000 in
theorem markMem_any (q o n c q' o' n' c' : Nat) (L : List Wd) (G : List Bool) (hn : n ≤ 1048576) (hn' : n' ≤ 1048576) (hne : q ≠ q') (w : World) (hW : RowW w q o n n L) (hB : RowB w q' o' n' n' G) :
    Calls Try.prog 15 #[.agg #[.slice (some ⟨q, o, none⟩) n c, .slice (some ⟨q', o', none⟩) n' c'], .int .i64 1] w fun e w' => e = .returned (.int .i64 (1 + 6 * (n : Int) + (n' : Int))) ∧ RowW w' q o n n (marksW 1 n) ∧ RowB w' q' o' n' n' (marksB (1 + 6 * (n : Int)) n') ∧ Keep2 q q' w w' := by
  have M0 := hid_mk (Mb.new w (.slice (some ⟨q, o, none⟩) n c) (.slice (some ⟨q', o', none⟩) n' c') 30)
  have W0 := hid_mk ((hW.below M0.out.bel).first (marksW 1 n))
  have G0 := hid_mk ((hB.below M0.out.bel).first (marksB (1 + 6 * (n : Int)) n'))
  have K0 : Hid (KeepBut q w (w.alloc (.cells #[.slice (some ⟨q, o, none⟩) n c, .slice (some ⟨q', o', none⟩) n' c'] 30))) := (KeepBut.refl _ _).alloc _
  have hq := hW.lt
  have hq' := hB.lt
  clear hW hB
  obtain ⟨m, hm⟩ : ∃ m : Int, m = 1 + 6 * (n : Int) := ⟨_, rfl⟩
  rw [← hm] at G0 ⊢
  have hm0 : 1 ≤ m := by omega
  have hm1 : m ≤ 16777216 := by omega
  have HM := hid_mk hm
  clear hm
  generalize hw1 : w.alloc (.cells #[.slice (some ⟨q, o, none⟩) n c, .slice (some ⟨q', o', none⟩) n' c'] 30) = w1 at M0 W0 G0 K0
  go_enter Try.func15, Try.ntmps15
  go_upto_region 1 with fail
  clear hw1
  obtain ⟨_, m0, m1, _, _⟩ := M0.out.d
  go_wp2_with fail
  refine (markW_any q o n c 1 (by decide) (by decide) _ hn W0.out).mono ?_
  rintro e w2 ⟨rfl, hW2, hK2⟩
  rw [← HM.out]
  have M2 : Hid (Duo w2 w.heap.size (.slice (some ⟨q, o, none⟩) n c) (.slice (some ⟨q', o', none⟩) n' c')) := M0.out.d.keep hK2 (by omega)
  have G2 := hid_mk (G0.out.keepB hK2 (Ne.symm hne))
  have W2 := hid_mk hW2
  have K2 := hid_mk (K0.out.trans hK2)
  clear hW2 hK2 m0 m1 M0 W0 G0 K0
  obtain ⟨_, m0, m1, _, _⟩ := M2.out
  go_wp2_with fail
  refine (markB_any q' o' n' c' m hm0 hm1 _ hn' G2.out).mono ?_
  rintro e w3 ⟨rfl, hG3, hK3⟩
  have W3 := hid_mk (W2.out.keepB hK3 hne)
  have G3 := hid_mk hG3
  have K3 := hid_mk (K2.out.two hK3)
  clear hG3 hK3 m0 m1 M2 G2 W2 K2
  go_wp2
  go_ret
  exact ⟨rfl, W3.out, G3.out, K3.out⟩

set_option maxHeartbeats 4000000 in
theorem heldMem_any (a : Option Addr) (n c : Nat) (a' : Option Addr) (n' c' : Nat) (hn : n ≤ 1048576) (hn' : n' ≤ 1048576) (w : World) (hM : MemS w a n a' n' (marksW 1 n) (marksB (1 + 6 * (n : Int)) n')) :
    Calls Try.prog 16 #[.agg #[.slice a n c, .slice a' n' c'], .int .i64 1] w fun e w' => e = .returned (.int .i64 (1 + 6 * (n : Int) + (n' : Int))) ∧ Below w.heap.size w w' := by
  have M0 := hid_mk (Mb.new w (.slice a n c) (.slice a' n' c') 30)
  have S := hid_mk hM
  clear hM
  obtain ⟨m, hm⟩ : ∃ m : Int, m = 1 + 6 * (n : Int) := ⟨_, rfl⟩
  rw [← hm] at S ⊢
  have hm0 : 1 ≤ m := by omega
  have hm1 : m ≤ 16777216 := by omega
  have HM := hid_mk hm
  clear hm
  generalize hw1 : w.alloc (.cells #[.slice a n c, .slice a' n' c'] 30) = w1 at M0
  go_enter Try.func16, Try.ntmps16
  go_upto_region 1 with fail
  clear hw1
  obtain ⟨_, m0, m1, _, _⟩ := M0.out.d
  go_wp2_with fail
  refine (heldW_any a n c 1 (by decide) (by decide) _ hn ((S.out.ws.keep M0.out.bel).mono M0.out.bel.size)).mono ?_
  rintro e w2 ⟨rfl, hb2⟩
  rw [← HM.out]
  have M2 := hid_mk (M0.out.next hb2)
  clear hb2 m0 m1 M0
  obtain ⟨_, m0, m1, _, _⟩ := M2.out.d
  go_wp2_with fail
  refine (heldB_any a' n' c' m hm0 hm1 _ hn' ((S.out.gs.keep M2.out.bel).mono M2.out.bel.size)).mono ?_
  rintro e w3 ⟨rfl, hb3⟩
  have M3 := hid_mk (M2.out.next hb3)
  clear hb3 m0 m1 M2
  go_wp2
  go_ret
  exact ⟨rfl, M3.out.bel⟩
end Go.Proofs.Ytfeoaegkhbjaeaa
