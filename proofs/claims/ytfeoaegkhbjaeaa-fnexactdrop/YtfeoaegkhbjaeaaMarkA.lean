/- markMemory and heldMemory of the laws at a memory that a call has answered, nil rows too: what is marked is held. No condition but that the lists are no longer than the law lets them be. -/
import Derived.Test.YtfeoaegkhbjaeaaHold
namespace Go.Proofs.Ytfeoaegkhbjaeaa
open Go.ChangeShapes Go.WideShapes Go.ChangeAt Go.RowKit
set_option maxRecDepth 100000

theorem markW_nil (c : Nat) (k0 : Int) (w : World) : Calls Try.prog 38 #[.slice none 0 c, .int .i64 k0] w fun e w' => e = .returned (.int .i64 k0) ∧ w' = w := by
  go_enter Try.func38, Try.ntmps38
  go_wp2
  go_loopw [1, 5] (fun kk c wr => kk = .int .i64 k0 ∧ c = .int .i64 0 ∧ wr = w) (fun _ _ _ => 0)
  case atStart => exact ⟨rfl, rfl, rfl⟩
  case round =>
    obtain ⟨rfl, rfl, rfl⟩ := hrel
    go_wp2
    go_ret
    exact ⟨rfl, rfl⟩
theorem markB_nil (c : Nat) (k0 : Int) (w : World) : Calls Try.prog 39 #[.slice none 0 c, .int .i64 k0] w fun e w' => e = .returned (.int .i64 k0) ∧ w' = w := by
  go_enter Try.func39, Try.ntmps39
  go_wp2
  go_loopw [1, 5] (fun kk c wr => kk = .int .i64 k0 ∧ c = .int .i64 0 ∧ wr = w) (fun _ _ _ => 0)
  case atStart => exact ⟨rfl, rfl, rfl⟩
  case round =>
    obtain ⟨rfl, rfl, rfl⟩ := hrel
    go_wp2
    go_ret
    exact ⟨rfl, rfl⟩
theorem RowW.out {w : World} {q len k : Nat} {L : List Wd} (h : RowW w q 0 len k L) : OutW w q len k L :=
  ⟨h.lt, fun i hi => by have := h.has i hi; rwa [Nat.zero_add] at this, fun i hi => by have := h.fr i hi; rwa [Nat.zero_add] at this, fun j x hj hx => by have := h.wd j x hj hx; rwa [Nat.zero_add] at this⟩
theorem RowB.out {w : World} {q len k : Nat} {L : List Bool} (h : RowB w q 0 len k L) : OutB w q len k L :=
  ⟨h.lt, fun i hi => by have := h.has i hi; rwa [Nat.zero_add] at this, fun i hi => by have := h.fr i hi; rwa [Nat.zero_add] at this, fun j x hj hx => by have := h.wd j x hj hx; rwa [Nat.zero_add] at this⟩
theorem markW_ans (a : Option Addr) (n c : Nat) (L : List Wd) (k0 : Int) (h0 : 1 ≤ k0) (h1 : k0 ≤ 16777216) (w : World) (hn : n ≤ 1048576) (h : RowWA w a n L) :
    Calls Try.prog 38 #[.slice a n c, .int .i64 k0] w fun e w' => e = .returned (.int .i64 (k0 + 6 * (n : Int))) ∧ RowWA w' a n (marksW k0 n) ∧ KeptS (On a) w w' := by
  rcases h with ⟨rfl, rfl, rfl⟩ | ⟨q, rfl, hl, hO⟩
  · refine (markW_nil c k0 w).mono ?_
    rintro e w' ⟨rfl, rfl⟩
    exact ⟨by simp, .inl ⟨rfl, rfl, rfl⟩, KeptS.ofBelow (Below.refl _ _)⟩
  · refine (markW_any q 0 n c k0 h0 h1 w hn (hO.row.first _)).mono ?_
    rintro e w' ⟨rfl, hW, hK⟩
    exact ⟨rfl, .inr ⟨q, rfl, marksW_len _ _, hW.out⟩, KeptS.ofBut hK ((on_some q q).2 rfl)⟩
theorem markB_ans (a : Option Addr) (n c : Nat) (L : List Bool) (k0 : Int) (h0 : 1 ≤ k0) (h1 : k0 ≤ 16777216) (w : World) (hn : n ≤ 1048576) (h : RowBA w a n L) :
    Calls Try.prog 39 #[.slice a n c, .int .i64 k0] w fun e w' => e = .returned (.int .i64 (k0 + (n : Int))) ∧ RowBA w' a n (marksB k0 n) ∧ KeptS (On a) w w' := by
  rcases h with ⟨rfl, rfl, rfl⟩ | ⟨q, rfl, hl, hO⟩
  · refine (markB_nil c k0 w).mono ?_
    rintro e w' ⟨rfl, rfl⟩
    exact ⟨by simp, .inl ⟨rfl, rfl, rfl⟩, KeptS.ofBelow (Below.refl _ _)⟩
  · refine (markB_any q 0 n c k0 h0 h1 w hn (hO.row.first _)).mono ?_
    rintro e w' ⟨rfl, hW, hK⟩
    exact ⟨rfl, .inr ⟨q, rfl, marksB_len _ _, hW.out⟩, KeptS.ofBut hK ((on_some q q).2 rfl)⟩

set_option maxHeartbeats 4000000 in
theorem markMem_ans (a : Option Addr) (n c : Nat) (a' : Option Addr) (n' c' : Nat) (L : List Wd) (G : List Bool) (hn : n ≤ 1048576) (hn' : n' ≤ 1048576) (w : World) (h : AnsM a a' n n' L G w) :
    Calls Try.prog 15 #[.agg #[.slice a n c, .slice a' n' c'], .int .i64 1] w fun e w' => e = .returned (.int .i64 (1 + 6 * (n : Int) + (n' : Int))) ∧ AnsM a a' n n' (marksW 1 n) (marksB (1 + 6 * (n : Int)) n') w' ∧ KeptS (fun k => On a k ∨ On a' k) w w' := by
  have H := hid_mk ((((Hold.new w).push (ansF a a' n n' L G) h).alloc (.cells #[.slice a n c, .slice a' n' c'] 30)).push (duoF w.heap.size (.slice a n c) (.slice a' n' c')) (Duo.new w _ _ _))
  have hlt := hid_mk (fun k hk => h.lt (k := k) hk)
  have hne := hid_mk h.ne
  clear h
  obtain ⟨m, hm⟩ : ∃ m : Int, m = 1 + 6 * (n : Int) := ⟨_, rfl⟩
  rw [← hm]
  have hm0 : 1 ≤ m := by omega
  have hm1 : m ≤ 16777216 := by omega
  have HM := hid_mk hm
  clear hm
  generalize hw1 : w.alloc (.cells #[.slice a n c, .slice a' n' c'] 30) = w1 at H
  go_enter Try.func15, Try.ntmps15
  go_upto_region 1 with fail
  clear hw1
  obtain ⟨_, m0, m1, _, _⟩ := H.out.duo (.head _)
  have A := hid_mk (H.out.ans (.tail _ (.head _)))
  have D := hid_mk (H.out.duo (.head _))
  have B := hid_mk H.out.bel
  have K := hid_mk (KeptS.ofBelow (T := fun k => On a k ∨ On a' k) H.out.bel)
  clear H
  go_wp2_with fail
  refine (markW_ans a n c L 1 (by decide) (by decide) _ hn A.out.ws).mono ?_
  rintro e w2 ⟨rfl, hW2, hK2⟩
  rw [← HM.out]
  have W2 := hid_mk hW2
  have G2 := hid_mk (A.out.gs.ofBlock hK2.size fun k hk ho => hK2.block k hk fun hk2 => hne.out k hk2 ho)
  have D2 : Hid (Duo w2 w.heap.size (.slice a n c) (.slice a' n' c')) := (duoF w.heap.size (.slice a n c) (.slice a' n' c')).keep _ _ D.out hK2.size fun k hk hr => hK2.block k hk fun ho => by
    have h1 := hlt.out k (.inl ho)
    have h2 : k = w.heap.size := hr
    omega
  have K2 := hid_mk (K.out.trans (hK2.mono fun k hk => .inl hk))
  clear hW2 hK2 m0 m1 A B K D
  obtain ⟨_, m0, m1, _, _⟩ := D2.out
  go_wp2_with fail
  refine (markB_ans a' n' c' G m hm0 hm1 _ hn' G2.out).mono ?_
  rintro e w3 ⟨rfl, hG3, hK3⟩
  have W3 := hid_mk (W2.out.ofBlock hK3.size fun k hk ho => hK3.block k hk fun hk2 => hne.out k ho hk2)
  have G3 := hid_mk hG3
  have K3 := hid_mk (K2.out.trans (hK3.mono fun k hk => .inr hk))
  clear hG3 hK3 m0 m1 D2 G2 W2 K2
  go_wp2
  go_ret
  exact ⟨rfl, ⟨W3.out, G3.out, hne.out⟩, K3.out⟩
end Go.Proofs.Ytfeoaegkhbjaeaa
