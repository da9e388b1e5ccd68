/- Lists of ints that hold marks; a list of facts while one list of ints is marked. No condition but that the list is no longer than the law lets it be. · markEntryS of the laws where there are no entries. No condition. · markIntS and heldIntS of the laws at a row of ints that a call has answered, or none. No condition but that the list is no longer than the law lets it be. -/
import Derived.Test.YtpkhnajhamnggaaGreatDoorIntS
import Derived.Test.YtpkhnajhamnggaaGreatDoorMemA
import Derived.Test.YtpkhnajhamnggaaGreatDoorYB
namespace Go.Proofs.YtpkhnajhamnggaaGreatDoor
open Go.ChangeShapes Go.WideShapes Go.ChangeAt Go.RowKit
set_option maxRecDepth 100000

set_option maxHeartbeats 2000000 in
theorem heldN_own (q len cap : Nat) (k0 : Int) (h0 : 1 ≤ k0) (h1 : k0 ≤ 33554432) (w : World) (hl : len ≤ 1048576) (h : (intF q len (marksN k0 len)).p w) :
    Calls Tryz.prog 70 #[.slice (some ⟨q, 0, none⟩) len cap, .int .i64 k0] w fun e w' => e = .returned (.int .i64 (k0 + (len : Int))) ∧ Below w.heap.size w w' := by
  obtain ⟨h, _⟩ := h
  have S := hid_mk (h.slice (marksN_len _ _) (by unfold maxLen; omega))
  clear h
  go_enter Tryz.func70, Tryz.ntmps70
  go_wp2
  go_loopw [1, 5] (fun kk c wr => ∃ k : Nat, k ≤ len ∧ kk = .int .i64 (k0 + (k : Int)) ∧ c = .int .i64 (k : Int) ∧ Hid (Below w.heap.size w wr)) (fun _ c _ => len - (RowKit.intOf c).toNat)
  case atStart => exact ⟨0, Nat.zero_le _, by simp, rfl, Below.refl _ _⟩
  case round =>
    obtain ⟨k, hk, rfl, rfl, B⟩ := hrel
    by_cases hlt : k < len
    · obtain ⟨kb, o, x, hq, hkb, hx, d0⟩ := (S.out.keep B.out).at hlt
      cases hq
      rw [marksN_at hlt] at hx
      obtain rfl := Option.some.inj hx
      rw [Nat.zero_add] at d0
      obtain ⟨m, hm⟩ : ∃ m : Int, m = k0 + (k : Int) := ⟨_, rfl⟩
      rw [← hm] at d0 ⊢
      have hm0 : 0 ≤ m := by omega
      have hm1 : m ≤ 67108864 := by omega
      have hmm : (m != m) = false := by simp
      have HM := hid_mk hm
      clear hm hx
      go_wp2
      go_roundw
      case rel => exact ⟨k + 1, hlt, by have := HM.out; go_num, by go_num, B.out⟩
      case measure => simp [RowKit.intOf]; omega
    · obtain rfl : k = len := by omega
      go_wp2
      go_ret
      exact ⟨rfl, B.out⟩
theorem Hold.mark {w0 w w' : World} {fs : List Fct} {q n : Nat} {L M : List Int} (h : Hold w0 w (intF q n L :: fs)) (k : KeepBut q w w') (hp : (intF q n M).p w') (h0 : w0.heap.size ≤ q) (hd : ∀ f ∈ fs, ¬ f.S q) : Hold w0 w' (intF q n M :: fs) :=
  (h.tail.wrote (T := fun k => k = q) (KeptS.ofBut k rfl) (fun j hj => by subst hj; exact h0) (fun f hf j hj e => by subst e; exact hd f hf hj)).push _ hp
end Go.Proofs.YtpkhnajhamnggaaGreatDoor

namespace Go.Proofs.YtpkhnajhamnggaaGreatDoor
open Go.ChangeShapes Go.WideShapes Go.ChangeAt Go.RowKit
set_option maxRecDepth 100000

set_option maxHeartbeats 4000000 in
theorem markE_nil (a : Option Addr) (c : Nat) (k0 : Int) (w : World) : Calls Tryz.prog 68 #[.slice a 0 c, .int .i64 k0] w fun e w' => e = .returned (.int .i64 k0) ∧ w' = w := by
  go_enter Tryz.func68, Tryz.ntmps68
  go_wp2
  refine wp_loop_rounds 1 ?_
  rw [rounds_succ]
  go_wp2
  go_ret
  exact ⟨rfl, rfl⟩
end Go.Proofs.YtpkhnajhamnggaaGreatDoor

namespace Go.Proofs.YtpkhnajhamnggaaGreatDoor
open Go.ChangeShapes Go.WideShapes Go.ChangeAt Go.RowKit
set_option maxRecDepth 100000

theorem markN_nil (c : Nat) (k0 : Int) (w : World) : Calls Tryz.prog 21 #[.slice none 0 c, .int .i64 k0] w fun e w' => e = .returned (.int .i64 k0) ∧ w' = w := by
  go_enter Tryz.func21, Tryz.ntmps21
  go_wp2
  go_loopw [1, 5] (fun kk c wr => kk = .int .i64 k0 ∧ c = .int .i64 0 ∧ wr = w) (fun _ _ _ => 0)
  case atStart => exact ⟨rfl, rfl, rfl⟩
  case round =>
    obtain ⟨rfl, rfl, rfl⟩ := hrel
    go_wp2
    go_ret
    exact ⟨rfl, rfl⟩
theorem heldN_nil (c : Nat) (k0 : Int) (w : World) : Calls Tryz.prog 70 #[.slice none 0 c, .int .i64 k0] w fun e w' => e = .returned (.int .i64 k0) ∧ w' = w := by
  go_enter Tryz.func70, Tryz.ntmps70
  go_wp2
  go_loopw [1, 5] (fun kk c wr => kk = .int .i64 k0 ∧ c = .int .i64 0 ∧ wr = w) (fun _ _ _ => 0)
  case atStart => exact ⟨rfl, rfl, rfl⟩
  case round =>
    obtain ⟨rfl, rfl, rfl⟩ := hrel
    go_wp2
    go_ret
    exact ⟨rfl, rfl⟩
theorem markN_row (a : Option Addr) (n c : Nat) (L : List Int) (k0 : Int) (h0 : 1 ≤ k0) (h1 : k0 ≤ 33554432) (w : World) (hn : n ≤ 1048576) (h : RowNA w a n L) :
    Calls Tryz.prog 21 #[.slice a n c, .int .i64 k0] w fun e w' => e = .returned (.int .i64 (k0 + (n : Int))) ∧ RowNA w' a n (marksN k0 n) ∧ KeptS (On a) w w' := by
  rcases h with ⟨rfl, rfl, rfl⟩ | ⟨q, rfl, hl, hO⟩
  · refine (markN_nil c k0 w).mono ?_
    rintro e w' ⟨rfl, rfl⟩
    exact ⟨by simp, .inl ⟨rfl, rfl, rfl⟩, KeptS.ofBelow (Below.refl _ _)⟩
  · refine (markN_own q n c L k0 h0 h1 w hn ⟨hO, hl⟩).mono ?_
    rintro e w' ⟨rfl, hW, hK⟩
    exact ⟨rfl, .inr ⟨q, rfl, marksN_len _ _, hW.1⟩, KeptS.ofBut hK ((on_some q q).2 rfl)⟩
theorem heldN_row (a : Option Addr) (n c : Nat) (k0 : Int) (h0 : 1 ≤ k0) (h1 : k0 ≤ 33554432) (w : World) (hn : n ≤ 1048576) (h : RowNA w a n (marksN k0 n)) :
    Calls Tryz.prog 70 #[.slice a n c, .int .i64 k0] w fun e w' => e = .returned (.int .i64 (k0 + (n : Int))) ∧ Below w.heap.size w w' := by
  rcases h with ⟨rfl, rfl, _⟩ | ⟨q, rfl, hl, hO⟩
  · refine (heldN_nil c k0 w).mono ?_
    rintro e w' ⟨rfl, rfl⟩
    exact ⟨by simp, Below.refl _ _⟩
  · exact heldN_own q n c k0 h0 h1 w hn ⟨hO, hl⟩
end Go.Proofs.YtpkhnajhamnggaaGreatDoor
