/- wordsOk and isTrap of the program at all lists and numbers: what they answer. No condition. -/
import Derived.Test.YtfeoaegkhbjaeaaDoorMemF
namespace Go.Proofs.YtfeoaegkhbjaeaaDoor
open Go.ChangeShapes Go.WideShapes Go.ChangeAt Go.RowKit
set_option maxRecDepth 100000

set_option maxHeartbeats 4000000 in
theorem implWordsOk_any (a : Option Addr) (n c : Nat) (L : List Wd) (w : World) (hS : SliceW w.heap.size w a n L) :
    Calls Tryd.prog 42 #[.slice a n c] w fun e w' => e = .returned (.bool (L.all okW)) ∧ Below w.heap.size w w' := by
  have S := hid_mk hS
  have hn := hS.2.1
  have hm := hS.1
  unfold maxLen at hm
  clear hS
  obtain ⟨z, Z⟩ : ∃ z, Hid (z = L.all okW) := ⟨_, rfl⟩
  rw [← Z.out]
  go_enter Tryd.func42, Tryd.ntmps42
  go_wp2
  go_loopw [7] (fun cc wr => ∃ k : Nat, k ≤ n ∧ cc = .int .i64 (k : Int) ∧ Hid ((L.take k).all okW = true) ∧ Hid (Below w.heap.size w wr)) (fun cc _ => n - (intOf cc).toNat)
  case atStart => exact ⟨0, Nat.zero_le _, rfl, by simp [Hid], Below.refl _ _⟩
  case round =>
    obtain ⟨k, hk, rfl, A, B⟩ := hrel
    by_cases hlt : k < n
    · obtain ⟨kb, o, x, rfl, hkb, hx, hat⟩ := (S.out.keep B.out).at hlt
      obtain ⟨d0, d1, d2, d3, d4, d5⟩ := hat
      have s2 := implWordOk_any x.n x.i x.b x.t x.p x.s
      have hO : Hid (okW x = wokB x.n x.i x.b x.t x.p x.s) := rfl
      generalize wokB x.n x.i x.b x.t x.p x.s = v at s2 hO
      have S2 := hid_mk s2
      have HX := hid_mk hx
      have B1 : Hid (Below w.heap.size w (wr.alloc (.cells #[.int .i64 x.n, .bool x.i, .int .i64 x.b, .int .i64 x.t, .int .i64 x.p, .int .i64 x.s] 36))) := B.out.alloc B.out.size _
      have zB := B1.out.size
      clear hx s2
      go_wp2_with (go_at_call 72; refine (S2.out _).mono ?_; rintro e w2 ⟨rfl, hb⟩; refine Hid.out ?_)
      refine Lib.hid ?_
      have B2 : Hid (Below w.heap.size w w2) := B1.out.trans (hb.mono zB)
      clear hb d0 d1 d2 d3 d4 d5
      cases v
      · have hz : z = false := Z.out.trans (allW_at HX.out hO.out)
        subst hz
        go_wp2
        go_ret
        exact ⟨rfl, B2.out⟩
      · go_wp2
        go_roundw
        case rel => exact ⟨k + 1, hlt, by go_num, allW_take HX.out A.out hO.out, B2.out⟩
        case measure => simp [intOf]; omega
    · obtain rfl : k = n := by omega
      have hz : z = true := by
        have h := A.out
        rw [List.take_of_length_le (by omega)] at h
        exact Z.out.trans h
      subst hz
      go_wp2
      go_ret
      exact ⟨rfl, B.out⟩
end Go.Proofs.YtfeoaegkhbjaeaaDoor
