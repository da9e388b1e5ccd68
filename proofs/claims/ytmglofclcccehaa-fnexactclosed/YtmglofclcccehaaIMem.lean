/- MemoryOk, MemoryNew and Filter of the program at all memories: what they answer. No condition. -/
import Derived.Test.YtmglofclcccehaaMemF
import Derived.Test.YtmglofclcccehaaMemN
namespace Go.Proofs.Ytmglofclcccehaa
open Go.ChangeShapes Go.WideShapes Go.ChangeAt Go.RowKit
set_option maxRecDepth 100000

set_option maxHeartbeats 4000000 in
theorem implMemoryOk_any (a : Option Addr) (n c : Nat) (a' : Option Addr) (n' c' : Nat) (L : List Wd) (G : List Bool) (w : World) (hM : MemS w a n a' n' L G) :
    Calls Try.prog 43 #[.agg #[.slice a n c, .slice a' n' c']] w fun e w' => e = .returned (.bool (mokB L G)) ∧ Below w.heap.size w w' := by
  have B0 : Hid (Below w.heap.size w (w.alloc (.cells #[.slice a n c, .slice a' n' c'] 39))) := (Below.refl _ _).alloc (Nat.le_refl _) _
  have S := hid_mk hM.ws
  have hn := hM.ws.2.1
  have hn' := hM.gs.2.1
  have hm := hM.ws.1
  have hm' := hM.gs.1
  unfold maxLen at hm hm'
  clear hM
  obtain ⟨z, Z⟩ : ∃ z, Hid (z = mokB L G) := ⟨_, rfl⟩
  rw [← Z.out]
  by_cases h1 : n = 24
  · by_cases h2 : n' = 24
    · subst h1 h2
      have ZA : Hid (z = L.all okW) := by
        rw [Z.out, mokB, hn, hn']; simp [Hid]
      clear Z
      have D0 := hid_mk (Duo.new w (.slice a 24 c) (.slice a' 24 c') 39)
      generalize hw1 : w.alloc (.cells #[.slice a 24 c, .slice a' 24 c'] 39) = w1 at B0 D0
      go_enter Try.func43, Try.ntmps43
      go_upto_region 1 with fail
      clear hw1
      obtain ⟨_, m0, m1, _, _⟩ := D0.out
      go_wp2
      clear m0 m1 D0
      go_loopw [18] (fun cc wr => ∃ k : Nat, k ≤ 24 ∧ cc = .int .i64 (k : Int) ∧ Hid ((L.take k).all okW = true) ∧ Hid (Below w.heap.size w wr)) (fun cc _ => 24 - (intOf cc).toNat)
      case atStart => exact ⟨0, Nat.zero_le _, rfl, by simp [Hid], B0.out⟩
      case round =>
        clear B0
        obtain ⟨k, hk, rfl, A, B⟩ := hrel
        by_cases hlt : k < 24
        · obtain ⟨kb, o, x, rfl, hkb, hx, hat⟩ := (S.out.keep B.out).at hlt
          obtain ⟨d0, d1, d2, d3, d4, d5⟩ := hat
          have s2 := implWordOk_any x.n x.i x.b x.t x.p x.s
          have hO : Hid (okW x = wokB x.n x.i x.b x.t x.p x.s) := rfl
          generalize wokB x.n x.i x.b x.t x.p x.s = v at s2 hO
          have S2 := hid_mk s2
          have HX := hid_mk hx
          have B1 : Hid (Below w.heap.size w (wr.alloc (.cells #[.int .i64 x.n, .bool x.i, .int .i64 x.b, .int .i64 x.t, .int .i64 x.p, .int .i64 x.s] 37))) := B.out.alloc B.out.size _
          have zB := B1.out.size
          clear hx s2
          go_wp2_with (go_at_call 42; refine (S2.out _).mono ?_; rintro e w2 ⟨rfl, hb⟩; refine Hid.out ?_)
          refine Lib.hid ?_
          have B2 : Hid (Below w.heap.size w w2) := B1.out.trans (hb.mono zB)
          clear hb d0 d1 d2 d3 d4 d5
          cases v
          · have hz : z = false := ZA.out.trans (allW_at HX.out hO.out)
            subst hz
            go_wp2
            go_ret
            exact ⟨rfl, B2.out⟩
          · go_wp2
            go_roundw
            case rel => exact ⟨k + 1, hlt, by go_num, allW_take HX.out A.out hO.out, B2.out⟩
            case measure => simp [intOf]; omega
        · obtain rfl : k = 24 := by omega
          have hz : z = true := by
            have h := A.out
            rw [List.take_of_length_le (by omega)] at h
            exact ZA.out.trans h
          subst hz
          go_wp2
          go_ret
          exact ⟨rfl, B.out⟩
    · have hz : z = false := by rw [Z.out, mokB, hn']; simp [h2]
      subst hz h1
      have hcm : ((n' : Int) != 24) = true := by simp; omega
      go_enter Try.func43, Try.ntmps43
      go_wp2
      go_ret
      exact ⟨rfl, B0.out⟩
  · have hz : z = false := by rw [Z.out, mokB, hn]; simp [h1]
    subst hz
    have hcm : ((n : Int) != 24) = true := by simp; omega
    go_enter Try.func43, Try.ntmps43
    go_wp2
    go_ret
    exact ⟨rfl, B0.out⟩

end Go.Proofs.Ytmglofclcccehaa
