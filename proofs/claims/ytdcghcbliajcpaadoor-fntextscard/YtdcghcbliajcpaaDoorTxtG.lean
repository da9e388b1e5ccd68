/- CodeText of both sides at all lists: what they answer. The tables hold what the texts lay. -/
import Derived.Test.YtdcghcbliajcpaaDoorTxtC
import Derived.Test.YtdcghcbliajcpaaDoorTxtT
import Derived.Test.YtdcghcbliajcpaaDoorTxtU
namespace Go.Proofs.YtdcghcbliajcpaaDoor
open Go.ChangeShapes Go.WideShapes Go.ChangeAt Go.RowKit
set_option maxRecDepth 100000

theorem flat_next {L : List In} {k : Nat} {x : In} (h : L[k]? = some x) : (L.take (k + 1)).flatMap lnL = (L.take k).flatMap lnL ++ (inL x ++ [10]) := by
  rw [List.take_add_one, h]; simp [lnL]

set_option maxHeartbeats 4000000 in
theorem implCodeText_any (a : Option Addr) (len cap : Nat) (L : List In) (w : World) (hS : SliceI w.heap.size w a len L) (hL : Lay w) :
    Calls Tryd.prog 17 #[.slice a len cap] w fun e w' => e = .returned (.string (bs (codeL L))) ∧ Below w.heap.size w w' := by
  have S : Hid (SliceI w.heap.size w a len L) := hS
  have hlen := hS.1
  unfold maxLen at hlen
  have hLl := hS.2.1
  have LY := hid_mk hL
  have s0 := implCodeOk_any a len cap L w hS
  have c0 : (ByteArray.mk #[]) = bs [] := rfl
  have c10 : (ByteArray.mk #[10]) = bs [10] := rfl
  clear hS hL
  cases hk : cokB L with
  | false =>
    rw [hk] at s0
    have S0 := hid_mk s0
    rw [codeL_off hk]
    clear s0 hk
    go_enter Tryd.func17, Tryd.ntmps17
    go_wp2_with (go_at_call 19; refine S0.out.mono ?_; rintro e w1 ⟨rfl, hb⟩)
    go_wp2
    go_ret
    exact ⟨rfl, hb⟩
  | true =>
    rw [hk] at s0
    have S0 := hid_mk s0
    obtain ⟨k0, k1, k2⟩ := cok_parts hk
    have OK := hid_mk k2
    rw [hLl] at k0 k1
    obtain ⟨z, Z⟩ : ∃ z, Hid (z = L.flatMap lnL) := ⟨_, rfl⟩
    rw [codeL_on hk, ← Z.out]
    clear s0 hk k2
    go_enter Tryd.func17, Tryd.ntmps17
    go_wp2_with (go_at_call 19; refine S0.out.mono ?_; rintro e w1 ⟨rfl, hb⟩; refine Hid.out ?_)
    refine Lib.hid ?_
    have B1 := hid_mk hb
    clear hb
    go_wp2
    go_loopw [3, 11] (fun tt c wr => ∃ (k : Nat) (t : List UInt8), k ≤ len ∧ t.length ≤ 30 * k ∧ c = .int .i64 (k : Int) ∧ tt = .string (bs t) ∧ Hid (t = (L.take k).flatMap lnL) ∧ Hid (Below w.heap.size w wr)) (fun _ c _ => len - (intOf c).toNat)
    case atStart => exact ⟨0, [], Nat.zero_le _, Nat.zero_le _, rfl, rfl, by simp [Hid], B1.out⟩
    case round =>
      clear B1
      obtain ⟨k, t, hk, ht, rfl, rfl, T, B⟩ := hrel
      by_cases hlt : k < len
      · obtain ⟨kb, o, x, rfl, hkb, hx, hat⟩ := (S.out.keep B.out).at hlt
        obtain ⟨d0, d1, d2, d3, d4⟩ := hat
        have zB := B.out.size
        have hok := OK.out x (List.mem_of_getElem? hx)
        have hxl := in_length hok
        have T2 : Hid ((L.take (k + 1)).flatMap lnL = t ++ (inL x ++ [10])) := by rw [flat_next hx, ← T.out]; exact hid_mk rfl
        have S1 := hid_mk (fun w => implInsText_any x.o x.r x.a x.b x.n w)
        rw [show (⟨x.o, x.r, x.a, x.b, x.n⟩ : In) = x from rfl] at S1
        generalize inL x = y at S1 hxl T2
        have q1 := hid_mk (fun w => add_bs (P := Tryd.prog) y [10] w (by simp; omega))
        have q2 := hid_mk (fun w => add_bs (P := Tryd.prog) t (y ++ [10]) w (by simp; omega))
        clear hx hok T
        go_wp2_with (go_at_call 10; refine (S1.out _ (LY.out.below ?_)).mono ?_)
        rotate_left
        rintro e w2 ⟨rfl, hb⟩
        have B2 : Hid (Below w.heap.size w w2) := (B.out.alloc zB _).trans (hb.mono (by rw [World.size_alloc]; omega))
        clear hb d0 d1 d2 d3 d4
        have q1 := q1.out
        have q2 := q2.out
        go_wp2
        go_roundw
        case rel => exact ⟨k + 1, t ++ (y ++ [10]), hlt, by simp; omega, by go_num, rfl, T2.out.symm, B2.out⟩
        case measure => simp [intOf]; omega
        exact B.out.alloc zB _
      · obtain rfl : k = len := by omega
        have hz : z = t := by rw [Z.out, T.out, List.take_of_length_le (by omega)]
        subst hz
        go_wp2
        go_ret
        exact ⟨rfl, B.out⟩

set_option maxHeartbeats 4000000 in
theorem specCodeText_any (a : Option Addr) (len cap : Nat) (L : List In) (w : World) (hS : SliceI w.heap.size w a len L) :
    Calls Tryd.prog 18 #[.slice a len cap] w fun e w' => e = .returned (.string (bs (codeL L))) ∧ Below w.heap.size w w' := by
  have S : Hid (SliceI w.heap.size w a len L) := hS
  have hlen := hS.1
  unfold maxLen at hlen
  have hLl := hS.2.1
  have s0 := hid_mk (fun (w : World) => specCodeOk_any a len cap L w)
  have c10 : (ByteArray.mk #[10]) = bs [10] := rfl
  clear hS
  cases hk : cokB L with
  | false =>
    rw [hk] at s0
    rw [codeL_off hk]
    clear hk
    by_cases h0 : len = 0
    · subst h0
      clear s0
      go_enter Tryd.func18, Tryd.ntmps18
      go_wp2
      go_loopw [3, 4] (fun t c wr => t = .string (bs []) ∧ c = .int .i64 0 ∧ Hid (Below w.heap.size w wr)) (fun _ _ _ => 0)
      case atStart => exact ⟨rfl, rfl, Below.refl _ _⟩
      case round =>
        obtain ⟨rfl, rfl, B⟩ := hrel
        go_wp2
        go_ret
        exact ⟨rfl, B.out⟩
    · have h1 : (0 : Int) < (len : Int) := by omega
      go_enter Tryd.func18, Tryd.ntmps18
      go_wp2
      go_loopw [3, 4] (fun t c wr => t = .string (bs []) ∧ c = .int .i64 0 ∧ Hid (Below w.heap.size w wr)) (fun _ _ _ => 0)
      case atStart => exact ⟨rfl, rfl, Below.refl _ _⟩
      case round =>
        obtain ⟨rfl, rfl, B⟩ := hrel
        have SS := hid_mk ((S.out.keep B.out).mono B.out.size)
        go_wp2_with (go_at_call 48; refine (s0.out _ SS.out).mono ?_; rintro e w1 ⟨rfl, hb⟩)
        go_wp2
        go_ret
        exact ⟨rfl, B.out.trans (hb.mono B.out.size)⟩
  | true =>
    rw [hk] at s0
    obtain ⟨k0, k1, k2⟩ := cok_parts hk
    have OK := hid_mk k2
    rw [hLl] at k0 k1
    obtain ⟨z, Z⟩ : ∃ z, Hid (z = L.flatMap lnL) := ⟨_, rfl⟩
    rw [codeL_on hk, ← Z.out]
    clear hk k2
    go_enter Tryd.func18, Tryd.ntmps18
    go_wp2
    go_loopw [3, 4] (fun tt c wr => ∃ (k : Nat) (t : List UInt8), k ≤ len ∧ t.length ≤ 30 * k ∧ c = .int .i64 (k : Int) ∧ tt = .string (bs t) ∧ Hid (t = (L.take k).flatMap lnL) ∧ Hid (Below w.heap.size w wr)) (fun _ c _ => len - (intOf c).toNat)
    case atStart => exact ⟨0, [], Nat.zero_le _, Nat.zero_le _, rfl, rfl, by simp [Hid], Below.refl _ _⟩
    case round =>
      obtain ⟨k, t, hk, ht, rfl, rfl, T, B⟩ := hrel
      by_cases hlt : k < len
      · have SS := hid_mk ((S.out.keep B.out).mono B.out.size)
        have hli : (k : Int) < (len : Int) := by omega
        go_wp2_with (go_at_call 48; refine (s0.out _ SS.out).mono ?_; rintro e w1 ⟨rfl, hb⟩; refine Hid.out ?_)
        refine Lib.hid ?_
        have B1 : Hid (Below w.heap.size w w1) := B.out.trans (hb.mono B.out.size)
        clear hb SS
        obtain ⟨kb, o, x, rfl, hkb, hx, hat⟩ := (S.out.keep B1.out).at hlt
        obtain ⟨d0, d1, d2, d3, d4⟩ := hat
        have hok := OK.out x (List.mem_of_getElem? hx)
        have hxl := in_length hok
        have T2 : Hid ((L.take (k + 1)).flatMap lnL = (t ++ inL x) ++ [10]) := by rw [flat_next hx, ← T.out, List.append_assoc]; exact hid_mk rfl
        have S1 := hid_mk (fun w => specInsText_any x.o x.r x.a x.b x.n w)
        rw [show (⟨x.o, x.r, x.a, x.b, x.n⟩ : In) = x from rfl] at S1
        generalize inL x = y at S1 hxl T2
        have q1 := hid_mk (fun w => add_bs (P := Tryd.prog) t y w (by omega))
        have q2 := hid_mk (fun w => add_bs (P := Tryd.prog) (t ++ y) [10] w (by simp; omega))
        clear hx hok T
        go_wp2_with (go_at_call 11; refine (S1.out _).mono ?_; rintro e w2 ⟨rfl, hb⟩; refine Hid.out ?_)
        refine Lib.hid ?_
        have B2 : Hid (Below w.heap.size w w2) := B1.out.trans (hb.mono B1.out.size)
        clear hb d0 d1 d2 d3 d4
        have q1 := q1.out
        have q2 := q2.out
        go_wp2
        go_roundw
        case rel => exact ⟨k + 1, t ++ (y ++ [10]), hlt, by simp; omega, by go_num, rfl, by rw [T2.out, List.append_assoc]; exact hid_mk rfl, B2.out⟩
        case measure => simp [intOf]; omega
      · obtain rfl : k = len := by omega
        have hz : z = t := by rw [Z.out, T.out, List.take_of_length_le (by omega)]
        subst hz
        go_wp2
        go_ret
        exact ⟨rfl, B.out⟩
end Go.Proofs.YtdcghcbliajcpaaDoor
