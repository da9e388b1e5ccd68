/- CodeOk of both sides at all lists. No condition. -/
import Derived.Test.YtdcghcbliajcpaaDoorInsL
namespace Go.Proofs.YtdcghcbliajcpaaDoor
open Go.ChangeShapes Go.WideShapes Go.ChangeAt Go.RowKit

/-- Whether a place is right. -/
def okI (x : In) : Bool := iokB x.o x.r x.a x.b x.n
/-- What CodeOk answers. -/
def cokB (L : List In) : Bool := decide (1 ≤ (L.length : Int) ∧ (L.length : Int) ≤ 48) && L.all okI

theorem all_take {L : List In} {k : Nat} {x : In} (h : L[k]? = some x) (h0 : (L.take k).all okI = true) (h1 : okI x = true) : (L.take (k + 1)).all okI = true := by
  rw [List.take_add_one, h]; simp [h0, h1]
theorem all_at {L : List In} {k : Nat} {x : In} (h : L[k]? = some x) (h1 : okI x = false) : L.all okI = false := by
  have hm := List.mem_of_getElem? h
  rw [← Bool.not_eq_true]
  intro ha
  have := List.all_eq_true.1 ha x hm
  rw [h1] at this
  cases this
theorem all_all {L : List In} {k : Nat} (h : L.length ≤ k) (h0 : (L.take k).all okI = true) : L.all okI = true := by
  rwa [List.take_of_length_le h] at h0

set_option maxRecDepth 100000 in
set_option maxHeartbeats 2000000 in
theorem specCodeOk_any (a : Option Addr) (len cap : Nat) (L : List In) (w : World) (hS : SliceI w.heap.size w a len L) :
    Calls Tryd.prog 48 #[.slice a len cap] w fun e w' => e = .returned (.bool (cokB L)) ∧ Below w.heap.size w w' := by
  have S : Hid (SliceI w.heap.size w a len L) := hS
  have hlen := hS.1
  unfold maxLen at hlen
  have hL := hS.2.1
  clear hS
  have s1 := lin_any len 1 48
  obtain ⟨z, hz⟩ : ∃ z, Hid (z = L.all okI) := ⟨_, rfl⟩
  unfold cokB
  rw [← hz.out, hL]
  generalize decide (1 ≤ (len : Int) ∧ (len : Int) ≤ 48) = y at s1 ⊢
  have S1 : Hid _ := s1
  clear s1
  go_enter Tryd.func48, Tryd.ntmps48
  go_wp2
  go_loopw [3] (fun c wr => ∃ k : Nat, k ≤ len ∧ c = .int .i64 k ∧ Hid ((L.take k).all okI = true) ∧ Hid (Below w.heap.size w wr)) (fun c _ => len - (intOf c).toNat)
  case atStart => exact ⟨0, Nat.zero_le _, rfl, by simp [Hid], Below.refl _ _⟩
  case round =>
    obtain ⟨k, hk, rfl, hA, hB⟩ := hrel
    by_cases hlt : k < len
    · obtain ⟨kb, o, x, rfl, hkb, hx, hat⟩ := (S.out.keep hB.out).at hlt
      obtain ⟨d0, d1, d2, d3, d4⟩ := hat
      have zB := hB.out.size
      have hX' : Hid _ := hx
      have s2 := specInsOk_any x.o x.r x.a x.b x.n
      have hO : Hid (okI x = iokB x.o x.r x.a x.b x.n) := rfl
      generalize iokB x.o x.r x.a x.b x.n = v at s2 hO
      have S2 : Hid _ := s2
      clear hx s2
      go_wp2_with fail
      refine (S2.out _).mono ?_
      rintro e w1 ⟨rfl, hb1⟩
      have K1 : Hid (Below w.heap.size w w1) := hB.out.trans (hb1.mono zB)
      clear hb1 d0 d1 d2 d3 d4
      cases v
      · have hz' : z = false := hz.out.trans (all_at hX'.out hO.out)
        subst hz'
        go_wp2
        go_ret
        exact ⟨by simp, K1.out⟩
      · go_wp2
        go_roundw
        case rel => exact ⟨k + 1, hlt, by go_num, all_take hX'.out hA.out hO.out, K1.out⟩
        case measure => simp [intOf]; omega
    · have hz' : z = true := hz.out.trans (all_all (k := k) (by omega) hA.out)
      subst hz'
      go_wp2_with fail
      refine (S1.out _).mono ?_
      rintro e w1 ⟨rfl, rfl⟩
      go_wp2
      go_ret
      exact ⟨by simp, hB.out⟩

set_option maxRecDepth 100000 in
set_option maxHeartbeats 2000000 in
theorem implCodeOk_any (a : Option Addr) (len cap : Nat) (L : List In) (w : World) (hS : SliceI w.heap.size w a len L) :
    Calls Tryd.prog 19 #[.slice a len cap] w fun e w' => e = .returned (.bool (cokB L)) ∧ Below w.heap.size w w' := by
  have S : Hid (SliceI w.heap.size w a len L) := hS
  have hlen := hS.1
  unfold maxLen at hlen
  have hL := hS.2.1
  clear hS
  obtain ⟨z, hz⟩ : ∃ z, Hid (z = L.all okI) := ⟨_, rfl⟩
  unfold cokB
  rw [← hz.out, hL]
  by_cases h0 : len < 1
  · rw [decide_eq_false (by omega)]
    go_enter Tryd.func19, Tryd.ntmps19
    go_wp2
    go_ret
    exact ⟨rfl, Below.refl _ _⟩
  by_cases h1 : 48 < len
  · rw [decide_eq_false (by omega)]
    go_enter Tryd.func19, Tryd.ntmps19
    go_wp2
    go_ret
    exact ⟨rfl, Below.refl _ _⟩
  rw [decide_eq_true (by omega), Bool.true_and]
  go_enter Tryd.func19, Tryd.ntmps19
  go_wp2
  go_loopw [15] (fun c wr => ∃ k : Nat, k ≤ len ∧ c = .int .i64 k ∧ Hid ((L.take k).all okI = true) ∧ Hid (Below w.heap.size w wr)) (fun c _ => len - (intOf c).toNat)
  case atStart => exact ⟨0, Nat.zero_le _, rfl, by simp [Hid], Below.refl _ _⟩
  case round =>
    obtain ⟨k, hk, rfl, hA, hB⟩ := hrel
    by_cases hlt : k < len
    · obtain ⟨kb, o, x, rfl, hkb, hx, hat⟩ := (S.out.keep hB.out).at hlt
      obtain ⟨d0, d1, d2, d3, d4⟩ := hat
      have zB := hB.out.size
      have hX' : Hid _ := hx
      have s2 := implInsOk_any x.o x.r x.a x.b x.n
      have hO : Hid (okI x = iokB x.o x.r x.a x.b x.n) := rfl
      generalize iokB x.o x.r x.a x.b x.n = v at s2 hO
      have S2 : Hid _ := s2
      clear hx s2
      go_wp2_with fail
      refine (S2.out _).mono ?_
      rintro e w1 ⟨rfl, hb1⟩
      have K1 : Hid (Below w.heap.size w w1) := (hB.out.alloc zB _).trans (hb1.mono (by rw [World.size_alloc]; omega))
      clear hb1 d0 d1 d2 d3 d4
      cases v
      · have hz' : z = false := hz.out.trans (all_at hX'.out hO.out)
        subst hz'
        go_wp2
        go_ret
        exact ⟨rfl, K1.out⟩
      · go_wp2
        go_roundw
        case rel => exact ⟨k + 1, hlt, by go_num, all_take hX'.out hA.out hO.out, K1.out⟩
        case measure => simp [intOf]; omega
    · have hz' : z = true := hz.out.trans (all_all (k := k) (by omega) hA.out)
      subst hz'
      go_wp2
      go_ret
      exact ⟨rfl, hB.out⟩
end Go.Proofs.YtdcghcbliajcpaaDoor
