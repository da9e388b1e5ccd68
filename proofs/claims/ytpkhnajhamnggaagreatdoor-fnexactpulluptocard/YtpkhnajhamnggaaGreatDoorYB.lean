/- GuessOk of both sides. No condition but that the list is no longer than the law lets it be, and of ints. · Whether an entry is right: l12Entry of the specification, entryOk of the program, at all entries. No condition. · entryOk and registerOf of the program at all entries. No condition. · Cores as nineteen values: what is plain, where the slices lie, what the rows hold; a core that came in, that a call has answered, as facts. No condition. · toCore, szCore and eqCore of the laws. No condition but that the lists are no longer than the laws let them be, or than 262144 entries. · CoreOk of the specification and of the program at all cores: what they answer. No condition. -/
import Derived.Test.YtpkhnajhamnggaaGreatDoorIntS
import Derived.Test.YtpkhnajhamnggaaGreatDoorZA
import Derived.Test.YtpkhnajhamnggaaGreatDoorYA
import Derived.Test.YtpkhnajhamnggaaGreatDoorZI
import Derived.Test.YtpkhnajhamnggaaGreatDoorZE
import Derived.Test.YtpkhnajhamnggaaGreatDoorZH
import Derived.Deep.CutBlock
import Derived.Test.YtpkhnajhamnggaaGreatDoorZJ
namespace Go.Proofs.YtpkhnajhamnggaaGreatDoor
open Go.ChangeShapes Go.WideShapes Go.ChangeAt Go.RowKit
set_option maxRecDepth 100000

def gokB (L : List Int) : Bool := L.all (fun x => decide (-1 ≤ x ∧ x ≤ 65535)) && decide (L.length = 48)
theorem all_none {L : List Int} {p : Int → Bool} {k : Nat} {x : Int} (h : L[k]? = some x) (hp : p x = false) : L.all p = false := by
  rw [List.all_eq_false]
  exact ⟨x, List.mem_of_getElem? h, by simp [hp]⟩
theorem all_here {L : List Int} {p : Int → Bool} (h : ∀ j x, j < L.length → L[j]? = some x → p x = true) : L.all p = true := by
  rw [List.all_eq_true]
  intro x hx
  obtain ⟨j, hj⟩ := List.getElem?_of_mem hx
  exact h j x (List.getElem?_eq_some_iff.1 hj).1 hj

set_option maxHeartbeats 2000000 in
theorem implGuessOk_any (a : Option Addr) (len cap : Nat) (L : List Int) (w : World) (hS : SliceN w.heap.size w a len L) :
    Calls Tryz.prog 108 #[.slice a len cap] w fun e w' => e = .returned (.bool (gokB L)) ∧ Below w.heap.size w w' := by
  have S : Hid (SliceN w.heap.size w a len L) := hS
  have hL := hid_mk hS.2.1
  have hlen := hS.1
  unfold maxLen at hlen
  clear hS
  obtain ⟨z, hz⟩ : ∃ z, Hid (gokB L = z) := ⟨_, rfl⟩
  rw [hz.out]
  by_cases h48 : len = 48
  · subst h48
    go_enter Tryz.func108, Tryz.ntmps108
    go_wp2
    go_loopw [10] (fun c wr => ∃ k : Nat, k ≤ 48 ∧ c = .int .i64 k ∧ Hid (∀ j x, j < k → L[j]? = some x → decide (-1 ≤ x ∧ x ≤ 65535) = true) ∧ Hid (Below w.heap.size w wr)) (fun c _ => 48 - (RowKit.intOf c).toNat)
    case atStart => exact ⟨0, Nat.zero_le _, rfl, fun j x hj => absurd hj (Nat.not_lt_zero _), Below.refl _ _⟩
    case round =>
      obtain ⟨k, hk, rfl, A, B⟩ := hrel
      by_cases hlt : k < 48
      · obtain ⟨kb, o, x, rfl, hkb, hx, d0⟩ := (S.out.keep B.out).at hlt
        have HX := hid_mk hx
        clear hx
        by_cases hx : -1 ≤ x ∧ x ≤ 65535
        · obtain ⟨hx1, hx2⟩ := hx
          have hd1 : (decide (x < -1)) = false := by simp; omega
          have hd2 : (decide (65536 ≤ x)) = false := by simp; omega
          go_wp2
          go_roundw
          case rel =>
            refine ⟨k + 1, hlt, by go_num, fun j y hj hy => ?_, B.out⟩
            by_cases e : j = k
            · subst e
              rw [HX.out] at hy
              cases hy
              simp only [decide_eq_true_eq]
              omega
            · exact A.out j y (by omega) hy
          case measure => simp [RowKit.intOf]; omega
        · obtain rfl : z = false := by
            rw [← hz.out]
            unfold gokB
            rw [all_none HX.out (by simp only [decide_eq_false_iff_not]; exact hx)]
            rfl
          by_cases h1 : x < -1
          · go_wp2
            go_ret
            exact ⟨rfl, B.out⟩
          · have h2 : 65536 ≤ x := by omega
            go_wp2
            go_ret
            exact ⟨rfl, B.out⟩
      · obtain rfl : k = 48 := by omega
        obtain rfl : z = true := by
          rw [← hz.out]
          unfold gokB
          rw [all_here (fun j x hj hx => A.out j x (by rw [hL.out] at hj; exact hj) hx)]
          simp [hL.out]
        go_wp2
        go_ret
        exact ⟨rfl, B.out⟩
  · obtain rfl : z = false := by
      rw [← hz.out]
      unfold gokB
      simp [hL.out, h48]
    have hne : ((len : Int) != 48) = true := by simp; omega
    go_enter Tryz.func108, Tryz.ntmps108
    go_wp2
    go_ret
    exact ⟨rfl, Below.refl _ _⟩

set_option maxHeartbeats 2000000 in
theorem specGuessOk_any (a : Option Addr) (len cap : Nat) (L : List Int) (w : World) (hS : SliceN w.heap.size w a len L) :
    Calls Tryz.prog 105 #[.slice a len cap] w fun e w' => e = .returned (.bool (gokB L)) ∧ Below w.heap.size w w' := by
  have S : Hid (SliceN w.heap.size w a len L) := hS
  have hL := hid_mk hS.2.1
  have hlen := hS.1
  unfold maxLen at hlen
  clear hS
  obtain ⟨z, hz⟩ : ∃ z, Hid (gokB L = z) := ⟨_, rfl⟩
  rw [hz.out]
  go_enter Tryz.func105, Tryz.ntmps105
  go_wp2
  go_loopw [3] (fun c wr => ∃ k : Nat, k ≤ len ∧ c = .int .i64 k ∧ Hid (∀ j x, j < k → L[j]? = some x → decide (-1 ≤ x ∧ x ≤ 65535) = true) ∧ Hid (Below w.heap.size w wr)) (fun c _ => len - (RowKit.intOf c).toNat)
  case atStart => exact ⟨0, Nat.zero_le _, rfl, fun j x hj => absurd hj (Nat.not_lt_zero _), Below.refl _ _⟩
  case round =>
    obtain ⟨k, hk, rfl, A, B⟩ := hrel
    by_cases hlt : k < len
    · obtain ⟨kb, o, x, rfl, hkb, hx, d0⟩ := (S.out.keep B.out).at hlt
      have HX := hid_mk hx
      clear hx
      have I := hid_mk (in_any x (-1) 65535)
      cases hb : decide (-1 ≤ x ∧ x ≤ 65535)
      · obtain rfl : z = false := by
          rw [← hz.out]
          unfold gokB
          rw [all_none HX.out hb]
          rfl
        rw [hb] at I
        clear hb
        go_wp2_with (go_at_call 74; refine (I.out _).mono ?_; rintro e w' ⟨rfl, rfl⟩)
        go_ret
        exact ⟨rfl, B.out⟩
      · have hb' := hid_mk hb
        rw [hb] at I
        clear hb
        go_wp2_with (go_at_call 74; refine (I.out _).mono ?_; rintro e w' ⟨rfl, rfl⟩)
        go_roundw
        case rel =>
          refine ⟨k + 1, hlt, by go_num, fun j y hj hy => ?_, B.out⟩
          by_cases e : j = k
          · subst e
            rw [HX.out] at hy
            cases hy
            exact hb'.out
          · exact A.out j y (by omega) hy
        case measure => simp [RowKit.intOf]; omega
    · obtain rfl : k = len := by omega
      have hz2 : z = decide (k = 48) := by
        rw [← hz.out]
        unfold gokB
        rw [all_here (fun j x hj hx => A.out j x (by rw [hL.out] at hj; exact hj) hx), hL.out]
        rfl
      have hd : decide ((k : Int) = 48) = z := by
        rw [hz2]
        by_cases e : k = 48 <;> simp [e] <;> omega
      have he : ((k : Int) == 48) = z := by rw [← hd]; rfl
      have HZ := hid_mk hz2
      clear hz2 hd
      go_wp2
      go_ret
      exact ⟨by first | rfl | (rw [he]; done) | simp [he], B.out⟩
end Go.Proofs.YtpkhnajhamnggaaGreatDoor

namespace Go.Proofs.YtpkhnajhamnggaaGreatDoor
open Go.ChangeShapes Go.WideShapes Go.ChangeAt Go.RowKit
set_option maxRecDepth 100000

set_option maxHeartbeats 4000000 in
theorem specEntry_any (y : En) (w : World) :
    Calls Tryz.prog 104 #[.agg (enl y).toArray] w fun e w' => e = .returned (.bool (entB y)) ∧ Below w.heap.size w w' := by
  have H : Hid (Hold w (w.alloc (.cells (enl y).toArray 104)) [celF w.heap.size (enl y)]) := (Hold.new w).box (enl y) 104 w.heap.size rfl
  obtain ⟨z, Z⟩ : ∃ z, Hid (z = entB y) := ⟨_, rfl⟩
  rw [← Z.out]
  have Z1 : Hid (z = (okW y.pc && (okW y.g && (okW y.e.v && (okW y.e.x && (okW y.e.p && (plzB y.x && (decide (0 ≤ y.e.t ∧ y.e.t ≤ 5) && (decide (-1 ≤ y.e.r ∧ y.e.r ≤ 7) && decide (y.e.d ≤ 4096)))))))))) := Z.out
  clear Z
  generalize hw1 : w.alloc (.cells (enl y).toArray 104) = w1 at H
  go_enter Tryz.func104, Tryz.ntmps104
  go_upto_region 1 with fail
  clear hw1
  have s1 := specWordOk_any y.pc.n y.pc.i y.pc.b y.pc.t y.pc.p y.pc.s
  have hX : Hid (okW y.pc = wokB y.pc.n y.pc.i y.pc.b y.pc.t y.pc.p y.pc.s) := rfl
  generalize wokB y.pc.n y.pc.i y.pc.b y.pc.t y.pc.p y.pc.s = v at s1 hX
  rw [hX.out] at Z1
  have S1 := hid_mk s1
  clear s1 hX
  have d0 := (H.out.cel (.head _)).c 0 _ rfl
  have d1 := (H.out.cel (.head _)).c 1 _ rfl
  have d2 := (H.out.cel (.head _)).c 2 _ rfl
  have d3 := (H.out.cel (.head _)).c 3 _ rfl
  have d4 := (H.out.cel (.head _)).c 4 _ rfl
  have d5 := (H.out.cel (.head _)).c 5 _ rfl
  cases v
  · have hz : z = false := by rw [Z1.out]; simp
    subst hz
    go_wp2_with (go_at_call 72; refine (S1.out _).mono ?_; rintro e w2 ⟨rfl, hb⟩; refine Hid.out ?_)
    refine Lib.hid ?_
    have B := hid_mk (H.out.next hb).bel
    clear hb S1 d0 d1 d2 d3 d4 d5
    go_wp2
    go_ret
    exact ⟨rfl, B.out⟩
  · go_wp2_with (go_at_call 72; refine (S1.out _).mono ?_; rintro e w2 ⟨rfl, hb⟩; refine Hid.out ?_)
    refine Lib.hid ?_
    replace H := hid_mk (H.out.next hb)
    clear hb S1 d0 d1 d2 d3 d4 d5
    have s1 := specWordOk_any y.g.n y.g.i y.g.b y.g.t y.g.p y.g.s
    have hX : Hid (okW y.g = wokB y.g.n y.g.i y.g.b y.g.t y.g.p y.g.s) := rfl
    generalize wokB y.g.n y.g.i y.g.b y.g.t y.g.p y.g.s = v at s1 hX
    rw [hX.out] at Z1
    have S1 := hid_mk s1
    clear s1 hX
    have d0 := (H.out.cel (.head _)).c 34 _ rfl
    have d1 := (H.out.cel (.head _)).c 35 _ rfl
    have d2 := (H.out.cel (.head _)).c 36 _ rfl
    have d3 := (H.out.cel (.head _)).c 37 _ rfl
    have d4 := (H.out.cel (.head _)).c 38 _ rfl
    have d5 := (H.out.cel (.head _)).c 39 _ rfl
    cases v
    · have hz : z = false := by rw [Z1.out]; simp
      subst hz
      go_wp2_with (go_at_call 72; refine (S1.out _).mono ?_; rintro e w3 ⟨rfl, hb⟩; refine Hid.out ?_)
      refine Lib.hid ?_
      have B := hid_mk (H.out.next hb).bel
      clear hb S1 d0 d1 d2 d3 d4 d5
      go_wp2
      go_ret
      exact ⟨rfl, B.out⟩
    · go_wp2_with (go_at_call 72; refine (S1.out _).mono ?_; rintro e w3 ⟨rfl, hb⟩; refine Hid.out ?_)
      refine Lib.hid ?_
      replace H := hid_mk (H.out.next hb)
      clear hb S1 d0 d1 d2 d3 d4 d5
      have s1 := specWordOk_any y.e.v.n y.e.v.i y.e.v.b y.e.v.t y.e.v.p y.e.v.s
      have hX : Hid (okW y.e.v = wokB y.e.v.n y.e.v.i y.e.v.b y.e.v.t y.e.v.p y.e.v.s) := rfl
      generalize wokB y.e.v.n y.e.v.i y.e.v.b y.e.v.t y.e.v.p y.e.v.s = v at s1 hX
      rw [hX.out] at Z1
      have S1 := hid_mk s1
      clear s1 hX
      have d0 := (H.out.cel (.head _)).c 14 _ rfl
      have d1 := (H.out.cel (.head _)).c 15 _ rfl
      have d2 := (H.out.cel (.head _)).c 16 _ rfl
      have d3 := (H.out.cel (.head _)).c 17 _ rfl
      have d4 := (H.out.cel (.head _)).c 18 _ rfl
      have d5 := (H.out.cel (.head _)).c 19 _ rfl
      cases v
      · have hz : z = false := by rw [Z1.out]; simp
        subst hz
        go_wp2_with (go_at_call 72; refine (S1.out _).mono ?_; rintro e w4 ⟨rfl, hb⟩; refine Hid.out ?_)
        refine Lib.hid ?_
        have B := hid_mk (H.out.next hb).bel
        clear hb S1 d0 d1 d2 d3 d4 d5
        go_wp2
        go_ret
        exact ⟨rfl, B.out⟩
      · go_wp2_with (go_at_call 72; refine (S1.out _).mono ?_; rintro e w4 ⟨rfl, hb⟩; refine Hid.out ?_)
        refine Lib.hid ?_
        replace H := hid_mk (H.out.next hb)
        clear hb S1 d0 d1 d2 d3 d4 d5
        have s1 := specWordOk_any y.e.x.n y.e.x.i y.e.x.b y.e.x.t y.e.x.p y.e.x.s
        have hX : Hid (okW y.e.x = wokB y.e.x.n y.e.x.i y.e.x.b y.e.x.t y.e.x.p y.e.x.s) := rfl
        generalize wokB y.e.x.n y.e.x.i y.e.x.b y.e.x.t y.e.x.p y.e.x.s = v at s1 hX
        rw [hX.out] at Z1
        have S1 := hid_mk s1
        clear s1 hX
        have d0 := (H.out.cel (.head _)).c 20 _ rfl
        have d1 := (H.out.cel (.head _)).c 21 _ rfl
        have d2 := (H.out.cel (.head _)).c 22 _ rfl
        have d3 := (H.out.cel (.head _)).c 23 _ rfl
        have d4 := (H.out.cel (.head _)).c 24 _ rfl
        have d5 := (H.out.cel (.head _)).c 25 _ rfl
        cases v
        · have hz : z = false := by rw [Z1.out]; simp
          subst hz
          go_wp2_with (go_at_call 72; refine (S1.out _).mono ?_; rintro e w5 ⟨rfl, hb⟩; refine Hid.out ?_)
          refine Lib.hid ?_
          have B := hid_mk (H.out.next hb).bel
          clear hb S1 d0 d1 d2 d3 d4 d5
          go_wp2
          go_ret
          exact ⟨rfl, B.out⟩
        · go_wp2_with (go_at_call 72; refine (S1.out _).mono ?_; rintro e w5 ⟨rfl, hb⟩; refine Hid.out ?_)
          refine Lib.hid ?_
          replace H := hid_mk (H.out.next hb)
          clear hb S1 d0 d1 d2 d3 d4 d5
          have s1 := specWordOk_any y.e.p.n y.e.p.i y.e.p.b y.e.p.t y.e.p.p y.e.p.s
          have hX : Hid (okW y.e.p = wokB y.e.p.n y.e.p.i y.e.p.b y.e.p.t y.e.p.p y.e.p.s) := rfl
          generalize wokB y.e.p.n y.e.p.i y.e.p.b y.e.p.t y.e.p.p y.e.p.s = v at s1 hX
          rw [hX.out] at Z1
          have S1 := hid_mk s1
          clear s1 hX
          have d0 := (H.out.cel (.head _)).c 27 _ rfl
          have d1 := (H.out.cel (.head _)).c 28 _ rfl
          have d2 := (H.out.cel (.head _)).c 29 _ rfl
          have d3 := (H.out.cel (.head _)).c 30 _ rfl
          have d4 := (H.out.cel (.head _)).c 31 _ rfl
          have d5 := (H.out.cel (.head _)).c 32 _ rfl
          cases v
          · have hz : z = false := by rw [Z1.out]; simp
            subst hz
            go_wp2_with (go_at_call 72; refine (S1.out _).mono ?_; rintro e w6 ⟨rfl, hb⟩; refine Hid.out ?_)
            refine Lib.hid ?_
            have B := hid_mk (H.out.next hb).bel
            clear hb S1 d0 d1 d2 d3 d4 d5
            go_wp2
            go_ret
            exact ⟨rfl, B.out⟩
          · go_wp2_with (go_at_call 72; refine (S1.out _).mono ?_; rintro e w6 ⟨rfl, hb⟩; refine Hid.out ?_)
            refine Lib.hid ?_
            replace H := hid_mk (H.out.next hb)
            clear hb S1 d0 d1 d2 d3 d4 d5
            have s1 := specInsOk_any y.x.o y.x.r y.x.a y.x.b y.x.n
            have hX : Hid (plzB y.x = (iokB y.x.o y.x.r y.x.a y.x.b y.x.n || eqB y.x.o y.x.r y.x.a y.x.b y.x.n 0 0 0 0 0)) := rfl
            generalize iokB y.x.o y.x.r y.x.a y.x.b y.x.n = v at s1 hX
            have S1 := hid_mk s1
            clear s1
            have d0 := (H.out.cel (.head _)).c 6 _ rfl
            have d1 := (H.out.cel (.head _)).c 7 _ rfl
            have d2 := (H.out.cel (.head _)).c 8 _ rfl
            have d3 := (H.out.cel (.head _)).c 9 _ rfl
            have d4 := (H.out.cel (.head _)).c 10 _ rfl
            cases v
            · have eg := eg_ins
              have e0 := eql_ins y.x.o y.x.r y.x.a y.x.b y.x.n 0 0 0 0 0
              generalize eqB y.x.o y.x.r y.x.a y.x.b y.x.n 0 0 0 0 0 = u at e0 hX
              rw [hX.out] at Z1
              go_wp2_with (go_at_call 77; refine (S1.out _).mono ?_; rintro e w9 ⟨rfl, hb⟩; refine Hid.out ?_)
              refine Lib.hid ?_
              replace H := hid_mk (H.out.next hb)
              clear hb S1 hX d0 d1 d2 d3 d4
              have d0 := (H.out.cel (.head _)).c 6 _ rfl
              have d1 := (H.out.cel (.head _)).c 7 _ rfl
              have d2 := (H.out.cel (.head _)).c 8 _ rfl
              have d3 := (H.out.cel (.head _)).c 9 _ rfl
              have d4 := (H.out.cel (.head _)).c 10 _ rfl
              cases u
              · have hz : z = false := by rw [Z1.out]; simp
                subst hz
                have B := hid_mk H.out.bel
                clear H
                go_wp2
                go_ret
                exact ⟨rfl, B.out⟩
              · have t0 := (H.out.cel (.head _)).c 12 _ rfl
                have r0 := (H.out.cel (.head _)).c 13 _ rfl
                have p0 := (H.out.cel (.head _)).c 33 _ rfl
                have B := hid_mk H.out.bel
                clear H
                have q1 := in_any y.e.t 0 5
                generalize decide (0 ≤ y.e.t ∧ y.e.t ≤ 5) = v1 at q1 Z1
                have Q1 := hid_mk q1
                have q2 := in_any y.e.r (-1) 7
                generalize decide (-1 ≤ y.e.r ∧ y.e.r ≤ 7) = v2 at q2 Z1
                have Q2 := hid_mk q2
                clear q1 q2
                cases v1
                · have hz : z = false := by rw [Z1.out]; simp
                  subst hz
                  go_wp2_with (go_at_call 74; refine (Q1.out _).mono ?_; rintro e w' ⟨rfl, rfl⟩)
                  go_wp2
                  go_ret
                  exact ⟨rfl, B.out⟩
                · cases v2
                  · have hz : z = false := by rw [Z1.out]; simp
                    subst hz
                    go_wp2_with (go_at_call 74; first | (clear t0; refine (Q1.out _).mono ?_; rintro e w' ⟨rfl, rfl⟩) | (refine (Q2.out _).mono ?_; rintro e w' ⟨rfl, rfl⟩))
                    go_wp2
                    go_ret
                    exact ⟨rfl, B.out⟩
                  · have hz : z = decide (y.e.d ≤ 4096) := by rw [Z1.out]; simp
                    go_wp2_with (go_at_call 74; first | (clear t0; refine (Q1.out _).mono ?_; rintro e w' ⟨rfl, rfl⟩) | (refine (Q2.out _).mono ?_; rintro e w' ⟨rfl, rfl⟩))
                    subst hz
                    go_wp2
                    go_ret
                    exact ⟨rfl, B.out⟩
            · rw [hX.out] at Z1
              go_wp2_with (go_at_call 77; refine (S1.out _).mono ?_; rintro e w9 ⟨rfl, hb⟩; refine Hid.out ?_)
              refine Lib.hid ?_
              replace H := hid_mk (H.out.next hb)
              clear hb S1 hX d0 d1 d2 d3 d4
              have t0 := (H.out.cel (.head _)).c 12 _ rfl
              have r0 := (H.out.cel (.head _)).c 13 _ rfl
              have p0 := (H.out.cel (.head _)).c 33 _ rfl
              have B := hid_mk H.out.bel
              clear H
              have q1 := in_any y.e.t 0 5
              generalize decide (0 ≤ y.e.t ∧ y.e.t ≤ 5) = v1 at q1 Z1
              have Q1 := hid_mk q1
              have q2 := in_any y.e.r (-1) 7
              generalize decide (-1 ≤ y.e.r ∧ y.e.r ≤ 7) = v2 at q2 Z1
              have Q2 := hid_mk q2
              clear q1 q2
              cases v1
              · have hz : z = false := by rw [Z1.out]; simp
                subst hz
                go_wp2_with (go_at_call 74; refine (Q1.out _).mono ?_; rintro e w' ⟨rfl, rfl⟩)
                go_wp2
                go_ret
                exact ⟨rfl, B.out⟩
              · cases v2
                · have hz : z = false := by rw [Z1.out]; simp
                  subst hz
                  go_wp2_with (go_at_call 74; first | (clear t0; refine (Q1.out _).mono ?_; rintro e w' ⟨rfl, rfl⟩) | (refine (Q2.out _).mono ?_; rintro e w' ⟨rfl, rfl⟩))
                  go_wp2
                  go_ret
                  exact ⟨rfl, B.out⟩
                · have hz : z = decide (y.e.d ≤ 4096) := by rw [Z1.out]; simp
                  go_wp2_with (go_at_call 74; first | (clear t0; refine (Q1.out _).mono ?_; rintro e w' ⟨rfl, rfl⟩) | (refine (Q2.out _).mono ?_; rintro e w' ⟨rfl, rfl⟩))
                  subst hz
                  go_wp2
                  go_ret
                  exact ⟨rfl, B.out⟩
end Go.Proofs.YtpkhnajhamnggaaGreatDoor

namespace Go.Proofs.YtpkhnajhamnggaaGreatDoor
open Go.ChangeShapes Go.WideShapes Go.ChangeAt Go.RowKit
set_option maxRecDepth 100000

theorem flatB_get : ∀ {L : List Wd} {j m : Nat} {x : Wd} {u : Value}, L[j]? = some x → x.vs[m]? = some u → (L.flatMap Wd.vs)[j * 6 + m]? = some u
  | [], j, m, x, u, h, _ => by simp at h
  | y :: L, 0, m, x, u, h, hm => by
    simp at h
    subst h
    have h6 : m < y.vs.length := (List.getElem?_eq_some_iff.1 hm).1
    rw [List.flatMap_cons, Nat.zero_mul, Nat.zero_add, List.getElem?_append_left h6]
    exact hm
  | y :: L, j + 1, m, x, u, h, hm => by
    have h6 : y.vs.length = 6 := rfl
    rw [List.flatMap_cons, List.getElem?_append_right (by rw [h6]; omega), h6]
    have e : (j + 1) * 6 + m - 6 = j * 6 + m := by omega
    rw [e]
    exact flatB_get (by simpa using h) hm
theorem sliceW_new (w : World) (L : List Wd) (T : TypeId) (hl : L.length ≤ 1048576) : SliceW (w.heap.size + 1) (w.alloc (.cells (L.flatMap Wd.vs).toArray T)) (some ⟨w.heap.size, 0, none⟩) L.length L :=
  ⟨by unfold maxLen; omega, rfl, .inr ⟨w.heap.size, 0, rfl, by omega, fun j x hj => WordAt.of_vs fun m u hm => by
    rw [World.cell?_alloc_new, Nat.zero_add]
    simpa using flatB_get hj hm⟩⟩

set_option maxHeartbeats 4000000 in
theorem implEntry_any (y : En) (w : World) :
    Calls Tryz.prog 107 #[.agg (enl y).toArray] w fun e w' => e = .returned (.bool (entB y)) ∧ Below w.heap.size w w' := by
  have H : Hid (Hold w (w.alloc (.cells (enl y).toArray 104)) [celF w.heap.size (enl y)]) := (Hold.new w).box (enl y) 104 w.heap.size rfl
  obtain ⟨z, Z⟩ : ∃ z, Hid (z = entB y) := ⟨_, rfl⟩
  rw [← Z.out]
  have Z1 : Hid (z = (okW y.pc && (okW y.g && (okW y.e.v && (okW y.e.x && (okW y.e.p && (plzB y.x && (decide (0 ≤ y.e.t ∧ y.e.t ≤ 5) && (decide (-1 ≤ y.e.r ∧ y.e.r ≤ 7) && decide (y.e.d ≤ 4096)))))))))) := Z.out
  clear Z
  generalize hw1 : w.alloc (.cells (enl y).toArray 104) = w1 at H
  go_enter Tryz.func107, Tryz.ntmps107
  go_upto_region 1 with fail
  clear hw1
  have c0 := (H.out.cel (.head _)).c 0 _ rfl
  have c1 := (H.out.cel (.head _)).c 1 _ rfl
  have c2 := (H.out.cel (.head _)).c 2 _ rfl
  have c3 := (H.out.cel (.head _)).c 3 _ rfl
  have c4 := (H.out.cel (.head _)).c 4 _ rfl
  have c5 := (H.out.cel (.head _)).c 5 _ rfl
  have c34 := (H.out.cel (.head _)).c 34 _ rfl
  have c35 := (H.out.cel (.head _)).c 35 _ rfl
  have c36 := (H.out.cel (.head _)).c 36 _ rfl
  have c37 := (H.out.cel (.head _)).c 37 _ rfl
  have c38 := (H.out.cel (.head _)).c 38 _ rfl
  have c39 := (H.out.cel (.head _)).c 39 _ rfl
  have c14 := (H.out.cel (.head _)).c 14 _ rfl
  have c15 := (H.out.cel (.head _)).c 15 _ rfl
  have c16 := (H.out.cel (.head _)).c 16 _ rfl
  have c17 := (H.out.cel (.head _)).c 17 _ rfl
  have c18 := (H.out.cel (.head _)).c 18 _ rfl
  have c19 := (H.out.cel (.head _)).c 19 _ rfl
  have c20 := (H.out.cel (.head _)).c 20 _ rfl
  have c21 := (H.out.cel (.head _)).c 21 _ rfl
  have c22 := (H.out.cel (.head _)).c 22 _ rfl
  have c23 := (H.out.cel (.head _)).c 23 _ rfl
  have c24 := (H.out.cel (.head _)).c 24 _ rfl
  have c25 := (H.out.cel (.head _)).c 25 _ rfl
  have c27 := (H.out.cel (.head _)).c 27 _ rfl
  have c28 := (H.out.cel (.head _)).c 28 _ rfl
  have c29 := (H.out.cel (.head _)).c 29 _ rfl
  have c30 := (H.out.cel (.head _)).c 30 _ rfl
  have c31 := (H.out.cel (.head _)).c 31 _ rfl
  have c32 := (H.out.cel (.head _)).c 32 _ rfl
  have L5 : Hid (SliceW (w1.heap.size + 1) (w1.alloc (.cells #[.int .i64 y.pc.n, .bool y.pc.i, .int .i64 y.pc.b, .int .i64 y.pc.t, .int .i64 y.pc.p, .int .i64 y.pc.s, .int .i64 y.g.n, .bool y.g.i, .int .i64 y.g.b, .int .i64 y.g.t, .int .i64 y.g.p, .int .i64 y.g.s, .int .i64 y.e.v.n, .bool y.e.v.i, .int .i64 y.e.v.b, .int .i64 y.e.v.t, .int .i64 y.e.v.p, .int .i64 y.e.v.s, .int .i64 y.e.x.n, .bool y.e.x.i, .int .i64 y.e.x.b, .int .i64 y.e.x.t, .int .i64 y.e.x.p, .int .i64 y.e.x.s, .int .i64 y.e.p.n, .bool y.e.p.i, .int .i64 y.e.p.b, .int .i64 y.e.p.t, .int .i64 y.e.p.p, .int .i64 y.e.p.s] 38)) (some ⟨w1.heap.size, 0, none⟩) 5 [y.pc, y.g, y.e.v, y.e.x, y.e.p]) := sliceW_new w1 [y.pc, y.g, y.e.v, y.e.x, y.e.p] 38 (by simp)
  replace H := hid_mk (H.out.alloc (.cells #[.int .i64 y.pc.n, .bool y.pc.i, .int .i64 y.pc.b, .int .i64 y.pc.t, .int .i64 y.pc.p, .int .i64 y.pc.s, .int .i64 y.g.n, .bool y.g.i, .int .i64 y.g.b, .int .i64 y.g.t, .int .i64 y.g.p, .int .i64 y.g.s, .int .i64 y.e.v.n, .bool y.e.v.i, .int .i64 y.e.v.b, .int .i64 y.e.v.t, .int .i64 y.e.v.p, .int .i64 y.e.v.s, .int .i64 y.e.x.n, .bool y.e.x.i, .int .i64 y.e.x.b, .int .i64 y.e.x.t, .int .i64 y.e.x.p, .int .i64 y.e.x.s, .int .i64 y.e.p.n, .bool y.e.p.i, .int .i64 y.e.p.b, .int .i64 y.e.p.t, .int .i64 y.e.p.p, .int .i64 y.e.p.s] 38))
  have zs : (w1.alloc (.cells #[.int .i64 y.pc.n, .bool y.pc.i, .int .i64 y.pc.b, .int .i64 y.pc.t, .int .i64 y.pc.p, .int .i64 y.pc.s, .int .i64 y.g.n, .bool y.g.i, .int .i64 y.g.b, .int .i64 y.g.t, .int .i64 y.g.p, .int .i64 y.g.s, .int .i64 y.e.v.n, .bool y.e.v.i, .int .i64 y.e.v.b, .int .i64 y.e.v.t, .int .i64 y.e.v.p, .int .i64 y.e.v.s, .int .i64 y.e.x.n, .bool y.e.x.i, .int .i64 y.e.x.b, .int .i64 y.e.x.t, .int .i64 y.e.x.p, .int .i64 y.e.x.s, .int .i64 y.e.p.n, .bool y.e.p.i, .int .i64 y.e.p.b, .int .i64 y.e.p.t, .int .i64 y.e.p.p, .int .i64 y.e.p.s] 38)).heap.size = w1.heap.size + 1 := by simp
  have s1 := implWordsOk_any (some ⟨w1.heap.size, 0, none⟩) 5 5 [y.pc, y.g, y.e.v, y.e.x, y.e.p] _ (L5.out.mono (Nat.le_of_eq zs.symm))
  have e5 : [y.pc, y.g, y.e.v, y.e.x, y.e.p].all okW = (okW y.pc && (okW y.g && (okW y.e.v && (okW y.e.x && okW y.e.p)))) := by simp
  rw [e5] at s1
  have Z2 : Hid (z = ((okW y.pc && (okW y.g && (okW y.e.v && (okW y.e.x && okW y.e.p)))) && (plzB y.x && (decide (0 ≤ y.e.t ∧ y.e.t ≤ 5) && (decide (-1 ≤ y.e.r ∧ y.e.r ≤ 7) && decide (y.e.d ≤ 4096)))))) := by rw [Z1.out]; simp [Hid, Bool.and_assoc]
  generalize (okW y.pc && (okW y.g && (okW y.e.v && (okW y.e.x && okW y.e.p)))) = v1 at s1 Z2
  have S1 := hid_mk s1
  clear s1 e5 Z1 L5 zs
  go_upto_region 2 with (go_at_call 85; refine S1.out.mono ?_; rintro e w2 ⟨rfl, hb⟩; replace H := hid_mk (H.out.next hb); clear hb S1 c0 c1 c2 c3 c4 c5 c34 c35 c36 c37 c38 c39 c14 c15 c16 c17 c18 c19 c20 c21 c22 c23 c24 c25 c27 c28 c29 c30 c31 c32)
  have s1 := implInsOk_any y.x.o y.x.r y.x.a y.x.b y.x.n
  have hX : Hid (plzB y.x = (iokB y.x.o y.x.r y.x.a y.x.b y.x.n || eqB y.x.o y.x.r y.x.a y.x.b y.x.n 0 0 0 0 0)) := rfl
  generalize iokB y.x.o y.x.r y.x.a y.x.b y.x.n = v at s1 hX
  have S1 := hid_mk s1
  have eg := eg_ins
  have e0 := eql_ins y.x.o y.x.r y.x.a y.x.b y.x.n 0 0 0 0 0
  generalize eqB y.x.o y.x.r y.x.a y.x.b y.x.n 0 0 0 0 0 = u at e0 hX
  rw [hX.out] at Z2
  clear s1 hX
  have c6 := (H.out.cel (.head _)).c 6 _ rfl
  have c7 := (H.out.cel (.head _)).c 7 _ rfl
  have c8 := (H.out.cel (.head _)).c 8 _ rfl
  have c9 := (H.out.cel (.head _)).c 9 _ rfl
  have c10 := (H.out.cel (.head _)).c 10 _ rfl
  go_cut [4] (fun c wx => c = .bool (v || u) ∧ Hid (Hold w wx [celF w.heap.size (enl y)]))
  case first =>
    cases v
    · go_wp2_with (go_at_call 112; refine (S1.out _).mono ?_; rintro e w3 ⟨rfl, hb⟩; replace H := hid_mk (H.out.next hb); clear hb S1 c6 c7 c8 c9 c10; have c6 := (H.out.cel (.head _)).c 6 _ rfl; have c7 := (H.out.cel (.head _)).c 7 _ rfl; have c8 := (H.out.cel (.head _)).c 8 _ rfl; have c9 := (H.out.cel (.head _)).c 9 _ rfl; have c10 := (H.out.cel (.head _)).c 10 _ rfl)
      go_meet
      case rel => exact ⟨rfl, H.out⟩
    · go_wp2_with (go_at_call 112; refine (S1.out _).mono ?_; rintro e w3 ⟨rfl, hb⟩; replace H := hid_mk (H.out.next hb); clear hb S1 c6 c7 c8 c9 c10)
      go_meet
      case rel => exact ⟨rfl, H.out⟩
  case rest =>
    obtain ⟨rfl, H⟩ := hcut
    generalize (v || u) = pl at Z2 ⊢
    have c13 := (H.out.cel (.head _)).c 13 _ rfl
    have s1 := isReg_any y.e.r
    have S1 := hid_mk s1
    clear s1 eg e0
    go_upto_region 3 with fail
    generalize hq : decide (-1 ≤ y.e.r ∧ y.e.r ≤ 7) = q at Z2
    have HQ := hid_mk hq
    clear hq
    go_cut [5] (fun c wx => c = .bool q ∧ Hid (Hold w wx [celF w.heap.size (enl y)]))
    case first =>
      by_cases hr : y.e.r = -1
      · have he : decide (-1 ≤ y.e.r ∧ y.e.r ≤ 7) = true := decide_eq_true (by omega)
        have hc : (y.e.r == -1) = true := by simp [hr]
        obtain rfl : q = true := HQ.out.symm.trans he
        clear he hr
        go_wp2
        go_meet
        case rel => exact ⟨rfl, H.out⟩
      · have he : decide (-1 ≤ y.e.r ∧ y.e.r ≤ 7) = decide (0 ≤ y.e.r ∧ y.e.r ≤ 7) := by rw [decide_eq_decide]; omega
        have hc : (y.e.r == -1) = false := by simp [hr]
        have hq2 := HQ.out.symm.trans he
        rw [← hq2] at S1
        clear he hr hq2
        go_wp2_with (go_at_call 89; refine (S1.out _).mono ?_; rintro e w9 ⟨rfl, rfl⟩)
        go_meet
        case rel => exact ⟨rfl, H.out⟩
    case rest =>
      obtain ⟨rfl, H⟩ := hcut
      have c12 := (H.out.cel (.head _)).c 12 _ rfl
      have c33 := (H.out.cel (.head _)).c 33 _ rfl
      have s1 := isTrap_any y.e.t
      generalize decide (0 ≤ y.e.t ∧ y.e.t ≤ 5) = u1 at s1 Z2
      have S1 := hid_mk s1
      have B := hid_mk H.out.bel
      clear s1 H
      cases v1
      · have hz : z = false := by rw [Z2.out]; simp
        subst hz
        go_wp2
        go_ret
        exact ⟨rfl, B.out⟩
      · cases pl
        · have hz : z = false := by rw [Z2.out]; simp
          subst hz
          go_wp2
          go_ret
          exact ⟨rfl, B.out⟩
        · cases u1
          · have hz : z = false := by rw [Z2.out]; simp
            subst hz
            go_wp2_with (go_at_call 88; refine (S1.out _).mono ?_; rintro e w9 ⟨rfl, rfl⟩)
            go_wp2
            go_ret
            exact ⟨rfl, B.out⟩
          · cases q
            · have hz : z = false := by rw [Z2.out]; simp
              subst hz
              go_wp2_with (go_at_call 88; refine (S1.out _).mono ?_; rintro e w9 ⟨rfl, rfl⟩)
              go_wp2
              go_ret
              exact ⟨rfl, B.out⟩
            · have hz : z = decide (y.e.d ≤ 4096) := by rw [Z2.out]; simp
              subst hz
              go_wp2_with (go_at_call 88; refine (S1.out _).mono ?_; rintro e w9 ⟨rfl, rfl⟩)
              go_wp2
              go_ret
              exact ⟨rfl, B.out⟩
end Go.Proofs.YtpkhnajhamnggaaGreatDoor

namespace Go.Proofs.YtpkhnajhamnggaaGreatDoor
open Go.ChangeShapes Go.WideShapes Go.ChangeAt Go.RowKit
set_option maxRecDepth 100000

/-- What is plain in a core: its lengths, words, numbers. -/
structure Cv where
  rn : Nat
  pc : Wd
  wn : Nat
  gn : Nat
  t : Int
  en : Nat
  nx : Wd
  st : Bool
  jn : Nat
/-- Where its slices lie, and their room. -/
structure Ca where
  ra : Option Addr
  rc : Nat
  wa : Option Addr
  wc : Nat
  ga : Option Addr
  gc : Nat
  ea : Option Addr
  ec : Nat
  ja : Option Addr
  jc : Nat
/-- What its rows hold. -/
structure Cr where
  R : List Wd
  L : List Wd
  G : List Bool
  E : List En
  J : List Int
def col (v : Cv) (a : Ca) : List Value := [.slice a.ra v.rn a.rc, .int .i64 v.pc.n, .bool v.pc.i, .int .i64 v.pc.b, .int .i64 v.pc.t, .int .i64 v.pc.p, .int .i64 v.pc.s,
  .slice a.wa v.wn a.wc, .slice a.ga v.gn a.gc, .int .i64 v.t, .slice a.ea v.en a.ec,
  .int .i64 v.nx.n, .bool v.nx.i, .int .i64 v.nx.b, .int .i64 v.nx.t, .int .i64 v.nx.p, .int .i64 v.nx.s, .bool v.st, .slice a.ja v.jn a.jc]
theorem col_one (v : Cv) (a : Ca) : ((col v a).toArray.all (·.oneCell')) = true := all_oneCell_toArray fun u hu => by
  simp only [col, List.mem_cons, List.not_mem_nil, or_false] at hu
  rcases hu with rfl | rfl | rfl | rfl | rfl | rfl | rfl | rfl | rfl | rfl | rfl | rfl | rfl | rfl | rfl | rfl | rfl | rfl | rfl <;> rfl
theorem sizeCor : (Tryz.prog.info? 64).map (·.size) = some 19 := by kernel_rfl
theorem sizeCorL : (Tryz.prog.info? 60).map (·.size) = some 19 := by kernel_rfl
theorem lv_cor {w : World} {r : Nat} {v : Cv} {a : Ca} (h : w.rangeAt r 0 (col v a)) : (loadVar 64 ⟨r, 0, none⟩).run Tryz.prog w = .ok (.agg (col v a).toArray) w :=
  run_loadVar_mid w r 0 _ _ _ h Tryz.underlying64 rfl sizeCor

/-- The rows of a core that came in. -/
structure CoS (w : World) (v : Cv) (a : Ca) (r : Cr) : Prop where
  st : StS w a.ra v.rn a.wa v.wn a.ga v.gn r.R r.L r.G
  es : SliceV 40 enl w.heap.size w a.ea v.en r.E
  js : SliceN w.heap.size w a.ja v.jn r.J
theorem CoS.below {w w' : World} {v : Cv} {a : Ca} {r : Cr} (h : CoS w v a r) (hb : Below w.heap.size w w') : CoS w' v a r :=
  ⟨h.st.below hb, h.es.below hb, (h.js.keep hb).mono hb.size⟩
def argCF (B : Nat) (v : Cv) (a : Ca) (r : Cr) : Fct where
  S := fun k => k < B
  p := fun w => ArgS B a.ra v.rn a.wa v.wn a.ga v.gn r.R r.L r.G w ∧ (SliceV 40 enl B w a.ea v.en r.E ∧ SliceN B w a.ja v.jn r.J ∧ B ≤ w.heap.size)
  keep := fun w w' h hs hb => ⟨(argSF B a.ra v.rn a.wa v.wn a.ga v.gn r.R r.L r.G).keep w w' h.1 hs hb, h.2.1.ofBlocks h.2.2.2 hb, h.2.2.1.ofBlocks h.2.2.2 hb, Nat.le_trans h.2.2.2 hs⟩
theorem CoS.arg {w : World} {v : Cv} {a : Ca} {r : Cr} (h : CoS w v a r) : (argCF w.heap.size v a r).p w := ⟨h.st.arg, h.es, h.js, Nat.le_refl _⟩
theorem Hold.argC {w0 w : World} {fs : List Fct} (h : Hold w0 w fs) {B : Nat} {v : Cv} {a : Ca} {r : Cr} (hm : argCF B v a r ∈ fs) : CoS w v a r := by
  have g : (argCF B v a r).p w := h.at hm
  exact ⟨⟨g.1.rs.mono g.1.mem.lt, g.1.mem.mem⟩, g.2.1.mono g.2.2.2, g.2.2.1.mono g.2.2.2⟩

/-- Rows of a call's own, or none. -/
def RowVA (w : World) (a : Option Addr) (n : Nat) (L : List En) : Prop := (a = none ∧ n = 0 ∧ L = []) ∨ ∃ q, a = some ⟨q, 0, none⟩ ∧ L.length = n ∧ OutV 40 enl w q n n L
def RowNA (w : World) (a : Option Addr) (n : Nat) (L : List Int) : Prop := (a = none ∧ n = 0 ∧ L = []) ∨ ∃ q, a = some ⟨q, 0, none⟩ ∧ L.length = n ∧ OutN w q n n L
section
variable {w w' : World} {a : Option Addr} {n : Nat} {E : List En} {J : List Int}
theorem RowVA.ofBlock (h : RowVA w a n E) (hs : w.heap.size ≤ w'.heap.size) (hb : ∀ k, k < w.heap.size → On a k → w'.heap[k]? = w.heap[k]?) : RowVA w' a n E := by
  rcases h with h | ⟨q, rfl, hl, hO⟩
  · exact .inl h
  · exact .inr ⟨q, rfl, hl, hO.ofBlock hs (hb q hO.lt ((on_some q q).2 rfl))⟩
theorem RowNA.ofBlock (h : RowNA w a n J) (hs : w.heap.size ≤ w'.heap.size) (hb : ∀ k, k < w.heap.size → On a k → w'.heap[k]? = w.heap[k]?) : RowNA w' a n J := by
  rcases h with h | ⟨q, rfl, hl, hO⟩
  · exact .inl h
  · exact .inr ⟨q, rfl, hl, hO.ofBlock hs (hb q hO.lt ((on_some q q).2 rfl))⟩
theorem RowVA.slice (h : RowVA w a n E) (hn : n ≤ 1048576) : SliceV 40 enl w.heap.size w a n E := by
  rcases h with ⟨rfl, rfl, rfl⟩ | ⟨q, rfl, hl, hO⟩
  · exact SliceV.nil _ _
  · exact hO.slice hl (by unfold maxLen; omega)
theorem RowNA.slice (h : RowNA w a n J) (hn : n ≤ 1048576) : SliceN w.heap.size w a n J := by
  rcases h with ⟨rfl, rfl, rfl⟩ | ⟨q, rfl, hl, hO⟩
  · exact ⟨by unfold maxLen; omega, rfl, .inl rfl⟩
  · exact hO.slice hl (by unfold maxLen; omega)
theorem RowVA.lt (h : RowVA w a n E) {k : Nat} (hk : On a k) : k < w.heap.size := by
  rcases h with ⟨rfl, _, _⟩ | ⟨q, rfl, _, hO⟩
  · exact absurd hk (on_none k)
  · rw [← (on_some q k).1 hk]; exact hO.lt
theorem RowNA.lt (h : RowNA w a n J) {k : Nat} (hk : On a k) : k < w.heap.size := by
  rcases h with ⟨rfl, _, _⟩ | ⟨q, rfl, _, hO⟩
  · exact absurd hk (on_none k)
  · rw [← (on_some q k).1 hk]; exact hO.lt
end
/-- The blocks of a core's rows. -/
def OnC (a : Ca) (k : Nat) : Prop := (On a.ra k ∨ On a.wa k ∨ On a.ga k) ∨ On a.ea k ∨ On a.ja k
/-- A core that a call has answered: it owns its five rows. -/
structure AnsC (v : Cv) (a : Ca) (r : Cr) (w : World) : Prop where
  st : AnsS a.ra a.wa a.ga v.rn v.wn v.gn r.R r.L r.G w
  es : RowVA w a.ea v.en r.E
  js : RowNA w a.ja v.jn r.J
  d1 : ∀ k, On a.ea k → ¬ (On a.ra k ∨ On a.wa k ∨ On a.ga k)
  d2 : ∀ k, On a.ja k → ¬ (On a.ra k ∨ On a.wa k ∨ On a.ga k) ∧ ¬ On a.ea k
def ansCF (v : Cv) (a : Ca) (r : Cr) : Fct where
  S := OnC a
  p := AnsC v a r
  keep := fun w w' h hs hb => ⟨(ansSF a.ra a.wa a.ga v.rn v.wn v.gn r.R r.L r.G).keep w w' h.st hs fun k hk ho => hb k hk (.inl ho), h.es.ofBlock hs fun k hk ho => hb k hk (.inr (.inl ho)), h.js.ofBlock hs fun k hk ho => hb k hk (.inr (.inr ho)), h.d1, h.d2⟩
theorem AnsC.lt {v : Cv} {a : Ca} {r : Cr} {w : World} (h : AnsC v a r w) {k : Nat} (hk : OnC a k) : k < w.heap.size := by
  rcases hk with hk | hk | hk
  · exact h.st.lt hk
  · exact h.es.lt hk
  · exact h.js.lt hk
/-- The lengths that the laws let a core have. -/
structure CvB (v : Cv) : Prop where
  rn : v.rn ≤ 1048576
  wn : v.wn ≤ 1048576
  gn : v.gn ≤ 1048576
  en : v.en ≤ 262144
  jn : v.jn ≤ 1048576
theorem AnsC.cos {v : Cv} {a : Ca} {r : Cr} {w : World} (h : AnsC v a r w) (hv : CvB v) : CoS w v a r := ⟨h.st.sts hv.rn hv.wn hv.gn, h.es.slice (by have := hv.en; omega), h.js.slice hv.jn⟩
/-- The room behind a core's rows. -/
structure CapC (v : Cv) (a : Ca) : Prop where
  r : v.rn ≤ a.rc
  w : v.wn ≤ a.wc
  g : v.gn ≤ a.gc
  e : v.en ≤ a.ec
  j : v.jn ≤ a.jc
  n : a.ea = none → a.ec = 0
  s : ∃ q, a.ea = some ⟨q, 0, none⟩
  t : ∃ q, a.ja = some ⟨q, 0, none⟩
theorem Hold.ansC {w0 w : World} {fs : List Fct} (h : Hold w0 w fs) {v : Cv} {a : Ca} {r : Cr} (hm : ansCF v a r ∈ fs) : AnsC v a r w := h.at hm
theorem Hold.under {w0 w : World} {f g : Fct} {fs : List Fct} (h : Hold w0 w (f :: fs)) (hg : g.p w) : Hold w0 w (f :: g :: fs) := (h.tail.push g hg).push f (h.at (.head _))

/-- What CoreOk answers. -/
def cokC (v : Cv) (r : Cr) : Bool := r.E.all entB && (sokB r.R v.pc r.L r.G v.t && (decide (v.en ≤ 6) && (okW v.nx && gokB r.J)))
theorem allE_at {E : List En} {k : Nat} {x : En} (h : E[k]? = some x) (h1 : entB x = false) : E.all entB = false := by
  rw [List.all_eq_false]
  exact ⟨x, List.mem_of_getElem? h, by simp [h1]⟩
theorem allE_take {E : List En} {k : Nat} {x : En} (h : E[k]? = some x) (h0 : (E.take k).all entB = true) (h1 : entB x = true) : (E.take (k + 1)).all entB = true := by
  rw [List.take_add_one, h]; simp [h0, h1]
theorem allE_end {E : List En} {k : Nat} (h : E.length ≤ k) (h0 : (E.take k).all entB = true) : E.all entB = true := by
  rwa [List.take_of_length_le h] at h0
end Go.Proofs.YtpkhnajhamnggaaGreatDoor

namespace Go.Proofs.YtpkhnajhamnggaaGreatDoor
open Go.ChangeShapes Go.WideShapes Go.ChangeAt Go.RowKit
set_option maxRecDepth 100000

set_option maxHeartbeats 4000000 in
theorem toCore_ans (v : Cv) (a : Ca) (r : Cr) (w : World) (hv : CvB v) (hS : CoS w v a r) :
    Calls Tryz.prog 24 #[.agg (col v a).toArray] w fun e w' => ∃ a', e = .returned (.agg (col v a').toArray) ∧ AnsC v a' r w' ∧ CapC v a' ∧ (∀ k, OnC a' k → w.heap.size ≤ k) ∧ Below w.heap.size w w' := by
  have H : Hid (Hold w (((w.alloc (.cells (col v a).toArray 60)).alloc (.cells ([.slice none 0 0, .int .i64 0, .bool false, .int .i64 0, .int .i64 0, .int .i64 0, .int .i64 0, .slice none 0 0, .slice none 0 0, .int .i64 0, .slice none 0 0, .int .i64 0, .bool false, .int .i64 0, .int .i64 0, .int .i64 0, .int .i64 0, .bool false, .slice none 0 0] : List Value).toArray 64)).alloc (.cells ([.slice none 0 0, .int .i64 0, .bool false, .int .i64 0, .int .i64 0, .int .i64 0, .int .i64 0, .slice none 0 0, .slice none 0 0, .int .i64 0, .slice none 0 0, .int .i64 0, .bool false, .int .i64 0, .int .i64 0, .int .i64 0, .int .i64 0, .bool false, .slice none 0 0] : List Value).toArray 64)) [preF (w.heap.size + 1 + 1) 19 [], celF (w.heap.size + 1) [.slice none 0 0, .int .i64 0, .bool false, .int .i64 0, .int .i64 0, .int .i64 0, .int .i64 0, .slice none 0 0, .slice none 0 0, .int .i64 0, .slice none 0 0, .int .i64 0, .bool false, .int .i64 0, .int .i64 0, .int .i64 0, .int .i64 0, .bool false, .slice none 0 0], celF w.heap.size (col v a), argCF w.heap.size v a r]) := by
    have h := ((((Hold.new w).push (argCF w.heap.size v a r) hS.arg).box (col v a) 60 w.heap.size rfl).box [.slice none 0 0, .int .i64 0, .bool false, .int .i64 0, .int .i64 0, .int .i64 0, .int .i64 0, .slice none 0 0, .slice none 0 0, .int .i64 0, .slice none 0 0, .int .i64 0, .bool false, .int .i64 0, .int .i64 0, .int .i64 0, .int .i64 0, .bool false, .slice none 0 0] 64 (w.heap.size + 1) (by simp)).box [.slice none 0 0, .int .i64 0, .bool false, .int .i64 0, .int .i64 0, .int .i64 0, .int .i64 0, .slice none 0 0, .slice none 0 0, .int .i64 0, .slice none 0 0, .int .i64 0, .bool false, .int .i64 0, .int .i64 0, .int .i64 0, .int .i64 0, .bool false, .slice none 0 0] 64 (w.heap.size + 1 + 1) (by simp)
    exact h.tail.push (preF (w.heap.size + 1 + 1) 19 []) ((h.cel (.head _)).pre rfl)
  have hn0 := hv.rn
  have hn1 := hv.wn
  have hn2 := hv.gn
  have hn3 := hv.en
  have hn4 := hv.jn
  have hl3 := hS.es.2.1
  have hl4 := hS.js.2.1
  clear hS hv
  obtain ⟨Q, HQ, HQ2⟩ : ∃ Q : Ending → World → Prop, Hid (∀ a' w', AnsC v a' r w' → CapC v a' → (∀ k, OnC a' k → w.heap.size ≤ k) → Below w.heap.size w w' → Q (.returned (.agg (col v a').toArray)) w') ∧ (∀ e w', Q e w' → ∃ a', e = .returned (.agg (col v a').toArray) ∧ AnsC v a' r w' ∧ CapC v a' ∧ (∀ k, OnC a' k → w.heap.size ≤ k) ∧ Below w.heap.size w w') :=
    ⟨fun e w' => ∃ a', e = .returned (.agg (col v a').toArray) ∧ AnsC v a' r w' ∧ CapC v a' ∧ (∀ k, OnC a' k → w.heap.size ≤ k) ∧ Below w.heap.size w w', fun a' w' h1 h0 h2 h3 => ⟨a', rfl, h1, h0, h2, h3⟩, fun _ _ h => h⟩
  refine Calls.mono (R := Q) ?_ HQ2
  clear HQ2
  generalize hw1 : ((w.alloc (.cells (col v a).toArray 60)).alloc (.cells ([.slice none 0 0, .int .i64 0, .bool false, .int .i64 0, .int .i64 0, .int .i64 0, .int .i64 0, .slice none 0 0, .slice none 0 0, .int .i64 0, .slice none 0 0, .int .i64 0, .bool false, .int .i64 0, .int .i64 0, .int .i64 0, .int .i64 0, .bool false, .slice none 0 0] : List Value).toArray 64)).alloc (.cells ([.slice none 0 0, .int .i64 0, .bool false, .int .i64 0, .int .i64 0, .int .i64 0, .int .i64 0, .slice none 0 0, .slice none 0 0, .int .i64 0, .slice none 0 0, .int .i64 0, .bool false, .int .i64 0, .int .i64 0, .int .i64 0, .int .i64 0, .bool false, .slice none 0 0] : List Value).toArray 64) = w1 at H
  go_enter Tryz.func24, Tryz.ntmps24
  go_upto_region 2 with fail
  clear hw1
  have z1 := (H.out.pre (.head _)).lt
  have c0 := (H.out.cel (.tail _ (.tail _ (.head _)))).c 0 _ rfl
  have c1 := (H.out.cel (.tail _ (.tail _ (.head _)))).c 1 _ rfl
  have c2 := (H.out.cel (.tail _ (.tail _ (.head _)))).c 2 _ rfl
  have c3 := (H.out.cel (.tail _ (.tail _ (.head _)))).c 3 _ rfl
  have c4 := (H.out.cel (.tail _ (.tail _ (.head _)))).c 4 _ rfl
  have c5 := (H.out.cel (.tail _ (.tail _ (.head _)))).c 5 _ rfl
  have c6 := (H.out.cel (.tail _ (.tail _ (.head _)))).c 6 _ rfl
  have c7 := (H.out.cel (.tail _ (.tail _ (.head _)))).c 7 _ rfl
  have c8 := (H.out.cel (.tail _ (.tail _ (.head _)))).c 8 _ rfl
  have c9 := (H.out.cel (.tail _ (.tail _ (.head _)))).c 9 _ rfl
  go_wp2_with fail
  refine (toState_ans _ _ _ _ _ _ _ _ _ _ _ r.R r.L r.G _ hn0 hn1 hn2 (H.out.argC (.tail _ (.tail _ (.tail _ (.head _))))).st).mono ?_
  rintro e u2 ⟨b, b1, b2, rfl, A, fr, hb⟩
  have lA := hid_mk (fun k hk => A.lt (k := k) hk)
  have z2 := hb.size
  replace H := hid_mk ((H.out.next hb).under (g := ansSF b b1 b2 v.rn v.wn v.gn r.R r.L r.G) A)
  have F2 := hid_mk fr
  clear hb A fr c0 c1 c2 c3 c4 c5 c6 c7 c8 c9
  have D2 : Hid (∀ f ∈ [ansSF b b1 b2 v.rn v.wn v.gn r.R r.L r.G, celF (w.heap.size + 1) [.slice none 0 0, .int .i64 0, .bool false, .int .i64 0, .int .i64 0, .int .i64 0, .int .i64 0, .slice none 0 0, .slice none 0 0, .int .i64 0, .slice none 0 0, .int .i64 0, .bool false, .int .i64 0, .int .i64 0, .int .i64 0, .int .i64 0, .bool false, .slice none 0 0], celF w.heap.size (col v a), argCF w.heap.size v a r], ¬ f.S (w.heap.size + 1 + 1)) := fun f hf hs => by
    simp only [List.mem_cons, List.not_mem_nil, or_false] at hf
    rcases hf with rfl | rfl | rfl | rfl
    · have := F2.out _ hs; omega
    · simp only [celF] at hs; omega
    · simp only [celF] at hs; omega
    · simp only [argCF] at hs; omega
  obtain ⟨_, e0, f0⟩ := (H.out.pre (.head _)).one 0 (by omega)
  obtain ⟨_, e1, f1⟩ := (H.out.pre (.head _)).one 1 (by omega)
  obtain ⟨_, e2, f2⟩ := (H.out.pre (.head _)).one 2 (by omega)
  obtain ⟨_, e3, f3⟩ := (H.out.pre (.head _)).one 3 (by omega)
  obtain ⟨_, e4, f4⟩ := (H.out.pre (.head _)).one 4 (by omega)
  obtain ⟨_, e5, f5⟩ := (H.out.pre (.head _)).one 5 (by omega)
  obtain ⟨_, e6, f6⟩ := (H.out.pre (.head _)).one 6 (by omega)
  obtain ⟨_, e7, f7⟩ := (H.out.pre (.head _)).one 7 (by omega)
  obtain ⟨_, e8, f8⟩ := (H.out.pre (.head _)).one 8 (by omega)
  obtain ⟨_, e9, f9⟩ := (H.out.pre (.head _)).one 9 (by omega)
  go_upto_region 3 with fail
  clear e0 f0 e1 f1 e2 f2 e3 f3 e4 f4 e5 f5 e6 f6 e7 f7 e8 f8 e9 f9
  replace H : Hid (Hold w ((((((((((u2.setCell ⟨w.heap.size + 1 + 1, 0, none⟩ (.slice b v.rn v.rn)).setCell ⟨w.heap.size + 1 + 1, 1, none⟩ (.int .i64 v.pc.n)).setCell ⟨w.heap.size + 1 + 1, 2, none⟩ (.bool v.pc.i)).setCell ⟨w.heap.size + 1 + 1, 3, none⟩ (.int .i64 v.pc.b)).setCell ⟨w.heap.size + 1 + 1, 4, none⟩ (.int .i64 v.pc.t)).setCell ⟨w.heap.size + 1 + 1, 5, none⟩ (.int .i64 v.pc.p)).setCell ⟨w.heap.size + 1 + 1, 6, none⟩ (.int .i64 v.pc.s)).setCell ⟨w.heap.size + 1 + 1, 7, none⟩ (.slice b1 v.wn v.wn)).setCell ⟨w.heap.size + 1 + 1, 8, none⟩ (.slice b2 v.gn v.gn)).setCell ⟨w.heap.size + 1 + 1, 9, none⟩ (.int .i64 v.t)) _) := H.out.put [.slice b v.rn v.rn, .int .i64 v.pc.n, .bool v.pc.i, .int .i64 v.pc.b, .int .i64 v.pc.t, .int .i64 v.pc.p, .int .i64 v.pc.s, .slice b1 v.wn v.wn, .slice b2 v.gn v.gn, .int .i64 v.t] rfl (by simp) (by omega) D2.out
  have hs0 : ((((((((((u2.setCell ⟨w.heap.size + 1 + 1, 0, none⟩ (.slice b v.rn v.rn)).setCell ⟨w.heap.size + 1 + 1, 1, none⟩ (.int .i64 v.pc.n)).setCell ⟨w.heap.size + 1 + 1, 2, none⟩ (.bool v.pc.i)).setCell ⟨w.heap.size + 1 + 1, 3, none⟩ (.int .i64 v.pc.b)).setCell ⟨w.heap.size + 1 + 1, 4, none⟩ (.int .i64 v.pc.t)).setCell ⟨w.heap.size + 1 + 1, 5, none⟩ (.int .i64 v.pc.p)).setCell ⟨w.heap.size + 1 + 1, 6, none⟩ (.int .i64 v.pc.s)).setCell ⟨w.heap.size + 1 + 1, 7, none⟩ (.slice b1 v.wn v.wn)).setCell ⟨w.heap.size + 1 + 1, 8, none⟩ (.slice b2 v.gn v.gn)).setCell ⟨w.heap.size + 1 + 1, 9, none⟩ (.int .i64 v.t)).heap.size = u2.heap.size := by simp
  generalize (((((((((u2.setCell ⟨w.heap.size + 1 + 1, 0, none⟩ (.slice b v.rn v.rn)).setCell ⟨w.heap.size + 1 + 1, 1, none⟩ (.int .i64 v.pc.n)).setCell ⟨w.heap.size + 1 + 1, 2, none⟩ (.bool v.pc.i)).setCell ⟨w.heap.size + 1 + 1, 3, none⟩ (.int .i64 v.pc.b)).setCell ⟨w.heap.size + 1 + 1, 4, none⟩ (.int .i64 v.pc.t)).setCell ⟨w.heap.size + 1 + 1, 5, none⟩ (.int .i64 v.pc.p)).setCell ⟨w.heap.size + 1 + 1, 6, none⟩ (.int .i64 v.pc.s)).setCell ⟨w.heap.size + 1 + 1, 7, none⟩ (.slice b1 v.wn v.wn)).setCell ⟨w.heap.size + 1 + 1, 8, none⟩ (.slice b2 v.gn v.gn)).setCell ⟨w.heap.size + 1 + 1, 9, none⟩ (.int .i64 v.t) = v2 at H hs0 ⊢
  have c10 := (H.out.cel (.tail _ (.tail _ (.tail _ (.head _))))).c 10 _ rfl
  go_wp2_with fail
  refine (toEntryS_own _ _ _ r.E _ hn3 (H.out.argC (.tail _ (.tail _ (.tail _ (.tail _ (.head _)))))).es).mono ?_
  rintro e u3 ⟨q, rfl, hq, hO, hb⟩
  have z3 := hb.size
  have lq := hO.1.lt
  replace H := hid_mk ((H.out.next hb).under (g := outVF 40 enl q v.en r.E) hO)
  clear hb hO c10
  have D3 : Hid (∀ f ∈ [outVF 40 enl q v.en r.E, ansSF b b1 b2 v.rn v.wn v.gn r.R r.L r.G, celF (w.heap.size + 1) [.slice none 0 0, .int .i64 0, .bool false, .int .i64 0, .int .i64 0, .int .i64 0, .int .i64 0, .slice none 0 0, .slice none 0 0, .int .i64 0, .slice none 0 0, .int .i64 0, .bool false, .int .i64 0, .int .i64 0, .int .i64 0, .int .i64 0, .bool false, .slice none 0 0], celF w.heap.size (col v a), argCF w.heap.size v a r], ¬ f.S (w.heap.size + 1 + 1)) := fun f hf hs => by
    simp only [List.mem_cons, List.not_mem_nil, or_false] at hf
    rcases hf with rfl | rfl | rfl | rfl | rfl
    · simp only [outVF] at hs; omega
    · have := F2.out _ hs; omega
    · simp only [celF] at hs; omega
    · simp only [celF] at hs; omega
    · simp only [argCF] at hs; omega
  have z2b := hs0
  clear hs0
  obtain ⟨_, e0, f0⟩ := (H.out.pre (.head _)).one 10 (by omega)
  go_upto_region 4 with fail
  clear e0 f0
  replace H : Hid (Hold w (u3.setCell ⟨w.heap.size + 1 + 1, 10, none⟩ (.slice (some ⟨q, 0, none⟩) v.en v.en)) _) := H.out.put [.slice (some ⟨q, 0, none⟩) v.en v.en] rfl (by simp) (by omega) D3.out
  have hs0 : (u3.setCell ⟨w.heap.size + 1 + 1, 10, none⟩ (.slice (some ⟨q, 0, none⟩) v.en v.en)).heap.size = u3.heap.size := by simp
  generalize u3.setCell ⟨w.heap.size + 1 + 1, 10, none⟩ (.slice (some ⟨q, 0, none⟩) v.en v.en) = v3 at H hs0 ⊢
  have c11 := (H.out.cel (.tail _ (.tail _ (.tail _ (.tail _ (.head _)))))).c 11 _ rfl
  have c12 := (H.out.cel (.tail _ (.tail _ (.tail _ (.tail _ (.head _)))))).c 12 _ rfl
  have c13 := (H.out.cel (.tail _ (.tail _ (.tail _ (.tail _ (.head _)))))).c 13 _ rfl
  have c14 := (H.out.cel (.tail _ (.tail _ (.tail _ (.tail _ (.head _)))))).c 14 _ rfl
  have c15 := (H.out.cel (.tail _ (.tail _ (.tail _ (.tail _ (.head _)))))).c 15 _ rfl
  have c16 := (H.out.cel (.tail _ (.tail _ (.tail _ (.tail _ (.head _)))))).c 16 _ rfl
  go_wp2_with fail
  refine (toWord_any v.nx.n v.nx.i v.nx.b v.nx.t v.nx.p v.nx.s _).mono ?_
  rintro e u4 ⟨rfl, hb⟩
  have z4 := hb.size
  replace H := hid_mk (H.out.next hb)
  clear hb c11 c12 c13 c14 c15 c16
  have z3b := hs0
  clear hs0
  obtain ⟨_, e0, f0⟩ := (H.out.pre (.head _)).one 11 (by omega)
  obtain ⟨_, e1, f1⟩ := (H.out.pre (.head _)).one 12 (by omega)
  obtain ⟨_, e2, f2⟩ := (H.out.pre (.head _)).one 13 (by omega)
  obtain ⟨_, e3, f3⟩ := (H.out.pre (.head _)).one 14 (by omega)
  obtain ⟨_, e4, f4⟩ := (H.out.pre (.head _)).one 15 (by omega)
  obtain ⟨_, e5, f5⟩ := (H.out.pre (.head _)).one 16 (by omega)
  go_upto_region 5 with fail
  clear e0 f0 e1 f1 e2 f2 e3 f3 e4 f4 e5 f5
  replace H : Hid (Hold w ((((((u4.setCell ⟨w.heap.size + 1 + 1, 11, none⟩ (.int .i64 v.nx.n)).setCell ⟨w.heap.size + 1 + 1, 12, none⟩ (.bool v.nx.i)).setCell ⟨w.heap.size + 1 + 1, 13, none⟩ (.int .i64 v.nx.b)).setCell ⟨w.heap.size + 1 + 1, 14, none⟩ (.int .i64 v.nx.t)).setCell ⟨w.heap.size + 1 + 1, 15, none⟩ (.int .i64 v.nx.p)).setCell ⟨w.heap.size + 1 + 1, 16, none⟩ (.int .i64 v.nx.s)) _) := H.out.put [.int .i64 v.nx.n, .bool v.nx.i, .int .i64 v.nx.b, .int .i64 v.nx.t, .int .i64 v.nx.p, .int .i64 v.nx.s] rfl (by simp) (by omega) D3.out
  have hs0 : ((((((u4.setCell ⟨w.heap.size + 1 + 1, 11, none⟩ (.int .i64 v.nx.n)).setCell ⟨w.heap.size + 1 + 1, 12, none⟩ (.bool v.nx.i)).setCell ⟨w.heap.size + 1 + 1, 13, none⟩ (.int .i64 v.nx.b)).setCell ⟨w.heap.size + 1 + 1, 14, none⟩ (.int .i64 v.nx.t)).setCell ⟨w.heap.size + 1 + 1, 15, none⟩ (.int .i64 v.nx.p)).setCell ⟨w.heap.size + 1 + 1, 16, none⟩ (.int .i64 v.nx.s)).heap.size = u4.heap.size := by simp
  generalize (((((u4.setCell ⟨w.heap.size + 1 + 1, 11, none⟩ (.int .i64 v.nx.n)).setCell ⟨w.heap.size + 1 + 1, 12, none⟩ (.bool v.nx.i)).setCell ⟨w.heap.size + 1 + 1, 13, none⟩ (.int .i64 v.nx.b)).setCell ⟨w.heap.size + 1 + 1, 14, none⟩ (.int .i64 v.nx.t)).setCell ⟨w.heap.size + 1 + 1, 15, none⟩ (.int .i64 v.nx.p)).setCell ⟨w.heap.size + 1 + 1, 16, none⟩ (.int .i64 v.nx.s) = v4 at H hs0 ⊢
  have c17 := (H.out.cel (.tail _ (.tail _ (.tail _ (.tail _ (.head _)))))).c 17 _ rfl
  have z4b := hs0
  clear hs0
  obtain ⟨_, e0, f0⟩ := (H.out.pre (.head _)).one 17 (by omega)
  go_upto_region 6 with fail
  clear e0 f0
  replace H : Hid (Hold w (v4.setCell ⟨w.heap.size + 1 + 1, 17, none⟩ (.bool v.st)) _) := H.out.put [.bool v.st] rfl (by simp) (by omega) D3.out
  have hs0 : (v4.setCell ⟨w.heap.size + 1 + 1, 17, none⟩ (.bool v.st)).heap.size = v4.heap.size := by simp
  generalize v4.setCell ⟨w.heap.size + 1 + 1, 17, none⟩ (.bool v.st) = v5 at H hs0 ⊢
  clear c17
  have c18 := (H.out.cel (.tail _ (.tail _ (.tail _ (.tail _ (.head _)))))).c 18 _ rfl
  go_wp2_with fail
  refine (toIntS_own _ _ _ r.J _ hn4 (H.out.argC (.tail _ (.tail _ (.tail _ (.tail _ (.tail _ (.head _))))))).js).mono ?_
  rintro e u6 ⟨j, rfl, hj, hO, hb⟩
  have z6 := hb.size
  have lj := hO.lt
  replace H := hid_mk ((H.out.next hb).under (g := intF j v.jn r.J) ⟨hO, hl4⟩)
  clear hb hO c18
  have D6 : Hid (∀ f ∈ [intF j v.jn r.J, outVF 40 enl q v.en r.E, ansSF b b1 b2 v.rn v.wn v.gn r.R r.L r.G, celF (w.heap.size + 1) [.slice none 0 0, .int .i64 0, .bool false, .int .i64 0, .int .i64 0, .int .i64 0, .int .i64 0, .slice none 0 0, .slice none 0 0, .int .i64 0, .slice none 0 0, .int .i64 0, .bool false, .int .i64 0, .int .i64 0, .int .i64 0, .int .i64 0, .bool false, .slice none 0 0], celF w.heap.size (col v a), argCF w.heap.size v a r], ¬ f.S (w.heap.size + 1 + 1)) := fun f hf hs => by
    simp only [List.mem_cons, List.not_mem_nil, or_false] at hf
    rcases hf with rfl | rfl | rfl | rfl | rfl | rfl
    · simp only [intF] at hs; omega
    · simp only [outVF] at hs; omega
    · have := F2.out _ hs; omega
    · simp only [celF] at hs; omega
    · simp only [celF] at hs; omega
    · simp only [argCF] at hs; omega
  have z5b := hs0
  clear hs0
  obtain ⟨_, e0, f0⟩ := (H.out.pre (.head _)).one 18 (by omega)
  go_upto_region 7 with fail
  clear e0 f0
  replace H : Hid (Hold w (u6.setCell ⟨w.heap.size + 1 + 1, 18, none⟩ (.slice (some ⟨j, 0, none⟩) v.jn v.jn)) _) := H.out.put [.slice (some ⟨j, 0, none⟩) v.jn v.jn] rfl (by simp) (by omega) D6.out
  have hs0 : (u6.setCell ⟨w.heap.size + 1 + 1, 18, none⟩ (.slice (some ⟨j, 0, none⟩) v.jn v.jn)).heap.size = u6.heap.size := by simp
  generalize u6.setCell ⟨w.heap.size + 1 + 1, 18, none⟩ (.slice (some ⟨j, 0, none⟩) v.jn v.jn) = v6 at H hs0 ⊢
  obtain ⟨a', HA⟩ : ∃ a', Hid (a' = (⟨b, v.rn, b1, v.wn, b2, v.gn, some ⟨q, 0, none⟩, v.en, some ⟨j, 0, none⟩, v.jn⟩ : Ca)) := ⟨_, rfl⟩
  have R9 : Hid (v6.rangeAt (w.heap.size + 1 + 1) 0 (col v a')) := by rw [HA.out]; exact (H.out.pre (.head _)).at_
  have C9 := hid_mk (H.out.cel (.tail _ (.tail _ (.tail _ (.tail _ (.head _))))))
  have C2 := hid_mk (C9.out.sets (us := col v a') rfl)
  have B2 := hid_mk (below_sets (col v a') H.out.bel (r := w.heap.size + 1) (by omega))
  have hlv := hid_mk (lv_cor C2.out.range)
  have G9 := hid_mk (show Hold w v6 [intF j v.jn r.J, outVF 40 enl q v.en r.E, ansSF b b1 b2 v.rn v.wn v.gn r.R r.L r.G] from H.out.sub (fun f hf => by
    simp only [List.mem_cons, List.not_mem_nil, or_false] at hf ⊢
    rcases hf with rfl | rfl | rfl
    · exact .inr (.inl rfl)
    · exact .inr (.inr (.inl rfl))
    · exact .inr (.inr (.inr (.inl rfl)))))
  have G8 := hid_mk (G9.out.wrote (T := fun k => k = w.heap.size + 1) (KeptS.ofBut (KeepBut.setCells (b := w.heap.size + 1) (col v a') 0 v6) rfl) (fun k e => by omega) (fun f hf k hk e => by
    simp only [List.mem_cons, List.not_mem_nil, or_false] at hf
    rcases hf with rfl | rfl | rfl
    · simp only [intF] at hk; omega
    · simp only [outVF] at hk; omega
    · have := F2.out k hk; omega))
  have hI : (intF j v.jn r.J).p (v6.setCells (w.heap.size + 1) 0 (col v a')) := G8.out.at (.head _)
  have hE : (outVF 40 enl q v.en r.E).p (v6.setCells (w.heap.size + 1) 0 (col v a')) := G8.out.at (.tail _ (.head _))
  have hA : (ansSF b b1 b2 v.rn v.wn v.gn r.R r.L r.G).p (v6.setCells (w.heap.size + 1) 0 (col v a')) := G8.out.at (.tail _ (.tail _ (.head _)))
  have ANS : Hid (AnsC v a' r (v6.setCells (w.heap.size + 1) 0 (col v a'))) := by
    generalize v6.setCells (w.heap.size + 1) 0 (col v a') = w9 at hI hE hA ⊢
    rw [HA.out]
    exact ⟨hA, .inr ⟨q, rfl, hE.2, hE.1⟩, .inr ⟨j, rfl, hI.2, hI.1⟩,
      fun k hk h2 => by have := (on_some q k).1 hk; have := lA.out k h2; omega,
      fun k hk => ⟨fun h2 => by have := (on_some j k).1 hk; have := lA.out k h2; omega, fun h2 => by have := (on_some j k).1 hk; have := (on_some q k).1 h2; omega⟩⟩
  have CAP : Hid (CapC v a') := by rw [HA.out]; exact ⟨Nat.le_refl _, Nat.le_refl _, Nat.le_refl _, Nat.le_refl _, Nat.le_refl _, (fun h => by cases h), ⟨q, rfl⟩, ⟨j, rfl⟩⟩
  have FR : Hid (∀ k, OnC a' k → w.heap.size ≤ k) := fun k hk => by
    rw [HA.out] at hk
    rcases hk with hk | hk | hk
    · have := F2.out k hk; omega
    · have := (on_some q k).1 hk; omega
    · have := (on_some j k).1 hk; omega
  clear H D2 D3 D6 G9 G8 HA hI hE hA lA F2
  go_wp2_with (first | (refine wpList_load_mid (by rfl) 64 _ (by rfl) (w.heap.size + 1 + 1) 0 (by rfl) (col v a') _ R9.out Tryz.underlying64 rfl sizeCor ?_) | (refine wpList_store_mid (by rfl) 64 _ _ (by rfl) (w.heap.size + 1) 0 (col v a').toArray (by rfl) (by rfl) C9.out.there sizeCor (col_one v a') ?_))
  refine bodyPost_ret (v := .agg (col v a').toArray) (results_cell1 Tryz.results24 (by rfl) hlv.out) rfl (HQ.out a' _ ANS.out CAP.out FR.out B2.out)

set_option maxHeartbeats 4000000 in
theorem szCore_at (v : Cv) (a : Ca) (m : Int) (hm0 : 0 ≤ m) (hm1 : m ≤ 1048576) (h1 : v.rn ≤ maxLen) (h2 : v.wn ≤ maxLen) (h3 : v.gn ≤ maxLen) (h4 : v.en ≤ maxLen) (h5 : v.jn ≤ maxLen) (w : World) :
    Calls Tryz.prog 22 #[.agg (col v a).toArray, .int .i64 m] w fun e w' => e = .returned (.int .i64 (if (v.rn : Int) + (v.wn : Int) + (v.gn : Int) + (v.en : Int) + (v.jn : Int) ≤ m then m - (v.rn : Int) - (v.wn : Int) - (v.gn : Int) - (v.en : Int) - (v.jn : Int) else -1)) ∧ Below w.heap.size w w' := by
  have H : Hid (Hold w (w.alloc (.cells (col v a).toArray 60)) [celF w.heap.size (col v a)]) := (Hold.new w).box (col v a) 60 w.heap.size rfl
  have s1 := szState_at a.ra v.rn a.rc v.pc a.wa v.wn a.wc a.ga v.gn a.gc v.t m hm0 hm1 h1 h2 h3
  obtain ⟨z, Z⟩ : ∃ z, Hid (z = (if (v.rn : Int) + (v.wn : Int) + (v.gn : Int) + (v.en : Int) + (v.jn : Int) ≤ m then m - (v.rn : Int) - (v.wn : Int) - (v.gn : Int) - (v.en : Int) - (v.jn : Int) else -1)) := ⟨_, rfl⟩
  rw [← Z.out]
  generalize hw1 : w.alloc (.cells (col v a).toArray 60) = w1 at H
  go_enter Tryz.func22, Tryz.ntmps22
  go_upto_region 1 with fail
  clear hw1
  have d0 := (H.out.cel (.head _)).c 0 _ rfl
  have d1 := (H.out.cel (.head _)).c 1 _ rfl
  have d2 := (H.out.cel (.head _)).c 2 _ rfl
  have d3 := (H.out.cel (.head _)).c 3 _ rfl
  have d4 := (H.out.cel (.head _)).c 4 _ rfl
  have d5 := (H.out.cel (.head _)).c 5 _ rfl
  have d6 := (H.out.cel (.head _)).c 6 _ rfl
  have d7 := (H.out.cel (.head _)).c 7 _ rfl
  have d8 := (H.out.cel (.head _)).c 8 _ rfl
  have d9 := (H.out.cel (.head _)).c 9 _ rfl
  by_cases c1 : (v.rn : Int) + (v.wn : Int) + (v.gn : Int) ≤ m
  · obtain ⟨m1, hm, q0⟩ : ∃ m1 : Int, m1 = m - (v.rn : Int) - (v.wn : Int) - (v.gn : Int) ∧ 0 ≤ m1 := ⟨_, rfl, by omega⟩
    have q1 : m1 ≤ 1048576 := by omega
    simp only [if_pos c1, ← hm] at s1
    have S1 := hid_mk s1
    have HM1 := hid_mk hm
    have C1 := hid_mk c1
    clear s1 hm c1
    go_wp2_with fail
    refine (S1.out _).mono ?_
    rintro e w2 ⟨rfl, hb⟩
    replace H := hid_mk (H.out.next hb)
    clear hb S1 d0 d1 d2 d3 d4 d5 d6 d7 d8 d9
    have c10 := (H.out.cel (.head _)).c 10 _ rfl
    have s2 := fun wz => szEntryS_any a.ea v.en a.ec m1 wz q0 q1 h4
    by_cases c2 : (v.en : Int) ≤ m1
    · obtain ⟨m2, hm2, p0⟩ : ∃ m2 : Int, m2 = m1 - (v.en : Int) ∧ 0 ≤ m2 := ⟨_, rfl, by omega⟩
      have p1 : m2 ≤ 1048576 := by omega
      simp only [if_pos c2, ← hm2] at s2
      have S2 := hid_mk s2
      have HM2 := hid_mk hm2
      clear s2 hm2
      go_wp2_with fail
      refine (S2.out _).mono ?_
      rintro e w3 ⟨rfl, rfl⟩
      clear S2 c10
      have c18 := (H.out.cel (.head _)).c 18 _ rfl
      have s3 := fun wz => szIntS_any a.ja v.jn a.jc m2 wz p0 p1 h5
      by_cases c3 : (v.jn : Int) ≤ m2
      · obtain ⟨m3, hm3, p2⟩ : ∃ m3 : Int, m3 = m2 - (v.jn : Int) ∧ 0 ≤ m3 := ⟨_, rfl, by omega⟩
        simp only [if_pos c3, ← hm3] at s3
        have S3 := hid_mk s3
        have hz : z = m3 := by have e1 := HM1.out; have e2 := HM2.out; rw [Z.out, if_pos (by omega)]; omega
        clear s3 hm3
        subst hz
        have B := hid_mk H.out.bel
        clear H Z
        go_wp2_with fail
        refine (S3.out _).mono ?_
        rintro e w4 ⟨rfl, rfl⟩
        clear S3 c18
        go_wp2
        go_ret
        exact ⟨rfl, B.out⟩
      · simp only [if_neg c3] at s3
        have S3 := hid_mk s3
        have hz : z = -1 := by have e1 := HM1.out; have e2 := HM2.out; rw [Z.out, if_neg (by omega)]
        subst hz
        have B := hid_mk H.out.bel
        clear s3 H Z
        go_wp2_with fail
        refine (S3.out _).mono ?_
        rintro e w4 ⟨rfl, rfl⟩
        clear S3 c18
        go_wp2
        go_ret
        exact ⟨rfl, B.out⟩
    · simp only [if_neg c2] at s2
      have S2 := hid_mk s2
      have hz : z = -1 := by have e1 := HM1.out; rw [Z.out, if_neg (by omega)]
      subst hz
      have B := hid_mk H.out.bel
      clear s2 H Z
      go_wp2_with fail
      refine (S2.out _).mono ?_
      rintro e w3 ⟨rfl, rfl⟩
      clear S2 c10
      go_wp2
      go_ret
      exact ⟨rfl, B.out⟩
  · simp only [if_neg c1] at s1
    have S1 := hid_mk s1
    obtain rfl : z = -1 := by rw [Z.out, if_neg (by omega)]
    clear s1 Z
    go_wp2_with fail
    refine (S1.out _).mono ?_
    rintro e w2 ⟨rfl, hb⟩
    have B := hid_mk (H.out.next hb).bel
    clear hb S1 H d0 d1 d2 d3 d4 d5 d6 d7 d8 d9
    go_wp2
    go_ret
    exact ⟨rfl, B.out⟩

set_option maxHeartbeats 4000000 in
theorem eqCore_same (v : Cv) (a a' : Ca) (r : Cr) (w : World) (hS : CoS w v a r) (hS' : CoS w v a' r) :
    Calls Tryz.prog 26 #[.agg (col v a).toArray, .agg (col v a').toArray] w fun e w' => e = .returned (.bool true) ∧ Below w.heap.size w w' := by
  have H : Hid (Hold w ((w.alloc (.cells (col v a).toArray 64)).alloc (.cells (col v a').toArray 64)) [celF (w.heap.size + 1) (col v a'), celF w.heap.size (col v a), argCF w.heap.size v a r, argCF w.heap.size v a' r]) :=
    ((((Hold.new w).push (argCF w.heap.size v a' r) hS'.arg).push (argCF w.heap.size v a r) hS.arg).box (col v a) 64 w.heap.size rfl).box (col v a') 64 (w.heap.size + 1) (by simp)
  clear hS hS'
  have n1 := bne_b v.st
  generalize hw1 : (w.alloc (.cells (col v a).toArray 64)).alloc (.cells (col v a').toArray 64) = w1 at H
  go_enter Tryz.func26, Tryz.ntmps26
  go_upto_region 1 with fail
  clear hw1
  have p0 := (H.out.cel (.tail _ (.head _))).c 0 _ rfl
  have p1 := (H.out.cel (.tail _ (.head _))).c 1 _ rfl
  have p2 := (H.out.cel (.tail _ (.head _))).c 2 _ rfl
  have p3 := (H.out.cel (.tail _ (.head _))).c 3 _ rfl
  have p4 := (H.out.cel (.tail _ (.head _))).c 4 _ rfl
  have p5 := (H.out.cel (.tail _ (.head _))).c 5 _ rfl
  have p6 := (H.out.cel (.tail _ (.head _))).c 6 _ rfl
  have p7 := (H.out.cel (.tail _ (.head _))).c 7 _ rfl
  have p8 := (H.out.cel (.tail _ (.head _))).c 8 _ rfl
  have p9 := (H.out.cel (.tail _ (.head _))).c 9 _ rfl
  have q0 := (H.out.cel (.head _)).c 0 _ rfl
  have q1 := (H.out.cel (.head _)).c 1 _ rfl
  have q2 := (H.out.cel (.head _)).c 2 _ rfl
  have q3 := (H.out.cel (.head _)).c 3 _ rfl
  have q4 := (H.out.cel (.head _)).c 4 _ rfl
  have q5 := (H.out.cel (.head _)).c 5 _ rfl
  have q6 := (H.out.cel (.head _)).c 6 _ rfl
  have q7 := (H.out.cel (.head _)).c 7 _ rfl
  have q8 := (H.out.cel (.head _)).c 8 _ rfl
  have q9 := (H.out.cel (.head _)).c 9 _ rfl
  go_wp2_with fail
  refine (eqState_same _ _ _ _ _ _ _ _ _ _ _ _ _ _ _ _ _ r.R r.L r.G _ (H.out.argC (.tail _ (.tail _ (.head _)))).st (H.out.argC (.tail _ (.tail _ (.tail _ (.head _))))).st).mono ?_
  rintro e w2 ⟨rfl, hb⟩
  replace H := hid_mk (H.out.next hb)
  clear hb p0 p1 p2 p3 p4 p5 p6 p7 p8 p9 q0 q1 q2 q3 q4 q5 q6 q7 q8 q9
  have p10 := (H.out.cel (.tail _ (.head _))).c 10 _ rfl
  have q10 := (H.out.cel (.head _)).c 10 _ rfl
  go_wp2_with fail
  refine (eqEntryS_same _ _ _ _ _ r.E _ (H.out.argC (.tail _ (.tail _ (.head _)))).es (H.out.argC (.tail _ (.tail _ (.tail _ (.head _))))).es).mono ?_
  rintro e w3 ⟨rfl, hb⟩
  replace H := hid_mk (H.out.next hb)
  clear hb p10 q10
  have p11 := (H.out.cel (.tail _ (.head _))).c 11 _ rfl
  have p12 := (H.out.cel (.tail _ (.head _))).c 12 _ rfl
  have p13 := (H.out.cel (.tail _ (.head _))).c 13 _ rfl
  have p14 := (H.out.cel (.tail _ (.head _))).c 14 _ rfl
  have p15 := (H.out.cel (.tail _ (.head _))).c 15 _ rfl
  have p16 := (H.out.cel (.tail _ (.head _))).c 16 _ rfl
  have q11 := (H.out.cel (.head _)).c 11 _ rfl
  have q12 := (H.out.cel (.head _)).c 12 _ rfl
  have q13 := (H.out.cel (.head _)).c 13 _ rfl
  have q14 := (H.out.cel (.head _)).c 14 _ rfl
  have q15 := (H.out.cel (.head _)).c 15 _ rfl
  have q16 := (H.out.cel (.head _)).c 16 _ rfl
  go_wp2_with fail
  refine (eqWord_same v.nx.n v.nx.i v.nx.b v.nx.t v.nx.p v.nx.s _).mono ?_
  rintro e w4 ⟨rfl, hb⟩
  replace H := hid_mk (H.out.next hb)
  clear hb p11 p12 p13 p14 p15 p16 q11 q12 q13 q14 q15 q16
  have p17 := (H.out.cel (.tail _ (.head _))).c 17 _ rfl
  have p18 := (H.out.cel (.tail _ (.head _))).c 18 _ rfl
  have q17 := (H.out.cel (.head _)).c 17 _ rfl
  have q18 := (H.out.cel (.head _)).c 18 _ rfl
  go_wp2_with fail
  refine (eqIntS_same _ _ _ _ _ r.J _ (H.out.argC (.tail _ (.tail _ (.head _)))).js (H.out.argC (.tail _ (.tail _ (.tail _ (.head _))))).js).mono ?_
  rintro e w6 ⟨rfl, hb⟩
  have B := hid_mk (H.out.next hb).bel
  clear hb H p17 p18 q17 q18
  go_wp2
  go_ret
  exact ⟨rfl, B.out⟩
end Go.Proofs.YtpkhnajhamnggaaGreatDoor

namespace Go.Proofs.YtpkhnajhamnggaaGreatDoor
open Go.ChangeShapes Go.WideShapes Go.ChangeAt Go.RowKit
set_option maxRecDepth 100000

set_option maxHeartbeats 4000000 in
theorem specCoreOk_any (v : Cv) (a : Ca) (r : Cr) (w : World) (hS : CoS w v a r) :
    Calls Tryz.prog 57 #[.agg (col v a).toArray] w fun e w' => e = .returned (.bool (cokC v r)) ∧ Below w.heap.size w w' := by
  have H : Hid (Hold w (w.alloc (.cells (col v a).toArray 64)) [celF w.heap.size (col v a), argCF w.heap.size v a r]) := ((Hold.new w).push (argCF w.heap.size v a r) hS.arg).box (col v a) 64 w.heap.size rfl
  have hlE := hid_mk hS.es.2.1
  have hm := hS.es.1
  unfold maxLen at hm
  clear hS
  obtain ⟨z, Z⟩ : ∃ z, Hid (z = cokC v r) := ⟨_, rfl⟩
  rw [← Z.out]
  have Z1 : Hid (z = (r.E.all entB && (sokB r.R v.pc r.L r.G v.t && (decide (v.en ≤ 6) && (okW v.nx && gokB r.J))))) := Z.out
  clear Z
  generalize hw1 : w.alloc (.cells (col v a).toArray 64) = w1 at H
  go_enter Tryz.func57, Tryz.ntmps57
  go_upto_region 1 with fail
  clear hw1
  go_wp2
  go_loopw [3] (fun cc wr => ∃ k : Nat, k ≤ v.en ∧ cc = .int .i64 (k : Int) ∧ Hid ((r.E.take k).all entB = true) ∧ Hid (Hold w wr [celF w.heap.size (col v a), argCF w.heap.size v a r])) (fun cc _ => v.en - (intOf cc).toNat)
  case atStart => exact ⟨0, Nat.zero_le _, rfl, by simp [Hid], H.out⟩
  case round =>
    clear H
    obtain ⟨k, hk, rfl, AA, H⟩ := hrel
    by_cases hlt : k < v.en
    · obtain ⟨kb, o, x, hea, hkb, hx, hat⟩ := (H.out.argC (.tail _ (.head _))).es.at hlt
      have HX := hid_mk hx
      have RS := hid_mk hat
      have c10 := (H.out.cel (.head _)).c 10 _ rfl
      rw [hea] at c10
      have s2 := specEntry_any x
      have hO : Hid (entB x = entB x) := rfl
      obtain ⟨u, hu⟩ : ∃ u, Hid (entB x = u) := ⟨_, rfl⟩
      rw [hu.out] at s2
      have S2 := hid_mk s2
      clear hx hat s2 hO hea
      go_wp2_with (first | (refine wpList_load_mid (by rfl) 104 _ (by rfl) kb (o + k * 40) (by rfl) (enl x) _ RS.out Tryz.underlying104 rfl sizeEnt ?_) | (go_at_call 104; refine (S2.out _).mono ?_; rintro e w2 ⟨rfl, hb⟩; refine Hid.out ?_))
      refine Lib.hid ?_
      replace H := hid_mk (H.out.next hb)
      clear hb RS c10 S2
      cases u
      · have hz : z = false := by rw [Z1.out, allE_at HX.out hu.out]; rfl
        subst hz
        have B := hid_mk H.out.bel
        clear H
        go_wp2
        go_ret
        exact ⟨rfl, B.out⟩
      · go_wp2
        go_roundw
        case rel => exact ⟨k + 1, hlt, by go_num, allE_take HX.out AA.out hu.out, H.out⟩
        case measure => simp [intOf]; omega
    · obtain rfl : k = v.en := by omega
      have hall := hid_mk (allE_end (Nat.le_of_eq hlE.out) AA.out)
      rw [hall.out] at Z1
      clear AA hall
      have c0 := (H.out.cel (.head _)).c 0 _ rfl
      have c1 := (H.out.cel (.head _)).c 1 _ rfl
      have c2 := (H.out.cel (.head _)).c 2 _ rfl
      have c3 := (H.out.cel (.head _)).c 3 _ rfl
      have c4 := (H.out.cel (.head _)).c 4 _ rfl
      have c5 := (H.out.cel (.head _)).c 5 _ rfl
      have c6 := (H.out.cel (.head _)).c 6 _ rfl
      have c7 := (H.out.cel (.head _)).c 7 _ rfl
      have c8 := (H.out.cel (.head _)).c 8 _ rfl
      have c9 := (H.out.cel (.head _)).c 9 _ rfl
      have c10 := (H.out.cel (.head _)).c 10 _ rfl
      have s1 := specStateOk_any a.ra v.rn a.rc v.pc a.wa v.wn a.wc a.ga v.gn a.gc v.t r.R r.L r.G _ (H.out.argC (.tail _ (.head _))).st
      generalize sokB r.R v.pc r.L r.G v.t = u at s1 Z1
      have S1 := hid_mk s1
      clear s1
      cases u
      · have hz : z = false := by rw [Z1.out]; simp
        subst hz
        go_wp2_with (go_at_call 31; refine S1.out.mono ?_; rintro e w3 ⟨rfl, hb⟩; refine Hid.out ?_)
        refine Lib.hid ?_
        have B := hid_mk (H.out.next hb).bel
        clear hb S1 H c0 c1 c2 c3 c4 c5 c6 c7 c8 c9 c10
        go_wp2
        go_ret
        exact ⟨rfl, B.out⟩
      · by_cases h6 : v.en ≤ 6
        · rw [decide_eq_true h6] at Z1
          go_wp2_with (go_at_call 31; refine S1.out.mono ?_; rintro e w3 ⟨rfl, hb⟩; refine Hid.out ?_)
          refine Lib.hid ?_
          replace H := hid_mk (H.out.next hb)
          clear hb S1 c0 c1 c2 c3 c4 c5 c6 c7 c8 c9 c10
          have c10 := (H.out.cel (.head _)).c 10 _ rfl
          have c11 := (H.out.cel (.head _)).c 11 _ rfl
          have c12 := (H.out.cel (.head _)).c 12 _ rfl
          have c13 := (H.out.cel (.head _)).c 13 _ rfl
          have c14 := (H.out.cel (.head _)).c 14 _ rfl
          have c15 := (H.out.cel (.head _)).c 15 _ rfl
          have c16 := (H.out.cel (.head _)).c 16 _ rfl
          have s1 := specWordOk_any v.nx.n v.nx.i v.nx.b v.nx.t v.nx.p v.nx.s
          have hX : Hid (okW v.nx = wokB v.nx.n v.nx.i v.nx.b v.nx.t v.nx.p v.nx.s) := rfl
          generalize wokB v.nx.n v.nx.i v.nx.b v.nx.t v.nx.p v.nx.s = u at s1 hX
          rw [hX.out] at Z1
          have S1 := hid_mk s1
          clear s1 hX
          cases u
          · have hz : z = false := by rw [Z1.out]; simp
            subst hz
            go_wp2_with (go_at_call 72; refine (S1.out _).mono ?_; rintro e w7 ⟨rfl, hb⟩; refine Hid.out ?_)
            refine Lib.hid ?_
            have B := hid_mk (H.out.next hb).bel
            clear hb S1 H c11 c12 c13 c14 c15 c16
            go_wp2
            go_ret
            exact ⟨rfl, B.out⟩
          · go_wp2_with (go_at_call 72; refine (S1.out _).mono ?_; rintro e w7 ⟨rfl, hb⟩; refine Hid.out ?_)
            refine Lib.hid ?_
            replace H := hid_mk (H.out.next hb)
            clear hb S1 c11 c12 c13 c14 c15 c16
            have c18 := (H.out.cel (.head _)).c 18 _ rfl
            have s1 := specGuessOk_any a.ja v.jn a.jc r.J w7 (H.out.argC (.tail _ (.head _))).js
            have hz : z = gokB r.J := by rw [Z1.out]; simp
            rw [← hz] at s1
            have S1 := hid_mk s1
            clear s1 hz Z1
            go_wp2_with (go_at_call 105; refine S1.out.mono ?_; rintro e w8 ⟨rfl, hb⟩; refine Hid.out ?_)
            refine Lib.hid ?_
            have B := hid_mk (H.out.next hb).bel
            clear hb S1 H c18
            cases z
            all_goals
              go_wp2
              go_ret
              exact ⟨rfl, B.out⟩
        · rw [decide_eq_false h6] at Z1
          have hz : z = false := by rw [Z1.out]; simp
          subst hz
          go_wp2_with (go_at_call 31; refine S1.out.mono ?_; rintro e w3 ⟨rfl, hb⟩; refine Hid.out ?_)
          refine Lib.hid ?_
          replace H := hid_mk (H.out.next hb)
          clear hb S1 c0 c1 c2 c3 c4 c5 c6 c7 c8 c9 c10
          have c10 := (H.out.cel (.head _)).c 10 _ rfl
          have B := hid_mk H.out.bel
          clear H
          go_wp2
          go_ret
          exact ⟨rfl, B.out⟩

set_option maxHeartbeats 4000000 in
theorem implCoreOk_any (v : Cv) (a : Ca) (r : Cr) (w : World) (hS : CoS w v a r) :
    Calls Tryz.prog 62 #[.agg (col v a).toArray] w fun e w' => e = .returned (.bool (cokC v r)) ∧ Below w.heap.size w w' := by
  have H : Hid (Hold w (w.alloc (.cells (col v a).toArray 64)) [celF w.heap.size (col v a), argCF w.heap.size v a r]) := ((Hold.new w).push (argCF w.heap.size v a r) hS.arg).box (col v a) 64 w.heap.size rfl
  have hlE := hid_mk hS.es.2.1
  have hm := hS.es.1
  unfold maxLen at hm
  clear hS
  obtain ⟨z, Z⟩ : ∃ z, Hid (z = cokC v r) := ⟨_, rfl⟩
  rw [← Z.out]
  have Z1 : Hid (z = (r.E.all entB && (sokB r.R v.pc r.L r.G v.t && (decide (v.en ≤ 6) && (okW v.nx && gokB r.J))))) := Z.out
  clear Z
  generalize hw1 : w.alloc (.cells (col v a).toArray 64) = w1 at H
  go_enter Tryz.func62, Tryz.ntmps62
  go_upto_region 1 with fail
  clear hw1
  have c0 := (H.out.cel (.head _)).c 0 _ rfl
  have c1 := (H.out.cel (.head _)).c 1 _ rfl
  have c2 := (H.out.cel (.head _)).c 2 _ rfl
  have c3 := (H.out.cel (.head _)).c 3 _ rfl
  have c4 := (H.out.cel (.head _)).c 4 _ rfl
  have c5 := (H.out.cel (.head _)).c 5 _ rfl
  have c6 := (H.out.cel (.head _)).c 6 _ rfl
  have c7 := (H.out.cel (.head _)).c 7 _ rfl
  have c8 := (H.out.cel (.head _)).c 8 _ rfl
  have c9 := (H.out.cel (.head _)).c 9 _ rfl
  have c10 := (H.out.cel (.head _)).c 10 _ rfl
  have s1 := implStateOk_any a.ra v.rn a.rc v.pc a.wa v.wn a.wc a.ga v.gn a.gc v.t r.R r.L r.G _ (H.out.argC (.tail _ (.head _))).st
  generalize sokB r.R v.pc r.L r.G v.t = u at s1 Z1
  have S1 := hid_mk s1
  clear s1
  cases u
  · have hz : z = false := by rw [Z1.out]; simp
    subst hz
    go_wp2_with (go_at_call 41; refine S1.out.mono ?_; rintro e w3 ⟨rfl, hb⟩; refine Hid.out ?_)
    refine Lib.hid ?_
    have B := hid_mk (H.out.next hb).bel
    clear hb S1 H c0 c1 c2 c3 c4 c5 c6 c7 c8 c9 c10
    go_wp2
    go_ret
    exact ⟨rfl, B.out⟩
  · by_cases h6 : v.en ≤ 6
    · rw [decide_eq_true h6] at Z1
      obtain ⟨ea, HE⟩ : ∃ ea, Hid (a.ea = ea) := ⟨_, rfl⟩
      go_upto_region 3 with (go_at_call 41; refine S1.out.mono ?_; rintro e w3 ⟨rfl, hb⟩; replace H := hid_mk (H.out.next hb); clear hb S1 c0 c1 c2 c3 c4 c5 c6 c7 c8 c9 c10; have c10 := (H.out.cel (.head _)).c 10 _ rfl; rw [HE.out] at c10)
      go_wp2
      clear c10
      go_loopw [18] (fun cc wr => ∃ k : Nat, k ≤ v.en ∧ cc = .int .i64 (k : Int) ∧ Hid ((r.E.take k).all entB = true) ∧ Hid (Hold w wr [celF w.heap.size (col v a), argCF w.heap.size v a r])) (fun cc _ => v.en - (intOf cc).toNat)
      case atStart => exact ⟨0, Nat.zero_le _, rfl, by simp [Hid], H.out⟩
      case round =>
        clear H
        obtain ⟨k, hk, rfl, AA, H⟩ := hrel
        by_cases hlt : k < v.en
        · obtain ⟨kb, o, x, hea, hkb, hx, hat⟩ := (H.out.argC (.tail _ (.head _))).es.at hlt
          have HX := hid_mk hx
          have RS := hid_mk hat
          have he := HE.out.symm.trans hea
          subst he
          have s2 := implEntry_any x
          have hO : Hid (entB x = entB x) := rfl
          obtain ⟨u, hu⟩ : ∃ u, Hid (entB x = u) := ⟨_, rfl⟩
          rw [hu.out] at s2
          have S2 := hid_mk s2
          clear hx hat s2 hO hea
          have C0 := hid_mk (Cel.new wr [.int .i64 0, .bool false, .int .i64 0, .int .i64 0, .int .i64 0, .int .i64 0, .int .i64 0, .int .i64 0, .int .i64 0, .int .i64 0, .int .i64 0, .bool false, .int .i64 0, .int .i64 0, .int .i64 0, .bool false, .int .i64 0, .int .i64 0, .int .i64 0, .int .i64 0, .int .i64 0, .bool false, .int .i64 0, .int .i64 0, .int .i64 0, .int .i64 0, .int .i64 0, .int .i64 0, .bool false, .int .i64 0, .int .i64 0, .int .i64 0, .int .i64 0, .int .i64 0, .int .i64 0, .bool false, .int .i64 0, .int .i64 0, .int .i64 0, .int .i64 0] 104)
          have TH := hid_mk (C0.out.there)
          have RN := hid_mk (C0.out.sets (us := enl x) rfl).range
          have hb0 := below_sets (enl x) ((Below.refl _ wr).alloc (Nat.le_refl _) (.cells ([.int .i64 0, .bool false, .int .i64 0, .int .i64 0, .int .i64 0, .int .i64 0, .int .i64 0, .int .i64 0, .int .i64 0, .int .i64 0, .int .i64 0, .bool false, .int .i64 0, .int .i64 0, .int .i64 0, .bool false, .int .i64 0, .int .i64 0, .int .i64 0, .int .i64 0, .int .i64 0, .bool false, .int .i64 0, .int .i64 0, .int .i64 0, .int .i64 0, .int .i64 0, .int .i64 0, .bool false, .int .i64 0, .int .i64 0, .int .i64 0, .int .i64 0, .int .i64 0, .int .i64 0, .bool false, .int .i64 0, .int .i64 0, .int .i64 0, .int .i64 0] : List Value).toArray 104)) (Nat.le_refl _)
          replace H := hid_mk (H.out.next hb0)
          clear hb0 C0
          go_upto_region 6 with (first | (refine wpList_load_mid (by rfl) 104 _ (by rfl) kb (o + k * 40) (by rfl) (enl x) _ RS.out Tryz.underlying104 rfl sizeEnt ?_) | (refine wpList_store_mid (by rfl) 104 _ _ (by rfl) wr.heap.size 0 (enl x).toArray (by rfl) (by rfl) TH.out sizeEnt (enl_one x) ?_))
          clear TH
          generalize (wr.alloc (.cells ([.int .i64 0, .bool false, .int .i64 0, .int .i64 0, .int .i64 0, .int .i64 0, .int .i64 0, .int .i64 0, .int .i64 0, .int .i64 0, .int .i64 0, .bool false, .int .i64 0, .int .i64 0, .int .i64 0, .bool false, .int .i64 0, .int .i64 0, .int .i64 0, .int .i64 0, .int .i64 0, .bool false, .int .i64 0, .int .i64 0, .int .i64 0, .int .i64 0, .int .i64 0, .int .i64 0, .bool false, .int .i64 0, .int .i64 0, .int .i64 0, .int .i64 0, .int .i64 0, .int .i64 0, .bool false, .int .i64 0, .int .i64 0, .int .i64 0, .int .i64 0] : List Value).toArray 104)).setCells wr.heap.size 0 (enl x) = wa at H RN ⊢
          generalize wr.heap.size = ra at RN ⊢
          go_wp2_with (first | (refine wpList_load_mid (by rfl) 104 _ (by rfl) ra 0 (by rfl) (enl x) _ RN.out Tryz.underlying104 rfl sizeEnt ?_) | (go_at_call 107; refine (S2.out _).mono ?_; rintro e w2 ⟨rfl, hb⟩; refine Hid.out ?_))
          refine Lib.hid ?_
          replace H := hid_mk (H.out.next hb)
          clear hb RS S2 RN
          cases u
          · have hz : z = false := by rw [Z1.out, allE_at HX.out hu.out]; rfl
            subst hz
            have B := hid_mk H.out.bel
            clear H
            go_wp2
            go_ret
            exact ⟨rfl, B.out⟩
          · go_wp2
            go_roundw
            case rel => exact ⟨k + 1, hlt, by go_num, allE_take HX.out AA.out hu.out, H.out⟩
            case measure => simp [intOf]; omega
        · obtain rfl : k = v.en := by omega
          have hall := hid_mk (allE_end (Nat.le_of_eq hlE.out) AA.out)
          rw [hall.out] at Z1
          clear AA hall
          have c11 := (H.out.cel (.head _)).c 11 _ rfl
          have c12 := (H.out.cel (.head _)).c 12 _ rfl
          have c13 := (H.out.cel (.head _)).c 13 _ rfl
          have c14 := (H.out.cel (.head _)).c 14 _ rfl
          have c15 := (H.out.cel (.head _)).c 15 _ rfl
          have c16 := (H.out.cel (.head _)).c 16 _ rfl
          have s1 := implWordOk_any v.nx.n v.nx.i v.nx.b v.nx.t v.nx.p v.nx.s
          have hX : Hid (okW v.nx = wokB v.nx.n v.nx.i v.nx.b v.nx.t v.nx.p v.nx.s) := rfl
          generalize wokB v.nx.n v.nx.i v.nx.b v.nx.t v.nx.p v.nx.s = u at s1 hX
          rw [hX.out] at Z1
          have S1 := hid_mk s1
          clear s1 hX
          cases u
          · have hz : z = false := by rw [Z1.out]; simp
            subst hz
            go_wp2_with (go_at_call 86; refine (S1.out _).mono ?_; rintro e w7 ⟨rfl, hb⟩; refine Hid.out ?_)
            refine Lib.hid ?_
            have B := hid_mk (H.out.next hb).bel
            clear hb S1 H c11 c12 c13 c14 c15 c16
            go_wp2
            go_ret
            exact ⟨rfl, B.out⟩
          · go_wp2_with (go_at_call 86; refine (S1.out _).mono ?_; rintro e w7 ⟨rfl, hb⟩; refine Hid.out ?_)
            refine Lib.hid ?_
            replace H := hid_mk (H.out.next hb)
            clear hb S1 c11 c12 c13 c14 c15 c16
            have c18 := (H.out.cel (.head _)).c 18 _ rfl
            have s1 := implGuessOk_any a.ja v.jn a.jc r.J w7 (H.out.argC (.tail _ (.head _))).js
            have hz : z = gokB r.J := by rw [Z1.out]; simp
            rw [← hz] at s1
            have S1 := hid_mk s1
            clear s1 hz Z1
            go_wp2_with (go_at_call 108; refine S1.out.mono ?_; rintro e w8 ⟨rfl, hb⟩; refine Hid.out ?_)
            refine Lib.hid ?_
            have B := hid_mk (H.out.next hb).bel
            clear hb S1 H c18
            cases z
            all_goals
              go_wp2
              go_ret
              exact ⟨rfl, B.out⟩
    · rw [decide_eq_false h6] at Z1
      have hz : z = false := by rw [Z1.out]; simp
      subst hz
      go_wp2_with (go_at_call 41; refine S1.out.mono ?_; rintro e w3 ⟨rfl, hb⟩; refine Hid.out ?_)
      refine Lib.hid ?_
      replace H := hid_mk (H.out.next hb)
      clear hb S1 c0 c1 c2 c3 c4 c5 c6 c7 c8 c9 c10
      have c10 := (H.out.cel (.head _)).c 10 _ rfl
      have B := hid_mk H.out.bel
      clear H
      go_wp2
      go_ret
      exact ⟨rfl, B.out⟩
end Go.Proofs.YtpkhnajhamnggaaGreatDoor
