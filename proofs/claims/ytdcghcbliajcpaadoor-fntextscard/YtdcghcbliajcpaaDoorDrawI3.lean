/- l6DrawCode: it returns a list of places in new memory, and turns nothing that was there but the cursor. -/
import Derived.Test.YtdcghcbliajcpaaDoorInsW
namespace Go.Proofs.YtdcghcbliajcpaaDoor
open Go.ChangeShapes Go.WideShapes Go.ChangeAt Go.RowKit

set_option maxRecDepth 100000 in
set_option maxHeartbeats 4000000 in
theorem d_code {B q : Nat} {w : World} {ad : Option Addr} {len cap : Nat} (d : Drawn B q w ad len cap) :
    Calls Tryd.prog 51 #[.pointer (some ⟨q, 0, none⟩)] w fun e w' => ∃ (v : Value) (L : List In), e = .returned v ∧ LstI w B q ad len cap v L w' ∧ 1 ≤ L.length ∧ L.length ≤ 19 := by
  have l0 := hid_mk (LstI.new d)
  clear d
  go_enter Tryd.func51, Tryd.ntmps51
  go_wp2_with fail
  refine (d_below 4 l0.out.d).mono ?_
  rintro e w1 ⟨x, rfl, _, _, d1, k1⟩
  have l1 := hid_mk (l0.out.moved d1 k1)
  clear d1 k1 l0
  obtain ⟨i0, hi, hz0, hz1, hz2⟩ := info_parts infoI
  have HI : Hid _ := hi
  have HZ0 : Hid _ := hz0
  have HZ1 : Hid _ := hz1
  have HZ2 : Hid _ := hz2
  clear hi hz0 hz1 hz2
  generalize Value.slice (some ⟨w.heap.size, 0, none⟩) 0 0 = v at l1 ⊢
  go_upto_block 0 with fail
  go_cut [3] (fun v wx => ∃ L : List In, L.length ≤ 5 ∧ Hid (LstI w B q ad len cap v L wx))
  case first =>
    cases g0 : (x == 0)
    · cases g1 : (x == 1)
      · cases g2 : (x == 2)
        · go_wp2
          go_meet
          case rel => exact ⟨_, by simp, l1.out⟩
        · have la := hid_mk (l1.out.alloc (.cells #[.int .i64 1, .int .i64 1, .int .i64 0, .int .i64 0, .int .i64 5, .int .i64 1, .int .i64 2, .int .i64 0, .int .i64 0, .int .i64 (-1), .int .i64 2, .int .i64 1, .int .i64 1, .int .i64 2, .int .i64 0, .int .i64 13, .int .i64 0, .int .i64 1, .int .i64 0, .int .i64 2, .int .i64 13, .int .i64 0, .int .i64 5, .int .i64 0, .int .i64 (-2)] 25))
          go_wp2_with (first
            | (at_builtin; refine wpList_append_own _ rfl _ _ 32 rfl w.heap.size 25 i0 _ 5 40 Tryd.underlying32 HI.out HZ0.out HZ1.out HZ2.out rfl (by decide) _ _ _ rfl la.out.own ⟨w1.heap.size, 0, none⟩ 5 5 (List.flatMap In.vs [⟨1, 1, 0, 0, 5⟩, ⟨1, 2, 0, 0, (-1)⟩, ⟨2, 1, 1, 2, 0⟩, ⟨13, 0, 1, 0, 2⟩, ⟨13, 0, 5, 0, (-2)⟩]) rfl (flat_lenI _) ?c1 (flat_one _) ?c3 ?c4 ?c5 ?_))
          case c1 => exact fun j u hj => new_cells _ _ _ j u hj
          case c3 => unfold maxLen; simp only [List.length_nil]; omega
          case c4 => simp only [List.length_nil]; omega
          case c5 => exact la.out.kb.size
          intro v' w5 own5 grow5 _
          have l9 := hid_mk (la.out.appended (X := [⟨1, 1, 0, 0, 5⟩, ⟨1, 2, 0, 0, (-1)⟩, ⟨2, 1, 1, 2, 0⟩, ⟨13, 0, 1, 0, 2⟩, ⟨13, 0, 5, 0, (-2)⟩]) own5 grow5)
          clear own5 grow5 la
          go_wp2
          go_meet
          case rel => exact ⟨_, by simp, l9.out⟩
      · have la := hid_mk (l1.out.alloc (.cells #[.int .i64 1, .int .i64 1, .int .i64 0, .int .i64 0, .int .i64 2, .int .i64 6, .int .i64 4, .int .i64 0, .int .i64 1, .int .i64 0, .int .i64 7, .int .i64 2, .int .i64 0, .int .i64 4, .int .i64 0, .int .i64 8, .int .i64 3, .int .i64 2, .int .i64 4, .int .i64 0] 25))
        go_wp2_with (first
          | (at_builtin; refine wpList_append_own _ rfl _ _ 32 rfl w.heap.size 25 i0 _ 5 40 Tryd.underlying32 HI.out HZ0.out HZ1.out HZ2.out rfl (by decide) _ _ _ rfl la.out.own ⟨w1.heap.size, 0, none⟩ 4 4 (List.flatMap In.vs [⟨1, 1, 0, 0, 2⟩, ⟨6, 4, 0, 1, 0⟩, ⟨7, 2, 0, 4, 0⟩, ⟨8, 3, 2, 4, 0⟩]) rfl (flat_lenI _) ?c1 (flat_one _) ?c3 ?c4 ?c5 ?_))
        case c1 => exact fun j u hj => new_cells _ _ _ j u hj
        case c3 => unfold maxLen; simp only [List.length_nil]; omega
        case c4 => simp only [List.length_nil]; omega
        case c5 => exact la.out.kb.size
        intro v' w5 own5 grow5 _
        have l9 := hid_mk (la.out.appended (X := [⟨1, 1, 0, 0, 2⟩, ⟨6, 4, 0, 1, 0⟩, ⟨7, 2, 0, 4, 0⟩, ⟨8, 3, 2, 4, 0⟩]) own5 grow5)
        clear own5 grow5 la
        go_wp2
        go_meet
        case rel => exact ⟨_, by simp, l9.out⟩
    · have la := hid_mk (l1.out.alloc (.cells #[.int .i64 1, .int .i64 1, .int .i64 0, .int .i64 0, .int .i64 3, .int .i64 5, .int .i64 2, .int .i64 0, .int .i64 1, .int .i64 0, .int .i64 11, .int .i64 0, .int .i64 0, .int .i64 2, .int .i64 1, .int .i64 10, .int .i64 3, .int .i64 0, .int .i64 0, .int .i64 1] 25))
      go_wp2_with (first
        | (at_builtin; refine wpList_append_own _ rfl _ _ 32 rfl w.heap.size 25 i0 _ 5 40 Tryd.underlying32 HI.out HZ0.out HZ1.out HZ2.out rfl (by decide) _ _ _ rfl la.out.own ⟨w1.heap.size, 0, none⟩ 4 4 (List.flatMap In.vs [⟨1, 1, 0, 0, 3⟩, ⟨5, 2, 0, 1, 0⟩, ⟨11, 0, 0, 2, 1⟩, ⟨10, 3, 0, 0, 1⟩]) rfl (flat_lenI _) ?c1 (flat_one _) ?c3 ?c4 ?c5 ?_))
      case c1 => exact fun j u hj => new_cells _ _ _ j u hj
      case c3 => unfold maxLen; simp only [List.length_nil]; omega
      case c4 => simp only [List.length_nil]; omega
      case c5 => exact la.out.kb.size
      intro v' w5 own5 grow5 _
      have l9 := hid_mk (la.out.appended (X := [⟨1, 1, 0, 0, 3⟩, ⟨5, 2, 0, 1, 0⟩, ⟨11, 0, 0, 2, 1⟩, ⟨10, 3, 0, 0, 1⟩]) own5 grow5)
      clear own5 grow5 la
      go_wp2
      go_meet
      case rel => exact ⟨_, by simp, l9.out⟩
  case rest =>
    clear l1
    obtain ⟨L, hL, l1⟩ := hcut
    go_wp2_with fail
    refine (d_below 14 l1.out.d).mono ?_
    rintro e w2 ⟨m, rfl, _, hm, d2, k2⟩
    obtain ⟨m0, m1⟩ := hm (by omega)
    have l2 := hid_mk (l1.out.moved d2 k2)
    clear d2 k2 hm l1
    go_wp2
    go_loopw [3, 5] (fun v c wr => ∃ (k : Nat) (L : List In), (k : Int) ≤ m ∧ L.length ≤ 5 + k ∧ c = .int .i64 k ∧ Hid (LstI w B q ad len cap v L wr)) (fun _ c _ => 14 - (intOf c).toNat)
    case atStart => exact ⟨0, L, by omega, by omega, rfl, l2.out⟩
    case round =>
      clear l2 hL
      obtain ⟨k, L, hk, hL, rfl, l2⟩ := hrel
      by_cases hlt : (k : Int) < m
      · go_wp2_with fail
        refine (d_ins l2.out.d).mono ?_
        rintro e w3 ⟨o, r, a, b, n, rfl, d3, k3⟩
        have l3 := hid_mk (l2.out.moved d3 k3)
        clear d3 k3 l2
        have la := hid_mk (l3.out.alloc (.cells #[.int .i64 o, .int .i64 r, .int .i64 a, .int .i64 b, .int .i64 n] 25))
        go_wp2_with (first
          | (at_builtin; refine wpList_append_own _ rfl _ _ 32 rfl w.heap.size 25 i0 _ 5 40 Tryd.underlying32 HI.out HZ0.out HZ1.out HZ2.out rfl (by decide) _ _ _ rfl la.out.own ⟨w3.heap.size, 0, none⟩ 1 1 (List.flatMap In.vs [⟨o, r, a, b, n⟩]) rfl (flat_lenI _) ?c1 (flat_one _) ?c3 ?c4 ?c5 ?_))
        case c1 => exact fun j u hj => new_cells _ _ _ j u hj
        case c3 => unfold maxLen; omega
        case c4 => omega
        case c5 => exact la.out.kb.size
        intro v' w5 own5 grow5 _
        have l9 := hid_mk (la.out.appended (X := [⟨o, r, a, b, n⟩]) own5 grow5)
        clear own5 grow5 la
        go_wp2
        go_roundw
        case rel => exact ⟨k + 1, _, by omega, by rw [List.length_append, List.length_singleton]; omega, by go_num, l9.out⟩
        case measure => simp [intOf]; omega
      · obtain ⟨w3, hw3⟩ : ∃ w3 : World, w3 = wr := ⟨_, rfl⟩
        rw [← hw3] at l2 ⊢
        clear hw3
        have la := hid_mk (l2.out.alloc (.cells #[.int .i64 15, .int .i64 0, .int .i64 0, .int .i64 0, .int .i64 0] 25))
        go_wp2_with (first
          | (at_builtin; refine wpList_append_own _ rfl _ _ 32 rfl w.heap.size 25 i0 _ 5 40 Tryd.underlying32 HI.out HZ0.out HZ1.out HZ2.out rfl (by decide) _ _ _ rfl la.out.own ⟨w3.heap.size, 0, none⟩ 1 1 (List.flatMap In.vs [⟨15, 0, 0, 0, 0⟩]) rfl (flat_lenI _) ?c1 (flat_one _) ?c3 ?c4 ?c5 ?_))
        case c1 => exact fun j u hj => hj
        case c3 => unfold maxLen; omega
        case c4 => omega
        case c5 => have hz := la.out.kb.size; rw [World.size_alloc] at hz; exact hz
        intro v' w5 own5 grow5 _
        have l9 := hid_mk (la.out.appended (X := [⟨15, 0, 0, 0, 0⟩]) own5 grow5)
        clear own5 grow5 la
        go_wp2
        go_ret
        exact ⟨_, _, rfl, l9.out, by rw [List.length_append, List.length_singleton]; omega, by rw [List.length_append, List.length_singleton]; omega⟩
end Go.Proofs.YtdcghcbliajcpaaDoor
