/- FnSealed at every code, in a world that holds the program's four errors: the walk. -/
import Derived.Test.YtehmlneaahbdoaaDoorBig
import Derived.Test.YtehmlneaahbdoaaDoorDrawD2
import Derived.Test.YtehmlneaahbdoaaDoorSealX
import Derived.Test.YtehmlneaahbdoaaDoorWMath
import Derived.Test.YtehmlneaahbdoaaDoorWHold
namespace Go.Proofs.YtehmlneaahbdoaaDoor
open Go.ChangeShapes Go.WideShapes Go.ChangeAt Go.RowKit

theorem field_is (n : Int) (i : Bool) (b t p s : Int) (w : World) : (Instr.field 27 (.agg #[.int .i64 n, .bool i, .int .i64 b, .int .i64 t, .int .i64 p, .int .i64 s]) 1).run Tryd.prog w = .ok (.bool i) w := by kernel_rfl
theorem sealed_big (a : Option Addr) (len cap : Nat) (w : World) (S : Hid (∀ w, Calls Tryd.prog 6 #[.slice a len cap] w fun e w' => e = .returned (.bool true) ∧ w' = w)) :
    Calls Tryd.prog 3 #[.slice a len cap] w fun e w' => e = .returned (.bool true) ∧ Below w.heap.size w w' := by
  go_enter Tryd.func3, Tryd.ntmps3
  go_wp2_with fail
  refine (S.out _).mono ?_
  rintro e w0 ⟨rfl, rfl⟩
  go_wp2
  go_ret
  exact ⟨rfl, Below.refl _ _⟩

set_option maxRecDepth 100000 in
set_option maxHeartbeats 40000000 in
theorem fnSealed_walk (a : Option Addr) (len cap : Nat) (a0 a1 a2 a3 : Addr) (w : World) (hc : Code8 w.heap.size w a len) (hE : Errs a0 a1 a2 a3 w) :
    Calls Tryd.prog 3 #[.slice a len cap] w fun e w' => e = .returned (.bool true) ∧ Below w.heap.size w w' := by
  have C : Hid (Code8 w.heap.size w a len) := hc
  have E : Hid (Errs a0 a1 a2 a3 w) := hE
  have sb := big_any a len cap hc.1
  clear hc hE
  cases hbig : decide ((1048576 : Int) < len)
  case true =>
    rw [hbig] at sb
    exact sealed_big a len cap w sb
  rw [hbig] at sb
  have SB : Hid _ := sb
  clear sb hbig
  go_enter Tryd.func3, Tryd.ntmps3
  go_wp2_with fail
  refine (SB.out _).mono ?_
  rintro e w0 ⟨rfl, hw0⟩
  subst w0
  clear SB
  have H : Hid (Rws w [] w) := Rws.none (Below.refl _ _)
  go_wp2_with fail
  refine (drawSealBy_any (Code8.later C.out H.out.bel)).mono ?_
  rintro e w1 ⟨A0, A1, A2, A3, A4, A5, B0, B1, B2, B3, B4, B5, rfl, hb⟩
  have H := hid_mk (((H.out.next hb).push A0 A1 A2 A3 A4 A5 27).push B0 B1 B2 B3 B4 B5 27)
  rw [World.size_alloc] at H
  clear hb C
  go_upto_region 4 with fail
  obtain ⟨rA, hrA⟩ : ∃ r, r = w1.heap.size := ⟨_, rfl⟩
  obtain ⟨rB, hrB⟩ : ∃ r, r = w1.heap.size + 1 := ⟨_, rfl⟩
  rw [← hrB] at H ⊢
  rw [← hrA] at H ⊢
  generalize (w1.alloc (.cells #[.int .i64 A0, .bool A1, .int .i64 A2, .int .i64 A3, .int .i64 A4, .int .i64 A5] 27)).alloc (.cells #[.int .i64 B0, .bool B1, .int .i64 B2, .int .i64 B3, .int .i64 B4, .int .i64 B5] 27) = W at H ⊢
  clear hrA hrB
  have egw := eg_word
  have eqi := equalIn_word
  have eql := eql_word
  have neq := neq_word
  have fld := field_is
  cases hs : openB A0 A1 A2 A3 A4 A5 && mayB B0 B1 B2 B3 B4 B5
  case false =>
    obtain ⟨k, q⟩ := nld_mk A0 A1 A2 A3 A4 A5 B0 B1 B2 B3 B4 B5 hs
    have Q := hid_mk q
    clear q hs
    obtain ⟨_, c0, c1, c2, c3, c4, c5, _, _, _, _, _, _⟩ := H.out.at (r := rA) (.tail _ (.head _))
    obtain ⟨_, d0, d1, d2, d3, d4, d5, _, _, _, _, _, _⟩ := H.out.at (r := rB) (.head _)
    go_wp2_with fail
    refine (Q.out.im _).mono ?_
    rintro e w2 ⟨rfl, hb⟩
    have H := hid_mk ((H.out.next hb).push k false 0 0 0 0 27)
    clear hb c0 c1 c2 c3 c4 c5 d0 d1 d2 d3 d4 d5
    go_upto_region 5 with fail
    obtain ⟨rS, hrS⟩ : ∃ r, r = w2.heap.size := ⟨_, rfl⟩
    rw [← hrS] at H ⊢
    generalize w2.alloc (.cells #[.int .i64 k, .bool false, .int .i64 0, .int .i64 0, .int .i64 0, .int .i64 0] 27) = W at H ⊢
    clear hrS
    have ALL : Hid (∀ w', Rws w [(rS, (⟨k, false, 0, 0, 0, 0⟩ : Wd)), (rB, (⟨B0, B1, B2, B3, B4, B5⟩ : Wd)), (rA, (⟨A0, A1, A2, A3, A4, A5⟩ : Wd))] w' → w'.cell? ⟨rS, 0, none⟩ = some (.int .i64 k) ∧ w'.cell? ⟨rS, 1, none⟩ = some (.bool false) ∧ w'.cell? ⟨rS, 2, none⟩ = some (.int .i64 0) ∧ w'.cell? ⟨rS, 3, none⟩ = some (.int .i64 0) ∧ w'.cell? ⟨rS, 4, none⟩ = some (.int .i64 0) ∧ w'.cell? ⟨rS, 5, none⟩ = some (.int .i64 0) ∧ w'.cell? ⟨rA, 0, none⟩ = some (.int .i64 A0) ∧ w'.cell? ⟨rA, 1, none⟩ = some (.bool A1) ∧ w'.cell? ⟨rA, 2, none⟩ = some (.int .i64 A2) ∧ w'.cell? ⟨rA, 3, none⟩ = some (.int .i64 A3) ∧ w'.cell? ⟨rA, 4, none⟩ = some (.int .i64 A4) ∧ w'.cell? ⟨rA, 5, none⟩ = some (.int .i64 A5) ∧ w'.cell? ⟨rB, 0, none⟩ = some (.int .i64 B0) ∧ w'.cell? ⟨rB, 1, none⟩ = some (.bool B1) ∧ w'.cell? ⟨rB, 2, none⟩ = some (.int .i64 B2) ∧ w'.cell? ⟨rB, 3, none⟩ = some (.int .i64 B3) ∧ w'.cell? ⟨rB, 4, none⟩ = some (.int .i64 B4) ∧ w'.cell? ⟨rB, 5, none⟩ = some (.int .i64 B5)) := fun w' h => by
      have hS := h.at (r := rS) (.head _)
      have hA := h.at (r := rA) (.tail _ (.tail _ (.head _)))
      have hB := h.at (r := rB) (.tail _ (.head _))
      exact ⟨hS.c0, hS.c1, hS.c2, hS.c3, hS.c4, hS.c5, hA.c0, hA.c1, hA.c2, hA.c3, hA.c4, hA.c5, hB.c0, hB.c1, hB.c2, hB.c3, hB.c4, hB.c5⟩
    have D := hid_mk H.out.drew
    go_cut [21] (fun v wx => v = .bool false ∧ Hid (Rws w [(rS, (⟨k, false, 0, 0, 0, 0⟩ : Wd)), (rB, (⟨B0, B1, B2, B3, B4, B5⟩ : Wd)), (rA, (⟨A0, A1, A2, A3, A4, A5⟩ : Wd))] wx))
    case first =>
      go_region_held3 (fun w' => w'.cell? ⟨rS, 0, none⟩ = some (.int .i64 k) ∧ w'.cell? ⟨rS, 1, none⟩ = some (.bool false) ∧ w'.cell? ⟨rS, 2, none⟩ = some (.int .i64 0) ∧ w'.cell? ⟨rS, 3, none⟩ = some (.int .i64 0) ∧ w'.cell? ⟨rS, 4, none⟩ = some (.int .i64 0) ∧ w'.cell? ⟨rS, 5, none⟩ = some (.int .i64 0) ∧ w'.cell? ⟨rA, 0, none⟩ = some (.int .i64 A0) ∧ w'.cell? ⟨rA, 1, none⟩ = some (.bool A1) ∧ w'.cell? ⟨rA, 2, none⟩ = some (.int .i64 A2) ∧ w'.cell? ⟨rA, 3, none⟩ = some (.int .i64 A3) ∧ w'.cell? ⟨rA, 4, none⟩ = some (.int .i64 A4) ∧ w'.cell? ⟨rA, 5, none⟩ = some (.int .i64 A5) ∧ w'.cell? ⟨rB, 0, none⟩ = some (.int .i64 B0) ∧ w'.cell? ⟨rB, 1, none⟩ = some (.bool B1) ∧ w'.cell? ⟨rB, 2, none⟩ = some (.int .i64 B2) ∧ w'.cell? ⟨rB, 3, none⟩ = some (.int .i64 B3) ∧ w'.cell? ⟨rB, 4, none⟩ = some (.int .i64 B4) ∧ w'.cell? ⟨rB, 5, none⟩ = some (.int .i64 B5))
        (((with_reducible apply ALL.out); (first | (with_reducible exact D.out) | (with_reducible exact H1.out) | fail)))
        (first
          | (go_at_call 9; refine (Q.out.sp _).mono ?_; rintro e x3 ⟨rfl, hb⟩; have H1 := hid_mk (D.out.next hb); clear hb))
      go_wp2_with fail
      go_meet
      case rel => exact ⟨by simp, H1.out⟩
    case' rest =>
      obtain ⟨rfl, H⟩ := hcut
      clear ALL D
    obtain ⟨_, c0, c1, c2, c3, c4, c5, _, _, _, _, _, _⟩ := H.out.at (r := rS) (.head _)
    go_upto_region 8 with fail
    clear c0 c1 c2 c3 c4 c5
    have ALL : Hid (∀ w', Rws w [(rS, (⟨k, false, 0, 0, 0, 0⟩ : Wd)), (rB, (⟨B0, B1, B2, B3, B4, B5⟩ : Wd)), (rA, (⟨A0, A1, A2, A3, A4, A5⟩ : Wd))] w' → w'.cell? ⟨rS, 0, none⟩ = some (.int .i64 k) ∧ w'.cell? ⟨rS, 1, none⟩ = some (.bool false) ∧ w'.cell? ⟨rS, 2, none⟩ = some (.int .i64 0) ∧ w'.cell? ⟨rS, 3, none⟩ = some (.int .i64 0) ∧ w'.cell? ⟨rS, 4, none⟩ = some (.int .i64 0) ∧ w'.cell? ⟨rS, 5, none⟩ = some (.int .i64 0) ∧ w'.cell? ⟨rA, 0, none⟩ = some (.int .i64 A0) ∧ w'.cell? ⟨rA, 1, none⟩ = some (.bool A1) ∧ w'.cell? ⟨rA, 2, none⟩ = some (.int .i64 A2) ∧ w'.cell? ⟨rA, 3, none⟩ = some (.int .i64 A3) ∧ w'.cell? ⟨rA, 4, none⟩ = some (.int .i64 A4) ∧ w'.cell? ⟨rA, 5, none⟩ = some (.int .i64 A5)) := fun w' h => by
      have hS := h.at (r := rS) (.head _)
      have hA := h.at (r := rA) (.tail _ (.tail _ (.head _)))
      exact ⟨hS.c0, hS.c1, hS.c2, hS.c3, hS.c4, hS.c5, hA.c0, hA.c1, hA.c2, hA.c3, hA.c4, hA.c5⟩
    have D := hid_mk H.out.drew
    go_region_held3 (fun w' => w'.cell? ⟨rS, 0, none⟩ = some (.int .i64 k) ∧ w'.cell? ⟨rS, 1, none⟩ = some (.bool false) ∧ w'.cell? ⟨rS, 2, none⟩ = some (.int .i64 0) ∧ w'.cell? ⟨rS, 3, none⟩ = some (.int .i64 0) ∧ w'.cell? ⟨rS, 4, none⟩ = some (.int .i64 0) ∧ w'.cell? ⟨rS, 5, none⟩ = some (.int .i64 0) ∧ w'.cell? ⟨rA, 0, none⟩ = some (.int .i64 A0) ∧ w'.cell? ⟨rA, 1, none⟩ = some (.bool A1) ∧ w'.cell? ⟨rA, 2, none⟩ = some (.int .i64 A2) ∧ w'.cell? ⟨rA, 3, none⟩ = some (.int .i64 A3) ∧ w'.cell? ⟨rA, 4, none⟩ = some (.int .i64 A4) ∧ w'.cell? ⟨rA, 5, none⟩ = some (.int .i64 A5))
      (((with_reducible apply ALL.out); (first | (with_reducible exact D.out) | (with_reducible exact H1.out) | fail)))
      (first
        | (go_at_call 10; refine (Q.out.ba _).mono ?_; rintro e x3 ⟨rfl, hb⟩; have H1 := hid_mk (D.out.next hb); clear hb))
    go_wp2
    go_ret
    exact ⟨by first | rfl | simp, H1.out.bel⟩
  case true =>
    obtain ⟨rfl, rfl, o, q⟩ := sld_mk a0 a1 a2 a3 A0 A1 A2 A3 A4 A5 B0 B1 B2 B3 B4 B5 hs
    have Q := hid_mk q
    clear q hs
    obtain ⟨_, c0, c1, c2, c3, c4, c5, _, _, _, _, _, _⟩ := H.out.at (r := rA) (.tail _ (.head _))
    obtain ⟨_, d0, d1, d2, d3, d4, d5, _, _, _, _, _, _⟩ := H.out.at (r := rB) (.head _)
    go_wp2_with fail
    refine (Q.out.im _).mono ?_
    rintro e w2 ⟨rfl, hb⟩
    have H := hid_mk ((H.out.next hb).push A0 true A2 A3 A4 B0 27)
    clear hb c0 c1 c2 c3 c4 c5 d0 d1 d2 d3 d4 d5
    go_upto_region 5 with fail
    obtain ⟨rS, hrS⟩ : ∃ r, r = w2.heap.size := ⟨_, rfl⟩
    rw [← hrS] at H ⊢
    generalize w2.alloc (.cells #[.int .i64 A0, .bool true, .int .i64 A2, .int .i64 A3, .int .i64 A4, .int .i64 B0] 27) = W at H ⊢
    clear hrS
    have ALL : Hid (∀ w', Rws w [(rS, (⟨A0, true, A2, A3, A4, B0⟩ : Wd)), (rB, (⟨B0, B1, B2, B3, B4, B5⟩ : Wd)), (rA, (⟨A0, true, A2, A3, A4, 0⟩ : Wd))] w' → w'.cell? ⟨rS, 0, none⟩ = some (.int .i64 A0) ∧ w'.cell? ⟨rS, 1, none⟩ = some (.bool true) ∧ w'.cell? ⟨rS, 2, none⟩ = some (.int .i64 A2) ∧ w'.cell? ⟨rS, 3, none⟩ = some (.int .i64 A3) ∧ w'.cell? ⟨rS, 4, none⟩ = some (.int .i64 A4) ∧ w'.cell? ⟨rS, 5, none⟩ = some (.int .i64 B0) ∧ w'.cell? ⟨rA, 0, none⟩ = some (.int .i64 A0) ∧ w'.cell? ⟨rA, 1, none⟩ = some (.bool true) ∧ w'.cell? ⟨rA, 2, none⟩ = some (.int .i64 A2) ∧ w'.cell? ⟨rA, 3, none⟩ = some (.int .i64 A3) ∧ w'.cell? ⟨rA, 4, none⟩ = some (.int .i64 A4) ∧ w'.cell? ⟨rA, 5, none⟩ = some (.int .i64 0) ∧ w'.cell? ⟨rB, 0, none⟩ = some (.int .i64 B0) ∧ w'.cell? ⟨rB, 1, none⟩ = some (.bool B1) ∧ w'.cell? ⟨rB, 2, none⟩ = some (.int .i64 B2) ∧ w'.cell? ⟨rB, 3, none⟩ = some (.int .i64 B3) ∧ w'.cell? ⟨rB, 4, none⟩ = some (.int .i64 B4) ∧ w'.cell? ⟨rB, 5, none⟩ = some (.int .i64 B5)) := fun w' h => by
      have hS := h.at (r := rS) (.head _)
      have hA := h.at (r := rA) (.tail _ (.tail _ (.head _)))
      have hB := h.at (r := rB) (.tail _ (.head _))
      exact ⟨hS.c0, hS.c1, hS.c2, hS.c3, hS.c4, hS.c5, hA.c0, hA.c1, hA.c2, hA.c3, hA.c4, hA.c5, hB.c0, hB.c1, hB.c2, hB.c3, hB.c4, hB.c5⟩
    have D := hid_mk H.out.drew
    go_cut [21] (fun v wx => v = .bool false ∧ Hid (Rws w [(rS, (⟨A0, true, A2, A3, A4, B0⟩ : Wd)), (rB, (⟨B0, B1, B2, B3, B4, B5⟩ : Wd)), (rA, (⟨A0, true, A2, A3, A4, 0⟩ : Wd))] wx))
    case first =>
      go_region_held3 (fun w' => w'.cell? ⟨rS, 0, none⟩ = some (.int .i64 A0) ∧ w'.cell? ⟨rS, 1, none⟩ = some (.bool true) ∧ w'.cell? ⟨rS, 2, none⟩ = some (.int .i64 A2) ∧ w'.cell? ⟨rS, 3, none⟩ = some (.int .i64 A3) ∧ w'.cell? ⟨rS, 4, none⟩ = some (.int .i64 A4) ∧ w'.cell? ⟨rS, 5, none⟩ = some (.int .i64 B0) ∧ w'.cell? ⟨rA, 0, none⟩ = some (.int .i64 A0) ∧ w'.cell? ⟨rA, 1, none⟩ = some (.bool true) ∧ w'.cell? ⟨rA, 2, none⟩ = some (.int .i64 A2) ∧ w'.cell? ⟨rA, 3, none⟩ = some (.int .i64 A3) ∧ w'.cell? ⟨rA, 4, none⟩ = some (.int .i64 A4) ∧ w'.cell? ⟨rA, 5, none⟩ = some (.int .i64 0) ∧ w'.cell? ⟨rB, 0, none⟩ = some (.int .i64 B0) ∧ w'.cell? ⟨rB, 1, none⟩ = some (.bool B1) ∧ w'.cell? ⟨rB, 2, none⟩ = some (.int .i64 B2) ∧ w'.cell? ⟨rB, 3, none⟩ = some (.int .i64 B3) ∧ w'.cell? ⟨rB, 4, none⟩ = some (.int .i64 B4) ∧ w'.cell? ⟨rB, 5, none⟩ = some (.int .i64 B5))
        (((with_reducible apply ALL.out); (first | (with_reducible exact D.out) | (with_reducible exact H1.out) | fail)))
        (first
          | (go_at_call 9; refine (Q.out.sp _).mono ?_; rintro e x3 ⟨rfl, hb⟩; have H1 := hid_mk (D.out.next hb); clear hb))
      go_wp2_with fail
      go_meet
      case rel => exact ⟨by simp, H1.out⟩
    case' rest =>
      obtain ⟨rfl, H⟩ := hcut
      clear ALL D
    obtain ⟨_, c0, c1, c2, c3, c4, c5, _, _, _, _, _, _⟩ := H.out.at (r := rS) (.head _)
    go_upto_region 9 with fail
    clear c0 c1 c2 c3 c4 c5
    obtain ⟨_, d0, d1, d2, d3, d4, d5, _, _, _, _, _, _⟩ := H.out.at (r := rB) (.tail _ (.head _))
    go_wp2_with fail
    refine (Q.out.pt _).mono ?_
    rintro e w2 ⟨rfl, hb⟩
    have H := hid_mk ((H.out.next hb).push o true B2 B3 B4 B5 27)
    clear hb d0 d1 d2 d3 d4 d5
    go_upto_region 10 with fail
    obtain ⟨rO, hrO⟩ : ∃ r, r = w2.heap.size := ⟨_, rfl⟩
    rw [← hrO] at H ⊢
    generalize w2.alloc (.cells #[.int .i64 o, .bool true, .int .i64 B2, .int .i64 B3, .int .i64 B4, .int .i64 B5] 27) = W at H ⊢
    clear hrO
    have ALL : Hid (∀ w', Rws w [(rO, (⟨o, true, B2, B3, B4, B5⟩ : Wd)), (rS, (⟨A0, true, A2, A3, A4, B0⟩ : Wd)), (rB, (⟨B0, B1, B2, B3, B4, B5⟩ : Wd)), (rA, (⟨A0, true, A2, A3, A4, 0⟩ : Wd))] w' → w'.cell? ⟨rS, 0, none⟩ = some (.int .i64 A0) ∧ w'.cell? ⟨rS, 1, none⟩ = some (.bool true) ∧ w'.cell? ⟨rS, 2, none⟩ = some (.int .i64 A2) ∧ w'.cell? ⟨rS, 3, none⟩ = some (.int .i64 A3) ∧ w'.cell? ⟨rS, 4, none⟩ = some (.int .i64 A4) ∧ w'.cell? ⟨rS, 5, none⟩ = some (.int .i64 B0) ∧ w'.cell? ⟨rB, 0, none⟩ = some (.int .i64 B0) ∧ w'.cell? ⟨rB, 1, none⟩ = some (.bool B1) ∧ w'.cell? ⟨rB, 2, none⟩ = some (.int .i64 B2) ∧ w'.cell? ⟨rB, 3, none⟩ = some (.int .i64 B3) ∧ w'.cell? ⟨rB, 4, none⟩ = some (.int .i64 B4) ∧ w'.cell? ⟨rB, 5, none⟩ = some (.int .i64 B5) ∧ w'.cell? ⟨rA, 0, none⟩ = some (.int .i64 A0) ∧ w'.cell? ⟨rA, 1, none⟩ = some (.bool true) ∧ w'.cell? ⟨rA, 2, none⟩ = some (.int .i64 A2) ∧ w'.cell? ⟨rA, 3, none⟩ = some (.int .i64 A3) ∧ w'.cell? ⟨rA, 4, none⟩ = some (.int .i64 A4) ∧ w'.cell? ⟨rA, 5, none⟩ = some (.int .i64 0) ∧ w'.cell? ⟨rO, 0, none⟩ = some (.int .i64 o) ∧ w'.cell? ⟨rO, 1, none⟩ = some (.bool true) ∧ w'.cell? ⟨rO, 2, none⟩ = some (.int .i64 B2) ∧ w'.cell? ⟨rO, 3, none⟩ = some (.int .i64 B3) ∧ w'.cell? ⟨rO, 4, none⟩ = some (.int .i64 B4) ∧ w'.cell? ⟨rO, 5, none⟩ = some (.int .i64 B5)) := fun w' h => by
      have hS := h.at (r := rS) (.tail _ (.head _))
      have hB := h.at (r := rB) (.tail _ (.tail _ (.head _)))
      have hA := h.at (r := rA) (.tail _ (.tail _ (.tail _ (.head _))))
      have hO := h.at (r := rO) (.head _)
      exact ⟨hS.c0, hS.c1, hS.c2, hS.c3, hS.c4, hS.c5, hB.c0, hB.c1, hB.c2, hB.c3, hB.c4, hB.c5, hA.c0, hA.c1, hA.c2, hA.c3, hA.c4, hA.c5, hO.c0, hO.c1, hO.c2, hO.c3, hO.c4, hO.c5⟩
    have D := hid_mk H.out.drew
    go_region_held3 (fun w' => w'.cell? ⟨rS, 0, none⟩ = some (.int .i64 A0) ∧ w'.cell? ⟨rS, 1, none⟩ = some (.bool true) ∧ w'.cell? ⟨rS, 2, none⟩ = some (.int .i64 A2) ∧ w'.cell? ⟨rS, 3, none⟩ = some (.int .i64 A3) ∧ w'.cell? ⟨rS, 4, none⟩ = some (.int .i64 A4) ∧ w'.cell? ⟨rS, 5, none⟩ = some (.int .i64 B0) ∧ w'.cell? ⟨rB, 0, none⟩ = some (.int .i64 B0) ∧ w'.cell? ⟨rB, 1, none⟩ = some (.bool B1) ∧ w'.cell? ⟨rB, 2, none⟩ = some (.int .i64 B2) ∧ w'.cell? ⟨rB, 3, none⟩ = some (.int .i64 B3) ∧ w'.cell? ⟨rB, 4, none⟩ = some (.int .i64 B4) ∧ w'.cell? ⟨rB, 5, none⟩ = some (.int .i64 B5) ∧ w'.cell? ⟨rA, 0, none⟩ = some (.int .i64 A0) ∧ w'.cell? ⟨rA, 1, none⟩ = some (.bool true) ∧ w'.cell? ⟨rA, 2, none⟩ = some (.int .i64 A2) ∧ w'.cell? ⟨rA, 3, none⟩ = some (.int .i64 A3) ∧ w'.cell? ⟨rA, 4, none⟩ = some (.int .i64 A4) ∧ w'.cell? ⟨rA, 5, none⟩ = some (.int .i64 0) ∧ w'.cell? ⟨rO, 0, none⟩ = some (.int .i64 o) ∧ w'.cell? ⟨rO, 1, none⟩ = some (.bool true) ∧ w'.cell? ⟨rO, 2, none⟩ = some (.int .i64 B2) ∧ w'.cell? ⟨rO, 3, none⟩ = some (.int .i64 B3) ∧ w'.cell? ⟨rO, 4, none⟩ = some (.int .i64 B4) ∧ w'.cell? ⟨rO, 5, none⟩ = some (.int .i64 B5))
      (((with_reducible apply ALL.out); (first | (with_reducible exact D.out) | (with_reducible exact H1.out) | (with_reducible exact H2.out) | (with_reducible exact H3.out) | (with_reducible exact H4.out) | (with_reducible exact H5.out) | (with_reducible exact H6.out) | (with_reducible exact H7.out) | fail)))
      (first
        | (go_at_call_of 12 (Value.bool B1); refine (Q.out.o1 _).mono ?_; rintro e x3 ⟨rfl, hb⟩; have H1 := hid_mk (D.out.next hb); clear hb)
        | (go_at_call_of 12 (Value.int IntKind.i64 o); refine (Q.out.o2 _).mono ?_; rintro e x4 ⟨rfl, hb⟩; have H2 := hid_mk (H1.out.next hb); clear hb)
        | (go_at_call 13; refine (Q.out.wk _).mono ?_; rintro e x5 ⟨rfl, hb⟩; have H3 := hid_mk (H2.out.next hb); clear hb)
        | (go_at_call 14; refine (Q.out.nr _).mono ?_; rintro e x6 ⟨rfl, hb⟩; have H4 := hid_mk (H3.out.next hb); clear hb)
        | (go_at_call 11; refine (Q.out.p2 _).mono ?_; rintro e x7 ⟨rfl, hb⟩; have H5 := hid_mk (H4.out.next hb); clear hb)
        | (go_at_call 8; refine (Q.out.sb _).mono ?_; rintro e x8 ⟨rfl, hb⟩; have H6 := hid_mk (H5.out.next hb); clear hb)
        | (go_at_call 15; refine (Q.out.tr _ (E.out.below H6.out.bel)).mono ?_; rintro e x9 ⟨rfl, hb⟩; have H7 := hid_mk (H6.out.next hb); clear hb))
    go_wp2
    go_ret
    exact ⟨by first | rfl | simp, H7.out.bel⟩
end Go.Proofs.YtehmlneaahbdoaaDoor
