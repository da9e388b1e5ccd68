/- FnTry at every code, in a world that holds the program's four errors: the walk. -/
import Derived.Test.YtehmlneaahbdoaaDoorBig
import Derived.Test.YtehmlneaahbdoaaDoorDrawT
import Derived.Test.YtehmlneaahbdoaaDoorTMath
import Derived.Test.YtehmlneaahbdoaaDoorReach
import Derived.Test.YtehmlneaahbdoaaDoorWMath
import Derived.Test.YtehmlneaahbdoaaDoorWHold
import Derived.Test.YtehmlneaahbdoaaDoorKeyR
namespace Go.Proofs.YtehmlneaahbdoaaDoor
open Go.ChangeShapes Go.WideShapes Go.ChangeAt Go.RowKit

theorem try_big (a : Option Addr) (len cap : Nat) (w : World) (S : Hid (∀ w, Calls Tryd.prog 6 #[.slice a len cap] w fun e w' => e = .returned (.bool true) ∧ w' = w)) :
    Calls Tryd.prog 4 #[.slice a len cap] w fun e w' => e = .returned (.bool true) ∧ Below w.heap.size w w' := by
  go_enter Tryd.func4, Tryd.ntmps4
  go_wp2_with fail
  refine (S.out _).mono ?_
  rintro e w0 ⟨rfl, rfl⟩
  go_wp2
  go_ret
  exact ⟨rfl, Below.refl _ _⟩

set_option maxRecDepth 100000 in
set_option maxHeartbeats 40000000 in
theorem fnTry_walk (a : Option Addr) (len cap : Nat) (a0 a1 a2 a3 : Addr) (w : World) (hc : Code8 w.heap.size w a len) (hE : Errs a0 a1 a2 a3 w) :
    Calls Tryd.prog 4 #[.slice a len cap] w fun e w' => e = .returned (.bool true) ∧ Below w.heap.size w w' := by
  have C : Hid (Code8 w.heap.size w a len) := hc
  have E : Hid (Errs a0 a1 a2 a3 w) := hE
  have sb := big_any a len cap hc.1
  clear hc hE
  cases hbig : decide ((1048576 : Int) < len)
  case true =>
    rw [hbig] at sb
    exact try_big a len cap w sb
  rw [hbig] at sb
  have SB : Hid _ := sb
  clear sb hbig
  go_enter Tryd.func4, Tryd.ntmps4
  go_wp2_with fail
  refine (SB.out _).mono ?_
  rintro e w0 ⟨rfl, hw0⟩
  subst w0
  clear SB
  have H : Hid (Rws w [] w) := Rws.none (Below.refl _ _)
  go_wp2_with fail
  refine (drawTry_any (Code8.later C.out H.out.bel)).mono ?_
  rintro e w1 ⟨A0, A1, A2, A3, A4, A5, m, o, rfl, hb⟩
  have H := hid_mk ((H.out.next hb).push A0 A1 A2 A3 A4 A5 27)
  clear hb
  have s1 := implTry_any a0 a1 a2 a3 A0 A1 A2 A3 A4 A5 m o
  have s2 := specTry_any A0 A1 A2 A3 A4 A5 m o
  have s3 : tryZ A0 A1 A2 A3 A4 A5 m o = 0 → ∀ w', Errs a0 a1 a2 a3 w' → Calls Tryd.prog 15 #[.agg #[.int .i64 (A0 % 65536), .bool true, .int .i64 0, .int .i64 4096, .int .i64 63, .int .i64 0], .int .i64 m, .int .i64 o] w' fun e w'' => e = .returned (.int .i64 0) ∧ Below w'.heap.size w' w'' := fun h w' he => by
    have := implTry_any a0 a1 a2 a3 (A0 % 65536) true 0 4096 63 0 m o w' he
    rw [try_root h] at this
    exact this
  have s4 : tryZ A0 A1 A2 A3 A4 A5 m o = 0 → ∀ w', Errs a0 a1 a2 a3 w' → Calls Tryd.prog 15 #[.agg #[.int .i64 A0, .bool A1, .int .i64 A2, .int .i64 A3, .int .i64 A4, .int .i64 A5], .int .i64 m, .int .i64 0] w' fun e w'' => e = .returned (.int .i64 0) ∧ Below w'.heap.size w' w'' := fun h w' he => by
    have := implTry_any a0 a1 a2 a3 A0 A1 A2 A3 A4 A5 m 0 w' he
    rw [try_none h] at this
    exact this
  have s5 : tryZ A0 A1 A2 A3 A4 A5 m o = 0 → A1 = true ∧ A5 = 0 ∧ ¬ m < A2 ∧ ¬ A3 ≤ m := fun h => try_tells h
  have s6 := kw_root A0
  generalize tryZ A0 A1 A2 A3 A4 A5 m o = z at s1 s2 s3 s4 s5
  generalize A0 % 65536 = k at s3 s6
  have S1 : Hid _ := s1
  have S2 : Hid _ := s2
  have S3 : Hid _ := s3
  have S4 : Hid _ := s4
  have S5 : Hid _ := s5
  have S6 : Hid _ := s6
  clear s1 s2 s3 s4 s5 s6
  go_upto_region 4 with fail
  obtain ⟨rA, hrA⟩ : ∃ r, r = w1.heap.size := ⟨_, rfl⟩
  rw [← hrA] at H ⊢
  generalize w1.alloc (.cells #[.int .i64 A0, .bool A1, .int .i64 A2, .int .i64 A3, .int .i64 A4, .int .i64 A5] 27) = W at H ⊢
  clear hrA
  obtain ⟨_, c0, c1, c2, c3, c4, c5, _, _, _, _, _, _⟩ := H.out.at (r := rA) (.head _)
  go_wp2_with fail
  refine (S1.out _ (E.out.below H.out.bel)).mono ?_
  rintro e w2 ⟨rfl, hb⟩
  have H := hid_mk (H.out.next hb)
  clear hb c0 c1 c2 c3 c4 c5
  obtain ⟨_, c0, c1, c2, c3, c4, c5, _, _, _, _, _, _⟩ := H.out.at (r := rA) (.head _)
  go_wp2_with fail
  refine (S2.out _).mono ?_
  rintro e w3 ⟨rfl, hb⟩
  have H := hid_mk (H.out.next hb)
  clear hb c0 c1 c2 c3 c4 c5
  go_wp2_with fail
  refine (drawTaken_any (Code8.later C.out H.out.bel)).mono ?_
  rintro e w1 ⟨B0, B1, B2, B3, B4, B5, D0, D1, D2, D3, D4, D5, rfl, hb⟩
  have H := hid_mk (((H.out.next hb).push B0 B1 B2 B3 B4 B5 27).push D0 D1 D2 D3 D4 D5 27)
  rw [World.size_alloc] at H
  clear hb
  go_upto_region 8 with fail
  obtain ⟨rB, hrB⟩ : ∃ r, r = w1.heap.size := ⟨_, rfl⟩
  obtain ⟨rD, hrD⟩ : ∃ r, r = w1.heap.size + 1 := ⟨_, rfl⟩
  rw [← hrD] at H ⊢
  rw [← hrB] at H ⊢
  generalize (w1.alloc (.cells #[.int .i64 B0, .bool B1, .int .i64 B2, .int .i64 B3, .int .i64 B4, .int .i64 B5] 27)).alloc (.cells #[.int .i64 D0, .bool D1, .int .i64 D2, .int .i64 D3, .int .i64 D4, .int .i64 D5] 27) = W at H ⊢
  clear hrB hrD
  go_wp2_with fail
  refine (drawMayPut_any (Code8.later C.out H.out.bel)).mono ?_
  rintro e w1 ⟨F0, F1, F2, F3, F4, F5, G0, G1, G2, G3, G4, G5, rfl, hb⟩
  have H := hid_mk (((H.out.next hb).push F0 F1 F2 F3 F4 F5 27).push G0 G1 G2 G3 G4 G5 27)
  rw [World.size_alloc] at H
  clear hb
  go_upto_region 9 with fail
  obtain ⟨rF, hrF⟩ : ∃ r, r = w1.heap.size := ⟨_, rfl⟩
  obtain ⟨rG, hrG⟩ : ∃ r, r = w1.heap.size + 1 := ⟨_, rfl⟩
  rw [← hrG] at H ⊢
  rw [← hrF] at H ⊢
  generalize (w1.alloc (.cells #[.int .i64 F0, .bool F1, .int .i64 F2, .int .i64 F3, .int .i64 F4, .int .i64 F5] 27)).alloc (.cells #[.int .i64 G0, .bool G1, .int .i64 G2, .int .i64 G3, .int .i64 G4, .int .i64 G5] 27) = W at H ⊢
  clear hrF hrG
  have t1 := implTaken_any B0 B1 B2 B3 B4 B5 D0 D1 D2 D3 D4 D5
  have t2 := specTaken_any B0 B1 B2 B3 B4 B5 D0 D1 D2 D3 D4 D5
  obtain ⟨u0, u1, u2, u3, u4, u5, hV⟩ : ∃ (u0 : Int) (u1 : Bool) (u2 u3 u4 u5 : Int), (takV (bits .and .i64 B4 8 == 8) D0 D1 D2 D3 D4 D5) = .agg #[.int .i64 u0, .bool u1, .int .i64 u2, .int .i64 u3, .int .i64 u4, .int .i64 u5] := ⟨_, _, _, _, _, _, rfl⟩
  rw [hV] at t1 t2
  have t3 := implMayPut_any F0 F1 F2 F3 F4 F5 G0 G1 G2 G3 G4 G5
  have t4 := specMayPut_any F0 F1 F2 F3 F4 F5 G0 G1 G2 G3 G4 G5
  generalize putB F4 G1 = x at t3 t4
  have T1 : Hid _ := t1
  have T2 : Hid _ := t2
  have T3 : Hid _ := t3
  have T4 : Hid _ := t4
  clear t1 t2 t3 t4 hV
  have egw := eg_word
  have eqi := equalIn_word
  have eql := eql_word
  have neq := neq_word
  have ALL : Hid (∀ w', Rws w [(rG, (⟨G0, G1, G2, G3, G4, G5⟩ : Wd)), (rF, (⟨F0, F1, F2, F3, F4, F5⟩ : Wd)), (rD, (⟨D0, D1, D2, D3, D4, D5⟩ : Wd)), (rB, (⟨B0, B1, B2, B3, B4, B5⟩ : Wd)), (rA, (⟨A0, A1, A2, A3, A4, A5⟩ : Wd))] w' → w'.cell? ⟨rB, 0, none⟩ = some (.int .i64 B0) ∧ w'.cell? ⟨rB, 1, none⟩ = some (.bool B1) ∧ w'.cell? ⟨rB, 2, none⟩ = some (.int .i64 B2) ∧ w'.cell? ⟨rB, 3, none⟩ = some (.int .i64 B3) ∧ w'.cell? ⟨rB, 4, none⟩ = some (.int .i64 B4) ∧ w'.cell? ⟨rB, 5, none⟩ = some (.int .i64 B5) ∧ w'.cell? ⟨rD, 0, none⟩ = some (.int .i64 D0) ∧ w'.cell? ⟨rD, 1, none⟩ = some (.bool D1) ∧ w'.cell? ⟨rD, 2, none⟩ = some (.int .i64 D2) ∧ w'.cell? ⟨rD, 3, none⟩ = some (.int .i64 D3) ∧ w'.cell? ⟨rD, 4, none⟩ = some (.int .i64 D4) ∧ w'.cell? ⟨rD, 5, none⟩ = some (.int .i64 D5) ∧ w'.cell? ⟨rF, 0, none⟩ = some (.int .i64 F0) ∧ w'.cell? ⟨rF, 1, none⟩ = some (.bool F1) ∧ w'.cell? ⟨rF, 2, none⟩ = some (.int .i64 F2) ∧ w'.cell? ⟨rF, 3, none⟩ = some (.int .i64 F3) ∧ w'.cell? ⟨rF, 4, none⟩ = some (.int .i64 F4) ∧ w'.cell? ⟨rF, 5, none⟩ = some (.int .i64 F5) ∧ w'.cell? ⟨rG, 0, none⟩ = some (.int .i64 G0) ∧ w'.cell? ⟨rG, 1, none⟩ = some (.bool G1) ∧ w'.cell? ⟨rG, 2, none⟩ = some (.int .i64 G2) ∧ w'.cell? ⟨rG, 3, none⟩ = some (.int .i64 G3) ∧ w'.cell? ⟨rG, 4, none⟩ = some (.int .i64 G4) ∧ w'.cell? ⟨rG, 5, none⟩ = some (.int .i64 G5)) := fun w' h => by
    have hB := h.at (r := rB) (.tail _ (.tail _ (.tail _ (.head _))))
    have hD := h.at (r := rD) (.tail _ (.tail _ (.head _)))
    have hF := h.at (r := rF) (.tail _ (.head _))
    have hG := h.at (r := rG) (.head _)
    exact ⟨hB.c0, hB.c1, hB.c2, hB.c3, hB.c4, hB.c5, hD.c0, hD.c1, hD.c2, hD.c3, hD.c4, hD.c5, hF.c0, hF.c1, hF.c2, hF.c3, hF.c4, hF.c5, hG.c0, hG.c1, hG.c2, hG.c3, hG.c4, hG.c5⟩
  have D := hid_mk H.out.drew
  go_cut [55] (fun v wx => v = .bool false ∧ Hid (Rws w [(rG, (⟨G0, G1, G2, G3, G4, G5⟩ : Wd)), (rF, (⟨F0, F1, F2, F3, F4, F5⟩ : Wd)), (rD, (⟨D0, D1, D2, D3, D4, D5⟩ : Wd)), (rB, (⟨B0, B1, B2, B3, B4, B5⟩ : Wd)), (rA, (⟨A0, A1, A2, A3, A4, A5⟩ : Wd))] wx))
  case first =>
    go_region_held3 (fun w' => w'.cell? ⟨rB, 0, none⟩ = some (.int .i64 B0) ∧ w'.cell? ⟨rB, 1, none⟩ = some (.bool B1) ∧ w'.cell? ⟨rB, 2, none⟩ = some (.int .i64 B2) ∧ w'.cell? ⟨rB, 3, none⟩ = some (.int .i64 B3) ∧ w'.cell? ⟨rB, 4, none⟩ = some (.int .i64 B4) ∧ w'.cell? ⟨rB, 5, none⟩ = some (.int .i64 B5) ∧ w'.cell? ⟨rD, 0, none⟩ = some (.int .i64 D0) ∧ w'.cell? ⟨rD, 1, none⟩ = some (.bool D1) ∧ w'.cell? ⟨rD, 2, none⟩ = some (.int .i64 D2) ∧ w'.cell? ⟨rD, 3, none⟩ = some (.int .i64 D3) ∧ w'.cell? ⟨rD, 4, none⟩ = some (.int .i64 D4) ∧ w'.cell? ⟨rD, 5, none⟩ = some (.int .i64 D5) ∧ w'.cell? ⟨rF, 0, none⟩ = some (.int .i64 F0) ∧ w'.cell? ⟨rF, 1, none⟩ = some (.bool F1) ∧ w'.cell? ⟨rF, 2, none⟩ = some (.int .i64 F2) ∧ w'.cell? ⟨rF, 3, none⟩ = some (.int .i64 F3) ∧ w'.cell? ⟨rF, 4, none⟩ = some (.int .i64 F4) ∧ w'.cell? ⟨rF, 5, none⟩ = some (.int .i64 F5) ∧ w'.cell? ⟨rG, 0, none⟩ = some (.int .i64 G0) ∧ w'.cell? ⟨rG, 1, none⟩ = some (.bool G1) ∧ w'.cell? ⟨rG, 2, none⟩ = some (.int .i64 G2) ∧ w'.cell? ⟨rG, 3, none⟩ = some (.int .i64 G3) ∧ w'.cell? ⟨rG, 4, none⟩ = some (.int .i64 G4) ∧ w'.cell? ⟨rG, 5, none⟩ = some (.int .i64 G5))
      (((with_reducible apply ALL.out); (first | (with_reducible exact D.out) | (with_reducible exact H1.out) | (with_reducible exact H2.out) | (with_reducible exact H3.out) | (with_reducible exact H4.out) | fail)))
      (first
        | (go_at_call 20; refine (T1.out _).mono ?_; rintro e w3 ⟨rfl, hb⟩; have H1 := hid_mk (D.out.next hb); clear hb)
        | (go_at_call 21; refine (T2.out _).mono ?_; rintro e w4 ⟨rfl, hb⟩; have H2 := hid_mk (H1.out.next hb); clear hb)
        | (go_at_call 22; refine (T3.out _).mono ?_; rintro e w5 ⟨rfl, hb⟩; have H3 := hid_mk (H2.out.next hb); clear hb)
        | (go_at_call 23; refine (T4.out _).mono ?_; rintro e w6 ⟨rfl, hb⟩; have H4 := hid_mk (H3.out.next hb); clear hb))
    go_wp2_with fail
    go_meet
    case rel => exact ⟨by simp, H4.out⟩
  case' rest =>
    obtain ⟨rfl, H⟩ := hcut
    clear ALL D egw eqi eql neq T1 T2 T3 T4
  go_upto_region 11 with fail
  go_cut [82] (fun v wx => v = .bool false ∧ Hid (Rws w [(rG, (⟨G0, G1, G2, G3, G4, G5⟩ : Wd)), (rF, (⟨F0, F1, F2, F3, F4, F5⟩ : Wd)), (rD, (⟨D0, D1, D2, D3, D4, D5⟩ : Wd)), (rB, (⟨B0, B1, B2, B3, B4, B5⟩ : Wd)), (rA, (⟨A0, A1, A2, A3, A4, A5⟩ : Wd))] wx))
  case first =>
    obtain ⟨_, c0, c1, c2, c3, c4, c5, _, _, _, _, _, _⟩ := H.out.at (r := rA) (.tail _ (.tail _ (.tail _ (.tail _ (.head _)))))
    by_cases hz : z = 0
    · obtain ⟨i1, i2, i3, i4⟩ := S5.out hz
      subst hz i1 i2
      go_wp2_with fail
      go_meet
      case rel => exact ⟨by simp; omega, H.out⟩
    · go_wp2_with fail
      go_meet
      case rel => exact ⟨by simp, H.out⟩
  case' rest =>
    obtain ⟨rfl, H⟩ := hcut
  go_upto_region 13 with fail
  generalize wc = W at H ⊢
  have ALL : Hid (∀ w', Aft W w' → w'.cell? ⟨rA, 0, none⟩ = some (.int .i64 A0) ∧ Hid (Aft W w')) := fun w' h => by
    have hA := (H.out.next h.below).at (r := rA) (.tail _ (.tail _ (.tail _ (.tail _ (.head _)))))
    exact ⟨hA.c0, h⟩
  have GET : Hid (∀ w', w'.cell? ⟨rA, 0, none⟩ = some (.int .i64 A0) ∧ Hid (Aft W w') → Aft W w') := fun w' h => h.2
  have F0 : Hid (Aft W W.drew) := (Aft.refl _).drew
  go_cut [11] (fun v wx => ∃ q : Nat, v = .pointer (some ⟨q, 0, none⟩) ∧ Hid (Six wx q k true 0 4096 63 0) ∧ Hid (Aft W wx))
  case first =>
    go_region_held3 (fun w' => w'.cell? ⟨rA, 0, none⟩ = some (.int .i64 A0) ∧ Hid (Aft W w')) (first | (with_reducible assumption) | (((with_reducible refine ALL.out _ ?_); (first | (with_reducible apply F0.out) | ((with_reducible apply Aft.drew); (with_reducible apply Aft.alloc); (with_reducible exact Aft.refl _)) | ((with_reducible apply Aft.call ?_ K1.out); (with_reducible exact GET.out _ (by with_reducible assumption))) | ((with_reducible apply Aft.call ?_ K2.out); (with_reducible exact GET.out _ (by with_reducible assumption))) | ((with_reducible apply Aft.realloc (GET.out _ (by with_reducible assumption))); omega) | ((with_reducible apply Aft.alloc); (with_reducible exact GET.out _ (by with_reducible assumption))) | ((iterate 6 (with_reducible refine Aft.set ?_ (by omega))); (with_reducible exact GET.out _ (by with_reducible assumption))) | fail))))
      (first
        | (go_at_call 25; refine (implRoot_any _).mono ?_; rintro e w1 ⟨rfl, hb1⟩; have K1 : Hid _ := hb1; have l1 := hb1.size; (try simp at l1); (first | (with_reducible have Z1 := hid_mk ((Six.new _ 0 false 0 0 0 0 27).below hb1); obtain ⟨zl1, zc0, zc1, zc2, zc3, zc4, zc5, zf0, zf1, zf2, zf3, zf4, zf5⟩ := Z1.out) | (with_reducible have Z1 := hid_mk ((Six.new _ 0 false 0 0 0 0 27).drew.below hb1); obtain ⟨zl1, zc0, zc1, zc2, zc3, zc4, zc5, zf0, zf1, zf2, zf3, zf4, zf5⟩ := Z1.out) | skip); clear hb1)
        | (go_at_call 24; refine (S6.out _).mono ?_; rintro e w2 ⟨rfl, hb2⟩; have K2 : Hid _ := hb2; have l2 := hb2.size; (try simp at l2); (first | (have Z2 : Hid _ := Z1.out.below hb2; obtain ⟨zl2, zc0, zc1, zc2, zc3, zc4, zc5, zf0, zf1, zf2, zf3, zf4, zf5⟩ := Z2.out) | (with_reducible have Z2 := hid_mk ((Six.new _ 0 false 0 0 0 0 27).below hb2); obtain ⟨zl2, zc0, zc1, zc2, zc3, zc4, zc5, zf0, zf1, zf2, zf3, zf4, zf5⟩ := Z2.out) | (with_reducible have Z2 := hid_mk ((Six.new _ 0 false 0 0 0 0 27).drew.below hb2); obtain ⟨zl2, zc0, zc1, zc2, zc3, zc4, zc5, zf0, zf1, zf2, zf3, zf4, zf5⟩ := Z2.out) | skip); clear hb2))
    all_goals
      go_wp2_with fail
      go_meet
      case rel =>
        refine ⟨_, rfl, ⟨?_, by go_simp, by go_simp, by go_simp, by go_simp, by go_simp, by go_simp, by go_simp, by go_simp, by go_simp, by go_simp, by go_simp, by go_simp⟩, GET.out _ (by with_reducible assumption)⟩
        first | (simp; done) | (simp; omega)
  case' rest =>
    obtain ⟨q, rfl, Q, hA⟩ := hcut
    have H := hid_mk (H.out.next hA.out.below)
    clear ALL GET F0 hA
  by_cases hz : z = 0
  case neg =>
    go_wp2
    go_ret
    exact ⟨rfl, H.out.bel⟩
  subst hz
  obtain ⟨_, c0, c1, c2, c3, c4, c5, _, _, _, _, _, _⟩ := Q.out
  go_wp2_with fail
  refine (S3.out (by first | trivial | rfl) _ (E.out.below H.out.bel)).mono ?_
  rintro e w2 ⟨rfl, hb⟩
  have H := hid_mk (H.out.next hb)
  clear hb Q c0 c1 c2 c3 c4 c5
  obtain ⟨_, c0, c1, c2, c3, c4, c5, _, _, _, _, _, _⟩ := H.out.at (r := rA) (.tail _ (.tail _ (.tail _ (.tail _ (.head _)))))
  go_wp2_with fail
  refine (S4.out (by first | trivial | rfl) _ (E.out.below H.out.bel)).mono ?_
  rintro e w3 ⟨rfl, hb⟩
  have H := hid_mk (H.out.next hb)
  clear hb c0 c1 c2 c3 c4 c5
  go_wp2
  go_ret
  exact ⟨rfl, H.out.bel⟩
end Go.Proofs.YtehmlneaahbdoaaDoor
