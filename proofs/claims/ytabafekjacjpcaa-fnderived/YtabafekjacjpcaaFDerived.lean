/- FnDerived at every code: the walk. -/
import Derived.Test.YtabafekjacjpcaaBig
import Derived.Test.YtabafekjacjpcaaDrawD2
import Derived.Test.YtabafekjacjpcaaDBoth
import Derived.Test.YtabafekjacjpcaaWHold
namespace Go.Proofs.Ytabafekjacjpcaa
open Go.ChangeShapes Go.WideShapes Go.ChangeAt Go.RowKit

theorem big_true (a : Option Addr) (len cap : Nat) (w : World) (S : Hid (∀ w, Calls Try.prog 9 #[.slice a len cap] w fun e w' => e = .returned (.bool true) ∧ w' = w)) :
    Calls Try.prog 3 #[.slice a len cap] w fun e w' => e = .returned (.bool true) ∧ Below w.heap.size w w' := by
  go_enter Try.func3, Try.ntmps3
  go_wp2_with fail
  refine (S.out _).mono ?_
  rintro e w0 ⟨rfl, rfl⟩
  go_wp2
  go_ret
  exact ⟨rfl, Below.refl _ _⟩

set_option maxRecDepth 100000 in
set_option maxHeartbeats 40000000 in
theorem fnDerived_walk (a : Option Addr) (len cap : Nat) (w : World) (hc : Code8 w.heap.size w a len) :
    Calls Try.prog 3 #[.slice a len cap] w fun e w' => e = .returned (.bool true) ∧ Below w.heap.size w w' := by
  have C : Hid (Code8 w.heap.size w a len) := hc
  have sb := big_any a len cap hc.1
  clear hc
  cases hbig : decide ((1048576 : Int) < len)
  case true =>
    rw [hbig] at sb
    exact big_true a len cap w sb
  rw [hbig] at sb
  have SB : Hid _ := sb
  clear sb hbig
  go_enter Try.func3, Try.ntmps3
  go_wp2_with fail
  refine (SB.out _).mono ?_
  rintro e w0 ⟨rfl, hw0⟩
  subst w0
  clear SB
  have H : Hid (Rws w [] w) := Rws.none (Below.refl _ _)
  -- Weaken
  go_wp2_with fail
  refine (drawWeaken_any (Code8.later C.out H.out.bel)).mono ?_
  rintro e w1 ⟨A0, A1, A2, A3, A4, A5, ma, rfl, hb⟩
  have H := hid_mk ((H.out.next hb).push A0 A1 A2 A3 A4 A5 27)
  clear hb
  obtain ⟨B0, B1, B2, B3, B4, B5, QB⟩ := both_weaken A0 A1 A2 A3 A4 A5 ma
  have QB := hid_mk QB
  go_upto_region 4 with fail
  obtain ⟨rA, hrA⟩ : ∃ r, r = w1.heap.size := ⟨_, rfl⟩
  rw [← hrA] at H ⊢
  generalize w1.alloc (.cells #[.int .i64 A0, .bool A1, .int .i64 A2, .int .i64 A3, .int .i64 A4, .int .i64 A5] 27) = W at H ⊢
  clear hrA
  obtain ⟨_, c0, c1, c2, c3, c4, c5, _, _, _, _, _, _⟩ := H.out.at (r := rA) (.head _)
  go_wp2_with fail
  refine (QB.out.im _).mono ?_
  rintro e w2 ⟨rfl, hb⟩
  have H := hid_mk ((H.out.next hb).push B0 B1 B2 B3 B4 B5 27)
  clear hb c0 c1 c2 c3 c4 c5
  go_upto_region 5 with fail
  obtain ⟨rB, hrB⟩ : ∃ r, r = w2.heap.size := ⟨_, rfl⟩
  rw [← hrB] at H ⊢
  generalize w2.alloc (.cells #[.int .i64 B0, .bool B1, .int .i64 B2, .int .i64 B3, .int .i64 B4, .int .i64 B5] 27) = W at H ⊢
  clear hrB
  -- Narrow
  go_wp2_with fail
  refine (drawNarrow_any (Code8.later C.out H.out.bel)).mono ?_
  rintro e w1 ⟨D0, D1, D2, D3, D4, D5, md, rfl, hb⟩
  have H := hid_mk ((H.out.next hb).push D0 D1 D2 D3 D4 D5 27)
  clear hb
  obtain ⟨E0, E1, E2, E3, E4, E5, QE⟩ := both_narrow D0 D1 D2 D3 D4 D5 md
  have QE := hid_mk QE
  go_upto_region 6 with fail
  obtain ⟨rD, hrD⟩ : ∃ r, r = w1.heap.size := ⟨_, rfl⟩
  rw [← hrD] at H ⊢
  generalize w1.alloc (.cells #[.int .i64 D0, .bool D1, .int .i64 D2, .int .i64 D3, .int .i64 D4, .int .i64 D5] 27) = W at H ⊢
  clear hrD
  obtain ⟨_, c0, c1, c2, c3, c4, c5, _, _, _, _, _, _⟩ := H.out.at (r := rD) (.head _)
  go_wp2_with fail
  refine (QE.out.im _).mono ?_
  rintro e w2 ⟨rfl, hb⟩
  have H := hid_mk ((H.out.next hb).push E0 E1 E2 E3 E4 E5 27)
  clear hb c0 c1 c2 c3 c4 c5
  go_upto_region 7 with fail
  obtain ⟨rE, hrE⟩ : ∃ r, r = w2.heap.size := ⟨_, rfl⟩
  rw [← hrE] at H ⊢
  generalize w2.alloc (.cells #[.int .i64 E0, .bool E1, .int .i64 E2, .int .i64 E3, .int .i64 E4, .int .i64 E5] 27) = W at H ⊢
  clear hrE
  -- Point
  go_wp2_with fail
  refine (drawPoint_any (Code8.later C.out H.out.bel)).mono ?_
  rintro e w1 ⟨F0, F1, F2, F3, F4, F5, mf, rfl, hb⟩
  have H := hid_mk ((H.out.next hb).push F0 F1 F2 F3 F4 F5 27)
  clear hb
  obtain ⟨G0, G1, G2, G3, G4, G5, QG⟩ := both_point F0 F1 F2 F3 F4 F5 mf
  have QG := hid_mk QG
  go_upto_region 8 with fail
  obtain ⟨rF, hrF⟩ : ∃ r, r = w1.heap.size := ⟨_, rfl⟩
  rw [← hrF] at H ⊢
  generalize w1.alloc (.cells #[.int .i64 F0, .bool F1, .int .i64 F2, .int .i64 F3, .int .i64 F4, .int .i64 F5] 27) = W at H ⊢
  clear hrF
  obtain ⟨_, c0, c1, c2, c3, c4, c5, _, _, _, _, _, _⟩ := H.out.at (r := rF) (.head _)
  go_wp2_with fail
  refine (QG.out.im _).mono ?_
  rintro e w2 ⟨rfl, hb⟩
  have H := hid_mk ((H.out.next hb).push G0 G1 G2 G3 G4 G5 27)
  clear hb c0 c1 c2 c3 c4 c5
  go_upto_region 9 with fail
  obtain ⟨rG, hrG⟩ : ∃ r, r = w2.heap.size := ⟨_, rfl⟩
  rw [← hrG] at H ⊢
  generalize w2.alloc (.cells #[.int .i64 G0, .bool G1, .int .i64 G2, .int .i64 G3, .int .i64 G4, .int .i64 G5] 27) = W at H ⊢
  clear hrG
  have egw := eg_word
  have eqi := equalIn_word
  have eql := eql_word
  have neq := neq_word
  have ALL : Hid (∀ w', Rws w [(rG, (⟨G0, G1, G2, G3, G4, G5⟩ : Wd)), (rF, (⟨F0, F1, F2, F3, F4, F5⟩ : Wd)), (rE, (⟨E0, E1, E2, E3, E4, E5⟩ : Wd)), (rD, (⟨D0, D1, D2, D3, D4, D5⟩ : Wd)), (rB, (⟨B0, B1, B2, B3, B4, B5⟩ : Wd)), (rA, (⟨A0, A1, A2, A3, A4, A5⟩ : Wd))] w' → w'.cell? ⟨rB, 0, none⟩ = some (.int .i64 B0) ∧ w'.cell? ⟨rB, 1, none⟩ = some (.bool B1) ∧ w'.cell? ⟨rB, 2, none⟩ = some (.int .i64 B2) ∧ w'.cell? ⟨rB, 3, none⟩ = some (.int .i64 B3) ∧ w'.cell? ⟨rB, 4, none⟩ = some (.int .i64 B4) ∧ w'.cell? ⟨rB, 5, none⟩ = some (.int .i64 B5) ∧ w'.cell? ⟨rA, 0, none⟩ = some (.int .i64 A0) ∧ w'.cell? ⟨rA, 1, none⟩ = some (.bool A1) ∧ w'.cell? ⟨rA, 2, none⟩ = some (.int .i64 A2) ∧ w'.cell? ⟨rA, 3, none⟩ = some (.int .i64 A3) ∧ w'.cell? ⟨rA, 4, none⟩ = some (.int .i64 A4) ∧ w'.cell? ⟨rA, 5, none⟩ = some (.int .i64 A5) ∧ w'.cell? ⟨rE, 0, none⟩ = some (.int .i64 E0) ∧ w'.cell? ⟨rE, 1, none⟩ = some (.bool E1) ∧ w'.cell? ⟨rE, 2, none⟩ = some (.int .i64 E2) ∧ w'.cell? ⟨rE, 3, none⟩ = some (.int .i64 E3) ∧ w'.cell? ⟨rE, 4, none⟩ = some (.int .i64 E4) ∧ w'.cell? ⟨rE, 5, none⟩ = some (.int .i64 E5) ∧ w'.cell? ⟨rD, 0, none⟩ = some (.int .i64 D0) ∧ w'.cell? ⟨rD, 1, none⟩ = some (.bool D1) ∧ w'.cell? ⟨rD, 2, none⟩ = some (.int .i64 D2) ∧ w'.cell? ⟨rD, 3, none⟩ = some (.int .i64 D3) ∧ w'.cell? ⟨rD, 4, none⟩ = some (.int .i64 D4) ∧ w'.cell? ⟨rD, 5, none⟩ = some (.int .i64 D5) ∧ w'.cell? ⟨rG, 0, none⟩ = some (.int .i64 G0) ∧ w'.cell? ⟨rG, 1, none⟩ = some (.bool G1) ∧ w'.cell? ⟨rG, 2, none⟩ = some (.int .i64 G2) ∧ w'.cell? ⟨rG, 3, none⟩ = some (.int .i64 G3) ∧ w'.cell? ⟨rG, 4, none⟩ = some (.int .i64 G4) ∧ w'.cell? ⟨rG, 5, none⟩ = some (.int .i64 G5) ∧ w'.cell? ⟨rF, 0, none⟩ = some (.int .i64 F0) ∧ w'.cell? ⟨rF, 1, none⟩ = some (.bool F1) ∧ w'.cell? ⟨rF, 2, none⟩ = some (.int .i64 F2) ∧ w'.cell? ⟨rF, 3, none⟩ = some (.int .i64 F3) ∧ w'.cell? ⟨rF, 4, none⟩ = some (.int .i64 F4) ∧ w'.cell? ⟨rF, 5, none⟩ = some (.int .i64 F5)) := fun w' h => by
    have hB := h.at (r := rB) (.tail _ (.tail _ (.tail _ (.tail _ (.head _)))))
    have hA := h.at (r := rA) (.tail _ (.tail _ (.tail _ (.tail _ (.tail _ (.head _))))))
    have hE := h.at (r := rE) (.tail _ (.tail _ (.head _)))
    have hD := h.at (r := rD) (.tail _ (.tail _ (.tail _ (.head _))))
    have hG := h.at (r := rG) (.head _)
    have hF := h.at (r := rF) (.tail _ (.head _))
    exact ⟨hB.c0, hB.c1, hB.c2, hB.c3, hB.c4, hB.c5, hA.c0, hA.c1, hA.c2, hA.c3, hA.c4, hA.c5, hE.c0, hE.c1, hE.c2, hE.c3, hE.c4, hE.c5, hD.c0, hD.c1, hD.c2, hD.c3, hD.c4, hD.c5, hG.c0, hG.c1, hG.c2, hG.c3, hG.c4, hG.c5, hF.c0, hF.c1, hF.c2, hF.c3, hF.c4, hF.c5⟩
  have D := hid_mk H.out.drew
  go_cut [62] (fun v wx => v = .bool false ∧ Hid (Rws w [(rG, (⟨G0, G1, G2, G3, G4, G5⟩ : Wd)), (rF, (⟨F0, F1, F2, F3, F4, F5⟩ : Wd)), (rE, (⟨E0, E1, E2, E3, E4, E5⟩ : Wd)), (rD, (⟨D0, D1, D2, D3, D4, D5⟩ : Wd)), (rB, (⟨B0, B1, B2, B3, B4, B5⟩ : Wd)), (rA, (⟨A0, A1, A2, A3, A4, A5⟩ : Wd))] wx))
  case first =>
    go_region_held3 (fun w' => w'.cell? ⟨rB, 0, none⟩ = some (.int .i64 B0) ∧ w'.cell? ⟨rB, 1, none⟩ = some (.bool B1) ∧ w'.cell? ⟨rB, 2, none⟩ = some (.int .i64 B2) ∧ w'.cell? ⟨rB, 3, none⟩ = some (.int .i64 B3) ∧ w'.cell? ⟨rB, 4, none⟩ = some (.int .i64 B4) ∧ w'.cell? ⟨rB, 5, none⟩ = some (.int .i64 B5) ∧ w'.cell? ⟨rA, 0, none⟩ = some (.int .i64 A0) ∧ w'.cell? ⟨rA, 1, none⟩ = some (.bool A1) ∧ w'.cell? ⟨rA, 2, none⟩ = some (.int .i64 A2) ∧ w'.cell? ⟨rA, 3, none⟩ = some (.int .i64 A3) ∧ w'.cell? ⟨rA, 4, none⟩ = some (.int .i64 A4) ∧ w'.cell? ⟨rA, 5, none⟩ = some (.int .i64 A5) ∧ w'.cell? ⟨rE, 0, none⟩ = some (.int .i64 E0) ∧ w'.cell? ⟨rE, 1, none⟩ = some (.bool E1) ∧ w'.cell? ⟨rE, 2, none⟩ = some (.int .i64 E2) ∧ w'.cell? ⟨rE, 3, none⟩ = some (.int .i64 E3) ∧ w'.cell? ⟨rE, 4, none⟩ = some (.int .i64 E4) ∧ w'.cell? ⟨rE, 5, none⟩ = some (.int .i64 E5) ∧ w'.cell? ⟨rD, 0, none⟩ = some (.int .i64 D0) ∧ w'.cell? ⟨rD, 1, none⟩ = some (.bool D1) ∧ w'.cell? ⟨rD, 2, none⟩ = some (.int .i64 D2) ∧ w'.cell? ⟨rD, 3, none⟩ = some (.int .i64 D3) ∧ w'.cell? ⟨rD, 4, none⟩ = some (.int .i64 D4) ∧ w'.cell? ⟨rD, 5, none⟩ = some (.int .i64 D5) ∧ w'.cell? ⟨rG, 0, none⟩ = some (.int .i64 G0) ∧ w'.cell? ⟨rG, 1, none⟩ = some (.bool G1) ∧ w'.cell? ⟨rG, 2, none⟩ = some (.int .i64 G2) ∧ w'.cell? ⟨rG, 3, none⟩ = some (.int .i64 G3) ∧ w'.cell? ⟨rG, 4, none⟩ = some (.int .i64 G4) ∧ w'.cell? ⟨rG, 5, none⟩ = some (.int .i64 G5) ∧ w'.cell? ⟨rF, 0, none⟩ = some (.int .i64 F0) ∧ w'.cell? ⟨rF, 1, none⟩ = some (.bool F1) ∧ w'.cell? ⟨rF, 2, none⟩ = some (.int .i64 F2) ∧ w'.cell? ⟨rF, 3, none⟩ = some (.int .i64 F3) ∧ w'.cell? ⟨rF, 4, none⟩ = some (.int .i64 F4) ∧ w'.cell? ⟨rF, 5, none⟩ = some (.int .i64 F5))
      (((with_reducible apply ALL.out); (first | (with_reducible exact D.out) | (with_reducible exact H1.out) | (with_reducible exact H2.out) | (with_reducible exact H3.out) | fail)))
      (first
        | (go_at_call 16; refine (QB.out.sp _).mono ?_; rintro e w3 ⟨rfl, hb⟩; have H1 := hid_mk (D.out.next hb); clear hb)
        | (go_at_call 17; refine (QE.out.sp _).mono ?_; rintro e w4 ⟨rfl, hb⟩; have H2 := hid_mk (H1.out.next hb); clear hb)
        | (go_at_call 18; refine (QG.out.sp _).mono ?_; rintro e w5 ⟨rfl, hb⟩; have H3 := hid_mk (H2.out.next hb); clear hb))
    go_wp2_with fail
    go_meet
    case rel => exact ⟨by simp, H3.out⟩
  case' rest =>
    obtain ⟨rfl, H⟩ := hcut
    clear ALL D
  -- SealBy
  go_wp2_with fail
  refine (drawSealBy_any (Code8.later C.out H.out.bel)).mono ?_
  rintro e w1 ⟨I0, I1, I2, I3, I4, I5, K0, K1, K2, K3, K4, K5, rfl, hb⟩
  have H := hid_mk (((H.out.next hb).push I0 I1 I2 I3 I4 I5 27).push K0 K1 K2 K3 K4 K5 27)
  rw [World.size_alloc] at H
  clear hb
  obtain ⟨M0, M1, M2, M3, M4, M5, QM⟩ := both_seal I0 I1 I2 I3 I4 I5 K0 K1 K2 K3 K4 K5
  have QM := hid_mk QM
  go_upto_region 12 with fail
  obtain ⟨rI, hrI⟩ : ∃ r, r = w1.heap.size := ⟨_, rfl⟩
  obtain ⟨rK, hrK⟩ : ∃ r, r = w1.heap.size + 1 := ⟨_, rfl⟩
  rw [← hrK] at H ⊢
  rw [← hrI] at H ⊢
  generalize (w1.alloc (.cells #[.int .i64 I0, .bool I1, .int .i64 I2, .int .i64 I3, .int .i64 I4, .int .i64 I5] 27)).alloc (.cells #[.int .i64 K0, .bool K1, .int .i64 K2, .int .i64 K3, .int .i64 K4, .int .i64 K5] 27) = W at H ⊢
  clear hrI hrK
  obtain ⟨_, c0, c1, c2, c3, c4, c5, _, _, _, _, _, _⟩ := H.out.at (r := rI) (.tail _ (.head _))
  obtain ⟨_, d0, d1, d2, d3, d4, d5, _, _, _, _, _, _⟩ := H.out.at (r := rK) (.head _)
  go_wp2_with fail
  refine (QM.out.im _).mono ?_
  rintro e w2 ⟨rfl, hb⟩
  have H := hid_mk ((H.out.next hb).push M0 M1 M2 M3 M4 M5 27)
  clear hb c0 c1 c2 c3 c4 c5 d0 d1 d2 d3 d4 d5
  go_upto_region 13 with fail
  obtain ⟨rM, hrM⟩ : ∃ r, r = w2.heap.size := ⟨_, rfl⟩
  rw [← hrM] at H ⊢
  generalize w2.alloc (.cells #[.int .i64 M0, .bool M1, .int .i64 M2, .int .i64 M3, .int .i64 M4, .int .i64 M5] 27) = W at H ⊢
  clear hrM
  -- OpenBy
  go_wp2_with fail
  refine (drawOpenBy_any (Code8.later C.out H.out.bel)).mono ?_
  rintro e w1 ⟨N0, N1, N2, N3, N4, N5, O0, O1, O2, O3, O4, O5, rfl, hb⟩
  have H := hid_mk (((H.out.next hb).push N0 N1 N2 N3 N4 N5 27).push O0 O1 O2 O3 O4 O5 27)
  rw [World.size_alloc] at H
  clear hb
  obtain ⟨R0, R1, R2, R3, R4, R5, QR⟩ := both_open N0 N1 N2 N3 N4 N5 O0 O1 O2 O3 O4 O5
  have QR := hid_mk QR
  go_upto_region 14 with fail
  obtain ⟨rN, hrN⟩ : ∃ r, r = w1.heap.size := ⟨_, rfl⟩
  obtain ⟨rO, hrO⟩ : ∃ r, r = w1.heap.size + 1 := ⟨_, rfl⟩
  rw [← hrO] at H ⊢
  rw [← hrN] at H ⊢
  generalize (w1.alloc (.cells #[.int .i64 N0, .bool N1, .int .i64 N2, .int .i64 N3, .int .i64 N4, .int .i64 N5] 27)).alloc (.cells #[.int .i64 O0, .bool O1, .int .i64 O2, .int .i64 O3, .int .i64 O4, .int .i64 O5] 27) = W at H ⊢
  clear hrN hrO
  obtain ⟨_, c0, c1, c2, c3, c4, c5, _, _, _, _, _, _⟩ := H.out.at (r := rN) (.tail _ (.head _))
  obtain ⟨_, d0, d1, d2, d3, d4, d5, _, _, _, _, _, _⟩ := H.out.at (r := rO) (.head _)
  go_wp2_with fail
  refine (QR.out.im _).mono ?_
  rintro e w2 ⟨rfl, hb⟩
  have H := hid_mk ((H.out.next hb).push R0 R1 R2 R3 R4 R5 27)
  clear hb c0 c1 c2 c3 c4 c5 d0 d1 d2 d3 d4 d5
  go_upto_region 15 with fail
  obtain ⟨rR, hrR⟩ : ∃ r, r = w2.heap.size := ⟨_, rfl⟩
  rw [← hrR] at H ⊢
  generalize w2.alloc (.cells #[.int .i64 R0, .bool R1, .int .i64 R2, .int .i64 R3, .int .i64 R4, .int .i64 R5] 27) = W at H ⊢
  clear hrR
  have ALL : Hid (∀ w', Rws w [(rR, (⟨R0, R1, R2, R3, R4, R5⟩ : Wd)), (rO, (⟨O0, O1, O2, O3, O4, O5⟩ : Wd)), (rN, (⟨N0, N1, N2, N3, N4, N5⟩ : Wd)), (rM, (⟨M0, M1, M2, M3, M4, M5⟩ : Wd)), (rK, (⟨K0, K1, K2, K3, K4, K5⟩ : Wd)), (rI, (⟨I0, I1, I2, I3, I4, I5⟩ : Wd)), (rG, (⟨G0, G1, G2, G3, G4, G5⟩ : Wd)), (rF, (⟨F0, F1, F2, F3, F4, F5⟩ : Wd)), (rE, (⟨E0, E1, E2, E3, E4, E5⟩ : Wd)), (rD, (⟨D0, D1, D2, D3, D4, D5⟩ : Wd)), (rB, (⟨B0, B1, B2, B3, B4, B5⟩ : Wd)), (rA, (⟨A0, A1, A2, A3, A4, A5⟩ : Wd))] w' → w'.cell? ⟨rM, 0, none⟩ = some (.int .i64 M0) ∧ w'.cell? ⟨rM, 1, none⟩ = some (.bool M1) ∧ w'.cell? ⟨rM, 2, none⟩ = some (.int .i64 M2) ∧ w'.cell? ⟨rM, 3, none⟩ = some (.int .i64 M3) ∧ w'.cell? ⟨rM, 4, none⟩ = some (.int .i64 M4) ∧ w'.cell? ⟨rM, 5, none⟩ = some (.int .i64 M5) ∧ w'.cell? ⟨rI, 0, none⟩ = some (.int .i64 I0) ∧ w'.cell? ⟨rI, 1, none⟩ = some (.bool I1) ∧ w'.cell? ⟨rI, 2, none⟩ = some (.int .i64 I2) ∧ w'.cell? ⟨rI, 3, none⟩ = some (.int .i64 I3) ∧ w'.cell? ⟨rI, 4, none⟩ = some (.int .i64 I4) ∧ w'.cell? ⟨rI, 5, none⟩ = some (.int .i64 I5) ∧ w'.cell? ⟨rK, 0, none⟩ = some (.int .i64 K0) ∧ w'.cell? ⟨rK, 1, none⟩ = some (.bool K1) ∧ w'.cell? ⟨rK, 2, none⟩ = some (.int .i64 K2) ∧ w'.cell? ⟨rK, 3, none⟩ = some (.int .i64 K3) ∧ w'.cell? ⟨rK, 4, none⟩ = some (.int .i64 K4) ∧ w'.cell? ⟨rK, 5, none⟩ = some (.int .i64 K5) ∧ w'.cell? ⟨rR, 0, none⟩ = some (.int .i64 R0) ∧ w'.cell? ⟨rR, 1, none⟩ = some (.bool R1) ∧ w'.cell? ⟨rR, 2, none⟩ = some (.int .i64 R2) ∧ w'.cell? ⟨rR, 3, none⟩ = some (.int .i64 R3) ∧ w'.cell? ⟨rR, 4, none⟩ = some (.int .i64 R4) ∧ w'.cell? ⟨rR, 5, none⟩ = some (.int .i64 R5) ∧ w'.cell? ⟨rN, 0, none⟩ = some (.int .i64 N0) ∧ w'.cell? ⟨rN, 1, none⟩ = some (.bool N1) ∧ w'.cell? ⟨rN, 2, none⟩ = some (.int .i64 N2) ∧ w'.cell? ⟨rN, 3, none⟩ = some (.int .i64 N3) ∧ w'.cell? ⟨rN, 4, none⟩ = some (.int .i64 N4) ∧ w'.cell? ⟨rN, 5, none⟩ = some (.int .i64 N5) ∧ w'.cell? ⟨rO, 0, none⟩ = some (.int .i64 O0) ∧ w'.cell? ⟨rO, 1, none⟩ = some (.bool O1) ∧ w'.cell? ⟨rO, 2, none⟩ = some (.int .i64 O2) ∧ w'.cell? ⟨rO, 3, none⟩ = some (.int .i64 O3) ∧ w'.cell? ⟨rO, 4, none⟩ = some (.int .i64 O4) ∧ w'.cell? ⟨rO, 5, none⟩ = some (.int .i64 O5)) := fun w' h => by
    have hM := h.at (r := rM) (.tail _ (.tail _ (.tail _ (.head _))))
    have hI := h.at (r := rI) (.tail _ (.tail _ (.tail _ (.tail _ (.tail _ (.head _))))))
    have hK := h.at (r := rK) (.tail _ (.tail _ (.tail _ (.tail _ (.head _)))))
    have hR := h.at (r := rR) (.head _)
    have hN := h.at (r := rN) (.tail _ (.tail _ (.head _)))
    have hO := h.at (r := rO) (.tail _ (.head _))
    exact ⟨hM.c0, hM.c1, hM.c2, hM.c3, hM.c4, hM.c5, hI.c0, hI.c1, hI.c2, hI.c3, hI.c4, hI.c5, hK.c0, hK.c1, hK.c2, hK.c3, hK.c4, hK.c5, hR.c0, hR.c1, hR.c2, hR.c3, hR.c4, hR.c5, hN.c0, hN.c1, hN.c2, hN.c3, hN.c4, hN.c5, hO.c0, hO.c1, hO.c2, hO.c3, hO.c4, hO.c5⟩
  have D := hid_mk H.out.drew
  go_cut [90] (fun v wx => v = .bool false ∧ Hid (Rws w [(rR, (⟨R0, R1, R2, R3, R4, R5⟩ : Wd)), (rO, (⟨O0, O1, O2, O3, O4, O5⟩ : Wd)), (rN, (⟨N0, N1, N2, N3, N4, N5⟩ : Wd)), (rM, (⟨M0, M1, M2, M3, M4, M5⟩ : Wd)), (rK, (⟨K0, K1, K2, K3, K4, K5⟩ : Wd)), (rI, (⟨I0, I1, I2, I3, I4, I5⟩ : Wd)), (rG, (⟨G0, G1, G2, G3, G4, G5⟩ : Wd)), (rF, (⟨F0, F1, F2, F3, F4, F5⟩ : Wd)), (rE, (⟨E0, E1, E2, E3, E4, E5⟩ : Wd)), (rD, (⟨D0, D1, D2, D3, D4, D5⟩ : Wd)), (rB, (⟨B0, B1, B2, B3, B4, B5⟩ : Wd)), (rA, (⟨A0, A1, A2, A3, A4, A5⟩ : Wd))] wx))
  case first =>
    go_region_held3 (fun w' => w'.cell? ⟨rM, 0, none⟩ = some (.int .i64 M0) ∧ w'.cell? ⟨rM, 1, none⟩ = some (.bool M1) ∧ w'.cell? ⟨rM, 2, none⟩ = some (.int .i64 M2) ∧ w'.cell? ⟨rM, 3, none⟩ = some (.int .i64 M3) ∧ w'.cell? ⟨rM, 4, none⟩ = some (.int .i64 M4) ∧ w'.cell? ⟨rM, 5, none⟩ = some (.int .i64 M5) ∧ w'.cell? ⟨rI, 0, none⟩ = some (.int .i64 I0) ∧ w'.cell? ⟨rI, 1, none⟩ = some (.bool I1) ∧ w'.cell? ⟨rI, 2, none⟩ = some (.int .i64 I2) ∧ w'.cell? ⟨rI, 3, none⟩ = some (.int .i64 I3) ∧ w'.cell? ⟨rI, 4, none⟩ = some (.int .i64 I4) ∧ w'.cell? ⟨rI, 5, none⟩ = some (.int .i64 I5) ∧ w'.cell? ⟨rK, 0, none⟩ = some (.int .i64 K0) ∧ w'.cell? ⟨rK, 1, none⟩ = some (.bool K1) ∧ w'.cell? ⟨rK, 2, none⟩ = some (.int .i64 K2) ∧ w'.cell? ⟨rK, 3, none⟩ = some (.int .i64 K3) ∧ w'.cell? ⟨rK, 4, none⟩ = some (.int .i64 K4) ∧ w'.cell? ⟨rK, 5, none⟩ = some (.int .i64 K5) ∧ w'.cell? ⟨rR, 0, none⟩ = some (.int .i64 R0) ∧ w'.cell? ⟨rR, 1, none⟩ = some (.bool R1) ∧ w'.cell? ⟨rR, 2, none⟩ = some (.int .i64 R2) ∧ w'.cell? ⟨rR, 3, none⟩ = some (.int .i64 R3) ∧ w'.cell? ⟨rR, 4, none⟩ = some (.int .i64 R4) ∧ w'.cell? ⟨rR, 5, none⟩ = some (.int .i64 R5) ∧ w'.cell? ⟨rN, 0, none⟩ = some (.int .i64 N0) ∧ w'.cell? ⟨rN, 1, none⟩ = some (.bool N1) ∧ w'.cell? ⟨rN, 2, none⟩ = some (.int .i64 N2) ∧ w'.cell? ⟨rN, 3, none⟩ = some (.int .i64 N3) ∧ w'.cell? ⟨rN, 4, none⟩ = some (.int .i64 N4) ∧ w'.cell? ⟨rN, 5, none⟩ = some (.int .i64 N5) ∧ w'.cell? ⟨rO, 0, none⟩ = some (.int .i64 O0) ∧ w'.cell? ⟨rO, 1, none⟩ = some (.bool O1) ∧ w'.cell? ⟨rO, 2, none⟩ = some (.int .i64 O2) ∧ w'.cell? ⟨rO, 3, none⟩ = some (.int .i64 O3) ∧ w'.cell? ⟨rO, 4, none⟩ = some (.int .i64 O4) ∧ w'.cell? ⟨rO, 5, none⟩ = some (.int .i64 O5))
      (((with_reducible apply ALL.out); (first | (with_reducible exact D.out) | (with_reducible exact H1.out) | (with_reducible exact H2.out) | fail)))
      (first
        | (go_at_call 23; refine (QM.out.sp _).mono ?_; rintro e w3 ⟨rfl, hb⟩; have H1 := hid_mk (D.out.next hb); clear hb)
        | (go_at_call 24; refine (QR.out.sp _).mono ?_; rintro e w4 ⟨rfl, hb⟩; have H2 := hid_mk (H1.out.next hb); clear hb))
    go_wp2_with fail
    go_meet
    case rel => exact ⟨by simp, H2.out⟩
  case' rest =>
    obtain ⟨rfl, H⟩ := hcut
    clear ALL D
  clear egw eqi eql neq C
  obtain ⟨_, c0, c1, c2, c3, c4, c5, _, _, _, _, _, _⟩ := H.out.at (r := rB) (.tail _ (.tail _ (.tail _ (.tail _ (.tail _ (.tail _ (.tail _ (.tail _ (.tail _ (.tail _ (.head _)))))))))))
  go_wp2_with fail
  refine (QB.out.ok _).mono ?_
  rintro e w3 ⟨rfl, hb⟩
  have H := hid_mk (H.out.next hb)
  clear hb c0 c1 c2 c3 c4 c5
  obtain ⟨_, c0, c1, c2, c3, c4, c5, _, _, _, _, _, _⟩ := H.out.at (r := rE) (.tail _ (.tail _ (.tail _ (.tail _ (.tail _ (.tail _ (.tail _ (.tail _ (.head _)))))))))
  go_wp2_with fail
  refine (QE.out.ok _).mono ?_
  rintro e w3 ⟨rfl, hb⟩
  have H := hid_mk (H.out.next hb)
  clear hb c0 c1 c2 c3 c4 c5
  obtain ⟨_, c0, c1, c2, c3, c4, c5, _, _, _, _, _, _⟩ := H.out.at (r := rG) (.tail _ (.tail _ (.tail _ (.tail _ (.tail _ (.tail _ (.head _)))))))
  go_wp2_with fail
  refine (QG.out.ok _).mono ?_
  rintro e w3 ⟨rfl, hb⟩
  have H := hid_mk (H.out.next hb)
  clear hb c0 c1 c2 c3 c4 c5
  obtain ⟨_, c0, c1, c2, c3, c4, c5, _, _, _, _, _, _⟩ := H.out.at (r := rM) (.tail _ (.tail _ (.tail _ (.head _))))
  go_wp2_with fail
  refine (QM.out.ok _).mono ?_
  rintro e w3 ⟨rfl, hb⟩
  have H := hid_mk (H.out.next hb)
  clear hb c0 c1 c2 c3 c4 c5
  obtain ⟨_, c0, c1, c2, c3, c4, c5, _, _, _, _, _, _⟩ := H.out.at (r := rR) (.head _)
  go_wp2_with fail
  refine (QR.out.ok _).mono ?_
  rintro e w3 ⟨rfl, hb⟩
  have H := hid_mk (H.out.next hb)
  clear hb c0 c1 c2 c3 c4 c5
  obtain ⟨_, c0, c1, c2, c3, c4, c5, _, _, _, _, _, _⟩ := H.out.at (r := rB) (.tail _ (.tail _ (.tail _ (.tail _ (.tail _ (.tail _ (.tail _ (.tail _ (.tail _ (.tail _ (.head _)))))))))))
  obtain ⟨_, d0, d1, d2, d3, d4, d5, _, _, _, _, _, _⟩ := H.out.at (r := rA) (.tail _ (.tail _ (.tail _ (.tail _ (.tail _ (.tail _ (.tail _ (.tail _ (.tail _ (.tail _ (.tail _ (.head _))))))))))))
  go_wp2_with fail
  refine (QB.out.un _ _ _ (slice_one _ _ _ _ _ _ _ _)).mono ?_
  rintro e w3 ⟨rfl, hb⟩
  have H := hid_mk ((H.out.alloc _).next hb)
  clear hb c0 c1 c2 c3 c4 c5 d0 d1 d2 d3 d4 d5
  obtain ⟨_, c0, c1, c2, c3, c4, c5, _, _, _, _, _, _⟩ := H.out.at (r := rE) (.tail _ (.tail _ (.tail _ (.tail _ (.tail _ (.tail _ (.tail _ (.tail _ (.head _)))))))))
  obtain ⟨_, d0, d1, d2, d3, d4, d5, _, _, _, _, _, _⟩ := H.out.at (r := rD) (.tail _ (.tail _ (.tail _ (.tail _ (.tail _ (.tail _ (.tail _ (.tail _ (.tail _ (.head _))))))))))
  go_wp2_with fail
  refine (QE.out.un _ _ _ (slice_one _ _ _ _ _ _ _ _)).mono ?_
  rintro e w3 ⟨rfl, hb⟩
  have H := hid_mk ((H.out.alloc _).next hb)
  clear hb c0 c1 c2 c3 c4 c5 d0 d1 d2 d3 d4 d5
  obtain ⟨_, c0, c1, c2, c3, c4, c5, _, _, _, _, _, _⟩ := H.out.at (r := rG) (.tail _ (.tail _ (.tail _ (.tail _ (.tail _ (.tail _ (.head _)))))))
  obtain ⟨_, d0, d1, d2, d3, d4, d5, _, _, _, _, _, _⟩ := H.out.at (r := rF) (.tail _ (.tail _ (.tail _ (.tail _ (.tail _ (.tail _ (.tail _ (.head _))))))))
  go_wp2_with fail
  refine (QG.out.un _ _ _ (slice_one _ _ _ _ _ _ _ _)).mono ?_
  rintro e w3 ⟨rfl, hb⟩
  have H := hid_mk ((H.out.alloc _).next hb)
  clear hb c0 c1 c2 c3 c4 c5 d0 d1 d2 d3 d4 d5
  obtain ⟨_, c0, c1, c2, c3, c4, c5, _, _, _, _, _, _⟩ := H.out.at (r := rM) (.tail _ (.tail _ (.tail _ (.head _))))
  obtain ⟨_, d0, d1, d2, d3, d4, d5, _, _, _, _, _, _⟩ := H.out.at (r := rI) (.tail _ (.tail _ (.tail _ (.tail _ (.tail _ (.head _))))))
  go_wp2_with fail
  refine (QM.out.un _ _ _ (slice_one _ _ _ _ _ _ _ _)).mono ?_
  rintro e w3 ⟨rfl, hb⟩
  have H := hid_mk ((H.out.alloc _).next hb)
  clear hb c0 c1 c2 c3 c4 c5 d0 d1 d2 d3 d4 d5
  obtain ⟨_, c0, c1, c2, c3, c4, c5, _, _, _, _, _, _⟩ := H.out.at (r := rR) (.head _)
  obtain ⟨_, d0, d1, d2, d3, d4, d5, _, _, _, _, _, _⟩ := H.out.at (r := rN) (.tail _ (.tail _ (.head _)))
  go_wp2_with fail
  refine (QR.out.un _ _ _ (slice_one _ _ _ _ _ _ _ _)).mono ?_
  rintro e w3 ⟨rfl, hb⟩
  have H := hid_mk ((H.out.alloc _).next hb)
  clear hb c0 c1 c2 c3 c4 c5 d0 d1 d2 d3 d4 d5
  go_wp2
  go_ret
  exact ⟨rfl, H.out.bel⟩
end Go.Proofs.Ytabafekjacjpcaa
