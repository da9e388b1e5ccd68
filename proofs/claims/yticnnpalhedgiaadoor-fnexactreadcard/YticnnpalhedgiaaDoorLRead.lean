/- For every Memory, Word and int Read of the program answers as the specification's Read, every field and the code; it leaves the memory as it was, and the law returns true; memories of more than 2^20 elements the law passes by. No condition. The four errors of the program hold what its text lays (the card ties them). -/
import Derived.Test.YticnnpalhedgiaaDoorCards
import Derived.Test.YticnnpalhedgiaaDoorTie
import Derived.Test.YticnnpalhedgiaaDoorIRead
import Derived.Test.YticnnpalhedgiaaDoorMemG
import Derived.Test.YticnnpalhedgiaaDoorHoldW
import Derived.Test.YticnnpalhedgiaaDoorMemD
import Derived.Test.YticnnpalhedgiaaDoorWordD
import Derived.Test.YticnnpalhedgiaaDoorSent
import Derived.WalkKit
import Derived.ProofKit
import Derived.OpenShut
import Derived.Lib.SmallJoins
import Derived.ChangeOld
import Derived.Below
import Derived.LaidHandle
import Derived.Stop.Joined
import Derived.SevenTiedAt
import Derived.Deep.Slices
import Derived.Deep.Strs
namespace Go.Proofs.YticnnpalhedgiaaDoor.fnExactRead
open Go.ChangeShapes Go.WideShapes Go.ChangeAt Go.RowKit Go.Joins Go.Deep
set_option linter.unusedVariables false

theorem own : ownKnob Tryd.prog.godebug = none := by kernel_rfl
theorem laidOut : laidOutB Tryd.prog = true := by kernel_rfl

set_option maxRecDepth 100000 in
set_option maxHeartbeats 20000000 in
theorem walk (ma0 : Option Addr) (mn0 mc0 : Nat) (mb0 : Option Addr) (mk0 md0 : Nat) (mL0 : List Wd) (mG0 : List Bool) (x0 : Int) (x1 : Bool) (x2 x3 x4 x5 : Int) (x6 : Int) (a0 a1 a2 a3 : Addr) (w : World) (hS0 : MemS w ma0 mn0 mb0 mk0 mL0 mG0) (hE : Errs a0 a1 a2 a3 w) :
    Calls Tryd.prog 5 #[.agg #[.slice ma0 mn0 mc0, .slice mb0 mk0 md0], .agg #[.int .i64 x0, .bool x1, .int .i64 x2, .int .i64 x3, .int .i64 x4, .int .i64 x5], .int .i64 x6] w fun e w' => e = .returned (.bool true) ∧ Below w.heap.size w w' := by
  have sz := szMemory_any ma0 mn0 mc0 mb0 mk0 md0 hS0.ws.1 hS0.gs.1
  by_cases hl : mn0 + mk0 ≤ 1048576
  · obtain ⟨m, hm, hm0⟩ : ∃ m : Int, Hid (m = 1048576 - (mn0 : Int) - (mk0 : Int)) ∧ 0 ≤ m := ⟨_, rfl, by omega⟩
    simp only [if_pos hl, ← hm.out] at sz
    have SZ := hid_mk sz
    have hn1 : mn0 ≤ 1048576 := by omega
    have hn2 : mk0 ≤ 1048576 := by omega
    have s1 := fun a c a' c' w hM => specRead_any a mn0 c a' mk0 c' mL0 mG0 ⟨x0, x1, x2, x3, x4, x5⟩ x6 w hM
    have s2 := fun a c a' c' w hM hE => implRead_any a0 a1 a2 a3 a mn0 c a' mk0 c' mL0 mG0 ⟨x0, x1, x2, x3, x4, x5⟩ x6 w hM hE
    generalize rdW mL0 mG0 ⟨x0, x1, x2, x3, x4, x5⟩ x6 = v at s1 s2
    generalize rdZ mL0 ⟨x0, x1, x2, x3, x4, x5⟩ x6 = z at s1 s2
    have hzz : (z != z) = false := by simp
    have E0 := hid_mk hE
    clear hE
    simp only [wdV] at s1 s2
    have S1 := hid_mk s1
    have S2 := hid_mk s2
    have H := hid_mk (((((Hold.new w).push (argF w.heap.size ma0 mn0 mb0 mk0 mL0 mG0) hS0.arg).alloc (.cells #[.slice ma0 mn0 mc0, .slice mb0 mk0 md0] 51)).push (duoF w.heap.size (.slice ma0 mn0 mc0) (.slice mb0 mk0 md0)) (Duo.new w _ _ _)).alloc (.cells #[.int .i64 x0, .bool x1, .int .i64 x2, .int .i64 x3, .int .i64 x4, .int .i64 x5] 54) |>.push (sixF (w.heap.size + 1) ⟨x0, x1, x2, x3, x4, x5⟩) (Six.second w _ _ _ _ _ _ _ _))
    clear sz hS0 s1 s2
    generalize hw1 : (w.alloc (.cells #[.slice ma0 mn0 mc0, .slice mb0 mk0 md0] 51)).alloc (.cells #[.int .i64 x0, .bool x1, .int .i64 x2, .int .i64 x3, .int .i64 x4, .int .i64 x5] 54) = w1 at H
    go_enter Tryd.func5, Tryd.ntmps5
    go_upto_region 1 with fail
    clear hw1
    obtain ⟨_, m0, m1, _, _⟩ := H.out.duo (.tail _ (.head _))
    go_wp2_with fail
    refine (SZ.out _).mono ?_
    rintro e W ⟨rfl, hb2⟩
    replace H := hid_mk (H.out.next hb2)
    clear hb2 m0 m1 SZ
    go_upto_region 5 with fail
    have HW : Hid (w.heap.size ≤ W.heap.size ∧ ∀ f ∈ [sixF (w.heap.size + 1) ⟨x0, x1, x2, x3, x4, x5⟩, duoF w.heap.size (.slice ma0 mn0 mc0) (.slice mb0 mk0 md0), argF w.heap.size ma0 mn0 mb0 mk0 mL0 mG0], ∀ k, f.S k → k < W.heap.size) := by
      have hx := (H.out.six (.head _)).lt
      refine ⟨by omega, fun f hf k hk => ?_⟩
      simp only [List.mem_cons, List.not_mem_nil, or_false] at hf
      rcases hf with rfl | rfl | rfl
      · simp only [sixF] at hk; omega
      · simp only [duoF] at hk; omega
      · simp only [argF] at hk; omega
    have ALL : Hid (∀ w', Hold w w' [sixF (w.heap.size + 1) ⟨x0, x1, x2, x3, x4, x5⟩, duoF w.heap.size (.slice ma0 mn0 mc0) (.slice mb0 mk0 md0), argF w.heap.size ma0 mn0 mb0 mk0 mL0 mG0] → (w'.cell? ⟨w.heap.size, 0, none⟩ = some (.slice ma0 mn0 mc0) ∧ w'.cell? ⟨w.heap.size, 1, none⟩ = some (.slice mb0 mk0 md0) ∧ w'.cell? ⟨w.heap.size + 1, 0, none⟩ = some (.int .i64 x0) ∧ w'.cell? ⟨w.heap.size + 1, 1, none⟩ = some (.bool x1) ∧ w'.cell? ⟨w.heap.size + 1, 2, none⟩ = some (.int .i64 x2) ∧ w'.cell? ⟨w.heap.size + 1, 3, none⟩ = some (.int .i64 x3) ∧ w'.cell? ⟨w.heap.size + 1, 4, none⟩ = some (.int .i64 x4) ∧ w'.cell? ⟨w.heap.size + 1, 5, none⟩ = some (.int .i64 x5) ∧ Hid (Hold w w' [sixF (w.heap.size + 1) ⟨x0, x1, x2, x3, x4, x5⟩, duoF w.heap.size (.slice ma0 mn0 mc0) (.slice mb0 mk0 md0), argF w.heap.size ma0 mn0 mb0 mk0 mL0 mG0]))) := fun w' h => by
      have h1 := h.duo (.tail _ (.head _))
      have h2 := h.six (.head _)
      exact ⟨h1.c0, h1.c1, h2.c0, h2.c1, h2.c2, h2.c3, h2.c4, h2.c5, h⟩
    have GET : Hid (∀ w', (w'.cell? ⟨w.heap.size, 0, none⟩ = some (.slice ma0 mn0 mc0) ∧ w'.cell? ⟨w.heap.size, 1, none⟩ = some (.slice mb0 mk0 md0) ∧ w'.cell? ⟨w.heap.size + 1, 0, none⟩ = some (.int .i64 x0) ∧ w'.cell? ⟨w.heap.size + 1, 1, none⟩ = some (.bool x1) ∧ w'.cell? ⟨w.heap.size + 1, 2, none⟩ = some (.int .i64 x2) ∧ w'.cell? ⟨w.heap.size + 1, 3, none⟩ = some (.int .i64 x3) ∧ w'.cell? ⟨w.heap.size + 1, 4, none⟩ = some (.int .i64 x4) ∧ w'.cell? ⟨w.heap.size + 1, 5, none⟩ = some (.int .i64 x5) ∧ Hid (Hold w w' [sixF (w.heap.size + 1) ⟨x0, x1, x2, x3, x4, x5⟩, duoF w.heap.size (.slice ma0 mn0 mc0) (.slice mb0 mk0 md0), argF w.heap.size ma0 mn0 mb0 mk0 mL0 mG0])) → Hold w w' [sixF (w.heap.size + 1) ⟨x0, x1, x2, x3, x4, x5⟩, duoF w.heap.size (.slice ma0 mn0 mc0) (.slice mb0 mk0 md0), argF w.heap.size ma0 mn0 mb0 mk0 mL0 mG0]) := fun w' h => h.2.2.2.2.2.2.2.2
    have WS : Hid (∀ w1 r v0 v1 v2 v3 v4 v5, Hold w w1 [sixF (w.heap.size + 1) ⟨x0, x1, x2, x3, x4, x5⟩, duoF w.heap.size (.slice ma0 mn0 mc0) (.slice mb0 mk0 md0), argF w.heap.size ma0 mn0 mb0 mk0 mL0 mG0] → W.heap.size ≤ r → Hold w ((((((w1.setCell ⟨r, 0, none⟩ v0).setCell ⟨r, 1, none⟩ v1).setCell ⟨r, 2, none⟩ v2).setCell ⟨r, 3, none⟩ v3).setCell ⟨r, 4, none⟩ v4).setCell ⟨r, 5, none⟩ v5) [sixF (w.heap.size + 1) ⟨x0, x1, x2, x3, x4, x5⟩, duoF w.heap.size (.slice ma0 mn0 mc0) (.slice mb0 mk0 md0), argF w.heap.size ma0 mn0 mb0 mk0 mL0 mG0]) := fun w1 r v0 v1 v2 v3 v4 v5 h hr => h.six6 (by have := HW.out.1; omega) (fun f hf k hk e => by have := HW.out.2 f hf k hk; omega) v0 v1 v2 v3 v4 v5
    have RS : Hid (∀ (w1 : World) (o o' : Obj), Hold w (w1.alloc o) [sixF (w.heap.size + 1) ⟨x0, x1, x2, x3, x4, x5⟩, duoF w.heap.size (.slice ma0 mn0 mc0) (.slice mb0 mk0 md0), argF w.heap.size ma0 mn0 mb0 mk0 mL0 mG0] → W.heap.size ≤ w1.heap.size → Hold w (w1.alloc o') [sixF (w.heap.size + 1) ⟨x0, x1, x2, x3, x4, x5⟩, duoF w.heap.size (.slice ma0 mn0 mc0) (.slice mb0 mk0 md0), argF w.heap.size ma0 mn0 mb0 mk0 mL0 mG0]) := fun w1 o o' h hr => h.realloc (by have := HW.out.1; omega) (fun f hf k hk => by have := HW.out.2 f hf k hk; omega)
    have F0 := hid_mk H.out.drew
    have H0 := H
    have hzW : W.drew.heap.size = W.heap.size := by simp
    clear H
    go_cut [8, 9] (fun pv qv wx => ∃ r : Nat, pv = .pointer (some ⟨r, 0, none⟩) ∧ qv = .int .i64 z ∧ W.heap.size ≤ r ∧ Hid (Six wx r v.n v.i v.b v.t v.p v.s) ∧ Hid (Hold w wx [sixF (w.heap.size + 1) ⟨x0, x1, x2, x3, x4, x5⟩, duoF w.heap.size (.slice ma0 mn0 mc0) (.slice mb0 mk0 md0), argF w.heap.size ma0 mn0 mb0 mk0 mL0 mG0]))
    case first =>
      go_region_held3 (fun w' => w'.cell? ⟨w.heap.size, 0, none⟩ = some (.slice ma0 mn0 mc0) ∧ w'.cell? ⟨w.heap.size, 1, none⟩ = some (.slice mb0 mk0 md0) ∧ w'.cell? ⟨w.heap.size + 1, 0, none⟩ = some (.int .i64 x0) ∧ w'.cell? ⟨w.heap.size + 1, 1, none⟩ = some (.bool x1) ∧ w'.cell? ⟨w.heap.size + 1, 2, none⟩ = some (.int .i64 x2) ∧ w'.cell? ⟨w.heap.size + 1, 3, none⟩ = some (.int .i64 x3) ∧ w'.cell? ⟨w.heap.size + 1, 4, none⟩ = some (.int .i64 x4) ∧ w'.cell? ⟨w.heap.size + 1, 5, none⟩ = some (.int .i64 x5) ∧ Hid (Hold w w' [sixF (w.heap.size + 1) ⟨x0, x1, x2, x3, x4, x5⟩, duoF w.heap.size (.slice ma0 mn0 mc0) (.slice mb0 mk0 md0), argF w.heap.size ma0 mn0 mb0 mk0 mL0 mG0]))
        (first | (with_reducible assumption) | (((with_reducible refine ALL.out _ ?_); (first | (with_reducible exact F0.out) | ((with_reducible apply Hold.drew); (with_reducible apply Hold.alloc); (with_reducible exact H0.out)) | ((with_reducible apply Hold.next ?_ K1.out); (with_reducible exact GET.out _ (by with_reducible assumption))) | ((with_reducible apply Hold.next ?_ K2.out); (with_reducible exact GET.out _ (by with_reducible assumption))) | ((with_reducible apply Hold.next ?_ K3.out); (with_reducible exact GET.out _ (by with_reducible assumption))) | ((with_reducible apply RS.out _ _ _ (GET.out _ (by with_reducible assumption))); omega) | ((with_reducible apply Hold.alloc); (with_reducible exact GET.out _ (by with_reducible assumption))) | ((with_reducible apply WS.out _ _ _ _ _ _ _ _ (GET.out _ (by with_reducible assumption))); omega) | fail))))
        (first
          | (go_at_call 29; refine (toMemory_ans _ _ _ _ _ _ mL0 mG0 _ hn1 hn2 ((GET.out _ (by with_reducible assumption)).arg (.tail _ (.tail _ (.head _))))).mono ?_; rintro e w1 ⟨bt, bt', rfl, AT, _, hb⟩; have K1 := hid_mk hb; have zK1 := hb.size; (try simp at zK1); (first | (with_reducible have Z := hid_mk (Z.out.below hb); obtain ⟨zl, zc0, zc1, zc2, zc3, zc4, zc5, zf0, zf1, zf2, zf3, zf4, zf5⟩ := Z.out) | (with_reducible have Z := hid_mk ((Six.new _ 0 false 0 0 0 0 36).below hb); obtain ⟨zl, zc0, zc1, zc2, zc3, zc4, zc5, zf0, zf1, zf2, zf3, zf4, zf5⟩ := Z.out) | (with_reducible have Z := hid_mk ((Six.new _ 0 false 0 0 0 0 36).drew.below hb); obtain ⟨zl, zc0, zc1, zc2, zc3, zc4, zc5, zf0, zf1, zf2, zf3, zf4, zf5⟩ := Z.out) | skip); have AT := hid_mk AT; clear hb)
          | (go_at_call 30; refine (toWord_any _ _ _ _ _ _ _).mono ?_; rintro e w2 ⟨rfl, hb⟩; have K2 := hid_mk hb; have zK2 := hb.size; (try simp at zK2); (first | (with_reducible have Z := hid_mk (Z.out.below hb); obtain ⟨zl, zc0, zc1, zc2, zc3, zc4, zc5, zf0, zf1, zf2, zf3, zf4, zf5⟩ := Z.out) | (with_reducible have Z := hid_mk ((Six.new _ 0 false 0 0 0 0 36).below hb); obtain ⟨zl, zc0, zc1, zc2, zc3, zc4, zc5, zf0, zf1, zf2, zf3, zf4, zf5⟩ := Z.out) | (with_reducible have Z := hid_mk ((Six.new _ 0 false 0 0 0 0 36).drew.below hb); obtain ⟨zl, zc0, zc1, zc2, zc3, zc4, zc5, zf0, zf1, zf2, zf3, zf4, zf5⟩ := Z.out) | skip); (first | (with_reducible have AT := hid_mk (AT.out.below hb)) | (with_reducible have AT := hid_mk ((AT.out.below ((Below.refl _ _).alloc (Nat.le_refl _) _)).below hb))); clear hb)
          | (go_at_call 27; (first | refine (S1.out _ _ _ _ _ (AT.out.mem hn1 hn2)).mono ?_ | refine (S1.out _ _ _ _ _ ((AT.out.below ((Below.refl _ _).alloc (Nat.le_refl _) _)).mem hn1 hn2)).mono ?_); rintro e w3 ⟨rfl, hb⟩; have K3 := hid_mk hb; have zK3 := hb.size; (try simp at zK3); (first | (with_reducible have Z := hid_mk (Z.out.below hb); obtain ⟨zl, zc0, zc1, zc2, zc3, zc4, zc5, zf0, zf1, zf2, zf3, zf4, zf5⟩ := Z.out) | (with_reducible have Z := hid_mk ((Six.new _ 0 false 0 0 0 0 36).below hb); obtain ⟨zl, zc0, zc1, zc2, zc3, zc4, zc5, zf0, zf1, zf2, zf3, zf4, zf5⟩ := Z.out) | (with_reducible have Z := hid_mk ((Six.new _ 0 false 0 0 0 0 36).drew.below hb); obtain ⟨zl, zc0, zc1, zc2, zc3, zc4, zc5, zf0, zf1, zf2, zf3, zf4, zf5⟩ := Z.out) | skip); clear hb))
      all_goals
        go_wp2_with fail
        go_meet
        case rel =>
          refine ⟨_, rfl, rfl, ?_, ⟨?_, by go_simp, by go_simp, by go_simp, by go_simp, by go_simp, by go_simp, by go_simp, by go_simp, by go_simp, by go_simp, by go_simp, by go_simp⟩, GET.out _ (by with_reducible assumption)⟩
          · first | omega | (simp; done) | (simp; omega)
          · first | (simp; done) | (simp; omega)
    case' rest =>
      obtain ⟨r1, rfl, rfl, hr1, X1, H⟩ := hcut
    clear ALL GET WS RS F0 H0 hzW
    replace H := hid_mk (H.out.push (sixF r1 v) X1.out)
    clear X1 HW
    obtain ⟨_, m0, m1, _, _⟩ := H.out.duo (.tail _ (.tail _ (.head _)))
    go_wp2_with fail
    refine (toMemory_ans _ _ _ _ _ _ mL0 mG0 _ hn1 hn2 (H.out.arg (.tail _ (.tail _ (.tail _ (.head _)))))).mono ?_
    rintro e w6 ⟨bx, bx', rfl, AX, hfx, hb6⟩
    replace H := hid_mk ((((H.out.next hb6).push (ansF bx bx' mn0 mk0 mL0 mG0) AX).alloc (.cells #[.slice bx mn0 mn0, .slice bx' mk0 mk0] 27)).push (duoF w6.heap.size (.slice bx mn0 mn0) (.slice bx' mk0 mk0)) (Duo.new _ _ _ _))
    have hz6 := hid_mk (fun k hk => AX.lt (k := k) hk)
    clear hb6 AX hfx m0 m1
    go_upto_region 7 with fail
    generalize w6.alloc (.cells #[.slice bx mn0 mn0, .slice bx' mk0 mk0] 27) = W at H ⊢
    obtain ⟨rx, hrx⟩ : ∃ r, r = w6.heap.size := ⟨_, rfl⟩
    rw [← hrx] at H hz6 ⊢
    clear hrx
    have HW : Hid (w.heap.size ≤ W.heap.size ∧ ∀ f ∈ [duoF rx (.slice bx mn0 mn0) (.slice bx' mk0 mk0), ansF bx bx' mn0 mk0 mL0 mG0, sixF r1 v, sixF (w.heap.size + 1) ⟨x0, x1, x2, x3, x4, x5⟩, duoF w.heap.size (.slice ma0 mn0 mc0) (.slice mb0 mk0 md0), argF w.heap.size ma0 mn0 mb0 mk0 mL0 mG0], ∀ k, f.S k → k < W.heap.size) := by
      have hx := (H.out.six (.tail _ (.tail _ (.tail _ (.head _))))).lt
      have hx1 := (H.out.six (.tail _ (.tail _ (.head _)))).lt
      have hx2 := (H.out.duo (.head _)).lt
      refine ⟨by omega, fun f hf k hk => ?_⟩
      simp only [List.mem_cons, List.not_mem_nil, or_false] at hf
      rcases hf with rfl | rfl | rfl | rfl | rfl | rfl
      · simp only [duoF] at hk; omega
      · have : k < rx := hz6.out k hk
        omega
      · simp only [sixF] at hk; omega
      · simp only [sixF] at hk; omega
      · simp only [duoF] at hk; omega
      · simp only [argF] at hk; omega
    clear hz6
    have ALL : Hid (∀ w', Hold w w' [duoF rx (.slice bx mn0 mn0) (.slice bx' mk0 mk0), ansF bx bx' mn0 mk0 mL0 mG0, sixF r1 v, sixF (w.heap.size + 1) ⟨x0, x1, x2, x3, x4, x5⟩, duoF w.heap.size (.slice ma0 mn0 mc0) (.slice mb0 mk0 md0), argF w.heap.size ma0 mn0 mb0 mk0 mL0 mG0] → (w'.cell? ⟨rx, 0, none⟩ = some (.slice bx mn0 mn0) ∧ w'.cell? ⟨rx, 1, none⟩ = some (.slice bx' mk0 mk0) ∧ w'.cell? ⟨w.heap.size + 1, 0, none⟩ = some (.int .i64 x0) ∧ w'.cell? ⟨w.heap.size + 1, 1, none⟩ = some (.bool x1) ∧ w'.cell? ⟨w.heap.size + 1, 2, none⟩ = some (.int .i64 x2) ∧ w'.cell? ⟨w.heap.size + 1, 3, none⟩ = some (.int .i64 x3) ∧ w'.cell? ⟨w.heap.size + 1, 4, none⟩ = some (.int .i64 x4) ∧ w'.cell? ⟨w.heap.size + 1, 5, none⟩ = some (.int .i64 x5) ∧ Hid (Hold w w' [duoF rx (.slice bx mn0 mn0) (.slice bx' mk0 mk0), ansF bx bx' mn0 mk0 mL0 mG0, sixF r1 v, sixF (w.heap.size + 1) ⟨x0, x1, x2, x3, x4, x5⟩, duoF w.heap.size (.slice ma0 mn0 mc0) (.slice mb0 mk0 md0), argF w.heap.size ma0 mn0 mb0 mk0 mL0 mG0]))) := fun w' h => by
      have h1 := h.duo (.head _)
      have h2 := h.six (.tail _ (.tail _ (.tail _ (.head _))))
      exact ⟨h1.c0, h1.c1, h2.c0, h2.c1, h2.c2, h2.c3, h2.c4, h2.c5, h⟩
    have GET : Hid (∀ w', (w'.cell? ⟨rx, 0, none⟩ = some (.slice bx mn0 mn0) ∧ w'.cell? ⟨rx, 1, none⟩ = some (.slice bx' mk0 mk0) ∧ w'.cell? ⟨w.heap.size + 1, 0, none⟩ = some (.int .i64 x0) ∧ w'.cell? ⟨w.heap.size + 1, 1, none⟩ = some (.bool x1) ∧ w'.cell? ⟨w.heap.size + 1, 2, none⟩ = some (.int .i64 x2) ∧ w'.cell? ⟨w.heap.size + 1, 3, none⟩ = some (.int .i64 x3) ∧ w'.cell? ⟨w.heap.size + 1, 4, none⟩ = some (.int .i64 x4) ∧ w'.cell? ⟨w.heap.size + 1, 5, none⟩ = some (.int .i64 x5) ∧ Hid (Hold w w' [duoF rx (.slice bx mn0 mn0) (.slice bx' mk0 mk0), ansF bx bx' mn0 mk0 mL0 mG0, sixF r1 v, sixF (w.heap.size + 1) ⟨x0, x1, x2, x3, x4, x5⟩, duoF w.heap.size (.slice ma0 mn0 mc0) (.slice mb0 mk0 md0), argF w.heap.size ma0 mn0 mb0 mk0 mL0 mG0])) → Hold w w' [duoF rx (.slice bx mn0 mn0) (.slice bx' mk0 mk0), ansF bx bx' mn0 mk0 mL0 mG0, sixF r1 v, sixF (w.heap.size + 1) ⟨x0, x1, x2, x3, x4, x5⟩, duoF w.heap.size (.slice ma0 mn0 mc0) (.slice mb0 mk0 md0), argF w.heap.size ma0 mn0 mb0 mk0 mL0 mG0]) := fun w' h => h.2.2.2.2.2.2.2.2
    have WS : Hid (∀ w1 r v0 v1 v2 v3 v4 v5, Hold w w1 [duoF rx (.slice bx mn0 mn0) (.slice bx' mk0 mk0), ansF bx bx' mn0 mk0 mL0 mG0, sixF r1 v, sixF (w.heap.size + 1) ⟨x0, x1, x2, x3, x4, x5⟩, duoF w.heap.size (.slice ma0 mn0 mc0) (.slice mb0 mk0 md0), argF w.heap.size ma0 mn0 mb0 mk0 mL0 mG0] → W.heap.size ≤ r → Hold w ((((((w1.setCell ⟨r, 0, none⟩ v0).setCell ⟨r, 1, none⟩ v1).setCell ⟨r, 2, none⟩ v2).setCell ⟨r, 3, none⟩ v3).setCell ⟨r, 4, none⟩ v4).setCell ⟨r, 5, none⟩ v5) [duoF rx (.slice bx mn0 mn0) (.slice bx' mk0 mk0), ansF bx bx' mn0 mk0 mL0 mG0, sixF r1 v, sixF (w.heap.size + 1) ⟨x0, x1, x2, x3, x4, x5⟩, duoF w.heap.size (.slice ma0 mn0 mc0) (.slice mb0 mk0 md0), argF w.heap.size ma0 mn0 mb0 mk0 mL0 mG0]) := fun w1 r v0 v1 v2 v3 v4 v5 h hr => h.six6 (by have := HW.out.1; omega) (fun f hf k hk e => by have := HW.out.2 f hf k hk; omega) v0 v1 v2 v3 v4 v5
    have RS : Hid (∀ (w1 : World) (o o' : Obj), Hold w (w1.alloc o) [duoF rx (.slice bx mn0 mn0) (.slice bx' mk0 mk0), ansF bx bx' mn0 mk0 mL0 mG0, sixF r1 v, sixF (w.heap.size + 1) ⟨x0, x1, x2, x3, x4, x5⟩, duoF w.heap.size (.slice ma0 mn0 mc0) (.slice mb0 mk0 md0), argF w.heap.size ma0 mn0 mb0 mk0 mL0 mG0] → W.heap.size ≤ w1.heap.size → Hold w (w1.alloc o') [duoF rx (.slice bx mn0 mn0) (.slice bx' mk0 mk0), ansF bx bx' mn0 mk0 mL0 mG0, sixF r1 v, sixF (w.heap.size + 1) ⟨x0, x1, x2, x3, x4, x5⟩, duoF w.heap.size (.slice ma0 mn0 mc0) (.slice mb0 mk0 md0), argF w.heap.size ma0 mn0 mb0 mk0 mL0 mG0]) := fun w1 o o' h hr => h.realloc (by have := HW.out.1; omega) (fun f hf k hk => by have := HW.out.2 f hf k hk; omega)
    have F0 := hid_mk H.out.drew
    have H0 := H
    have hzW : W.drew.heap.size = W.heap.size := by simp
    clear H
    go_cut [11, 12] (fun pv qv wx => ∃ r : Nat, pv = .pointer (some ⟨r, 0, none⟩) ∧ qv = .int .i64 z ∧ W.heap.size ≤ r ∧ Hid (Six wx r v.n v.i v.b v.t v.p v.s) ∧ Hid (Hold w wx [duoF rx (.slice bx mn0 mn0) (.slice bx' mk0 mk0), ansF bx bx' mn0 mk0 mL0 mG0, sixF r1 v, sixF (w.heap.size + 1) ⟨x0, x1, x2, x3, x4, x5⟩, duoF w.heap.size (.slice ma0 mn0 mc0) (.slice mb0 mk0 md0), argF w.heap.size ma0 mn0 mb0 mk0 mL0 mG0]))
    case first =>
      go_region_held3 (fun w' => w'.cell? ⟨rx, 0, none⟩ = some (.slice bx mn0 mn0) ∧ w'.cell? ⟨rx, 1, none⟩ = some (.slice bx' mk0 mk0) ∧ w'.cell? ⟨w.heap.size + 1, 0, none⟩ = some (.int .i64 x0) ∧ w'.cell? ⟨w.heap.size + 1, 1, none⟩ = some (.bool x1) ∧ w'.cell? ⟨w.heap.size + 1, 2, none⟩ = some (.int .i64 x2) ∧ w'.cell? ⟨w.heap.size + 1, 3, none⟩ = some (.int .i64 x3) ∧ w'.cell? ⟨w.heap.size + 1, 4, none⟩ = some (.int .i64 x4) ∧ w'.cell? ⟨w.heap.size + 1, 5, none⟩ = some (.int .i64 x5) ∧ Hid (Hold w w' [duoF rx (.slice bx mn0 mn0) (.slice bx' mk0 mk0), ansF bx bx' mn0 mk0 mL0 mG0, sixF r1 v, sixF (w.heap.size + 1) ⟨x0, x1, x2, x3, x4, x5⟩, duoF w.heap.size (.slice ma0 mn0 mc0) (.slice mb0 mk0 md0), argF w.heap.size ma0 mn0 mb0 mk0 mL0 mG0]))
        (first | (with_reducible assumption) | (((with_reducible refine ALL.out _ ?_); (first | (with_reducible exact F0.out) | ((with_reducible apply Hold.drew); (with_reducible apply Hold.alloc); (with_reducible exact H0.out)) | ((with_reducible apply Hold.next ?_ K2.out); (with_reducible exact GET.out _ (by with_reducible assumption))) | ((with_reducible apply Hold.next ?_ K3.out); (with_reducible exact GET.out _ (by with_reducible assumption))) | ((with_reducible apply RS.out _ _ _ (GET.out _ (by with_reducible assumption))); omega) | ((with_reducible apply Hold.alloc); (with_reducible exact GET.out _ (by with_reducible assumption))) | ((with_reducible apply WS.out _ _ _ _ _ _ _ _ (GET.out _ (by with_reducible assumption))); omega) | fail))))
        (first
          | (go_at_call 30; refine (toWord_any _ _ _ _ _ _ _).mono ?_; rintro e w2 ⟨rfl, hb⟩; have K2 := hid_mk hb; have zK2 := hb.size; (try simp at zK2); (first | (with_reducible have Z := hid_mk (Z.out.below hb); obtain ⟨zl, zc0, zc1, zc2, zc3, zc4, zc5, zf0, zf1, zf2, zf3, zf4, zf5⟩ := Z.out) | (with_reducible have Z := hid_mk ((Six.new _ 0 false 0 0 0 0 36).below hb); obtain ⟨zl, zc0, zc1, zc2, zc3, zc4, zc5, zf0, zf1, zf2, zf3, zf4, zf5⟩ := Z.out) | (with_reducible have Z := hid_mk ((Six.new _ 0 false 0 0 0 0 36).drew.below hb); obtain ⟨zl, zc0, zc1, zc2, zc3, zc4, zc5, zf0, zf1, zf2, zf3, zf4, zf5⟩ := Z.out) | skip); clear hb)
          | (go_at_call 22; refine (S2.out _ _ _ _ _ (AnsM.mem ((GET.out _ (by with_reducible assumption)).ans (.tail _ (.head _))) hn1 hn2) (E0.out.below (GET.out _ (by with_reducible assumption)).bel)).mono ?_; rintro e w3 ⟨rfl, hb⟩; have K3 := hid_mk hb; have zK3 := hb.size; (try simp at zK3); (first | (with_reducible have Z := hid_mk (Z.out.below hb); obtain ⟨zl, zc0, zc1, zc2, zc3, zc4, zc5, zf0, zf1, zf2, zf3, zf4, zf5⟩ := Z.out) | (with_reducible have Z := hid_mk ((Six.new _ 0 false 0 0 0 0 36).below hb); obtain ⟨zl, zc0, zc1, zc2, zc3, zc4, zc5, zf0, zf1, zf2, zf3, zf4, zf5⟩ := Z.out) | (with_reducible have Z := hid_mk ((Six.new _ 0 false 0 0 0 0 36).drew.below hb); obtain ⟨zl, zc0, zc1, zc2, zc3, zc4, zc5, zf0, zf1, zf2, zf3, zf4, zf5⟩ := Z.out) | skip); clear hb))
      all_goals
        go_wp2_with fail
        go_meet
        case rel =>
          refine ⟨_, rfl, rfl, ?_, ⟨?_, by go_simp, by go_simp, by go_simp, by go_simp, by go_simp, by go_simp, by go_simp, by go_simp, by go_simp, by go_simp, by go_simp, by go_simp⟩, GET.out _ (by with_reducible assumption)⟩
          · first | omega | (simp; done) | (simp; omega)
          · first | (simp; done) | (simp; omega)
    case' rest =>
      obtain ⟨r2, rfl, rfl, hr2, X2, H⟩ := hcut
    clear ALL GET WS RS F0 H0 hzW
    replace H := hid_mk (H.out.push (sixF r2 v) X2.out)
    clear X2 HW
    obtain ⟨_, c0, c1, c2, c3, c4, c5, _, _, _, _, _, _⟩ := H.out.six (.head _)
    obtain ⟨_, d0, d1, d2, d3, d4, d5, _, _, _, _, _, _⟩ := H.out.six (.tail _ (.tail _ (.tail _ (.head _))))
    go_wp2_with fail
    refine (eqWord_same _ _ _ _ _ _ _).mono ?_
    rintro e w9 ⟨rfl, hb9⟩
    replace H := hid_mk (H.out.next hb9)
    clear hb9 c0 c1 c2 c3 c4 c5 d0 d1 d2 d3 d4 d5
    go_upto_region 10 with fail
    have ALL : Hid (∀ w', Hold w w' [sixF r2 v, duoF rx (.slice bx mn0 mn0) (.slice bx' mk0 mk0), ansF bx bx' mn0 mk0 mL0 mG0, sixF r1 v, sixF (w.heap.size + 1) ⟨x0, x1, x2, x3, x4, x5⟩, duoF w.heap.size (.slice ma0 mn0 mc0) (.slice mb0 mk0 md0), argF w.heap.size ma0 mn0 mb0 mk0 mL0 mG0] → (w'.cell? ⟨rx, 0, none⟩ = some (.slice bx mn0 mn0) ∧ w'.cell? ⟨rx, 1, none⟩ = some (.slice bx' mk0 mk0) ∧ w'.cell? ⟨w.heap.size, 0, none⟩ = some (.slice ma0 mn0 mc0) ∧ w'.cell? ⟨w.heap.size, 1, none⟩ = some (.slice mb0 mk0 md0) ∧ Hid (Hold w w' [sixF r2 v, duoF rx (.slice bx mn0 mn0) (.slice bx' mk0 mk0), ansF bx bx' mn0 mk0 mL0 mG0, sixF r1 v, sixF (w.heap.size + 1) ⟨x0, x1, x2, x3, x4, x5⟩, duoF w.heap.size (.slice ma0 mn0 mc0) (.slice mb0 mk0 md0), argF w.heap.size ma0 mn0 mb0 mk0 mL0 mG0]))) := fun w' h => by
      have h1 := h.duo (.tail _ (.head _))
      have h2 := h.duo (.tail _ (.tail _ (.tail _ (.tail _ (.tail _ (.head _))))))
      exact ⟨h1.c0, h1.c1, h2.c0, h2.c1, h⟩
    have GET : Hid (∀ w', (w'.cell? ⟨rx, 0, none⟩ = some (.slice bx mn0 mn0) ∧ w'.cell? ⟨rx, 1, none⟩ = some (.slice bx' mk0 mk0) ∧ w'.cell? ⟨w.heap.size, 0, none⟩ = some (.slice ma0 mn0 mc0) ∧ w'.cell? ⟨w.heap.size, 1, none⟩ = some (.slice mb0 mk0 md0) ∧ Hid (Hold w w' [sixF r2 v, duoF rx (.slice bx mn0 mn0) (.slice bx' mk0 mk0), ansF bx bx' mn0 mk0 mL0 mG0, sixF r1 v, sixF (w.heap.size + 1) ⟨x0, x1, x2, x3, x4, x5⟩, duoF w.heap.size (.slice ma0 mn0 mc0) (.slice mb0 mk0 md0), argF w.heap.size ma0 mn0 mb0 mk0 mL0 mG0])) → Hold w w' [sixF r2 v, duoF rx (.slice bx mn0 mn0) (.slice bx' mk0 mk0), ansF bx bx' mn0 mk0 mL0 mG0, sixF r1 v, sixF (w.heap.size + 1) ⟨x0, x1, x2, x3, x4, x5⟩, duoF w.heap.size (.slice ma0 mn0 mc0) (.slice mb0 mk0 md0), argF w.heap.size ma0 mn0 mb0 mk0 mL0 mG0]) := fun w' h => h.2.2.2.2
    have F0 := hid_mk H.out.drew
    clear H
    go_region_held3 (fun w' => w'.cell? ⟨rx, 0, none⟩ = some (.slice bx mn0 mn0) ∧ w'.cell? ⟨rx, 1, none⟩ = some (.slice bx' mk0 mk0) ∧ w'.cell? ⟨w.heap.size, 0, none⟩ = some (.slice ma0 mn0 mc0) ∧ w'.cell? ⟨w.heap.size, 1, none⟩ = some (.slice mb0 mk0 md0) ∧ Hid (Hold w w' [sixF r2 v, duoF rx (.slice bx mn0 mn0) (.slice bx' mk0 mk0), ansF bx bx' mn0 mk0 mL0 mG0, sixF r1 v, sixF (w.heap.size + 1) ⟨x0, x1, x2, x3, x4, x5⟩, duoF w.heap.size (.slice ma0 mn0 mc0) (.slice mb0 mk0 md0), argF w.heap.size ma0 mn0 mb0 mk0 mL0 mG0]))
      (first | (with_reducible assumption) | (((with_reducible refine ALL.out _ ?_); (first | (with_reducible exact F0.out) | ((with_reducible apply Hold.next ?_ K8.out); (with_reducible exact GET.out _ (by with_reducible assumption))) | ((with_reducible apply Hold.next ?_ K9.out); (with_reducible exact GET.out _ (by with_reducible assumption))) | fail))))
      (first
        | (go_at_call 29; refine (toMemory_ans _ _ _ _ _ _ mL0 mG0 _ hn1 hn2 ((GET.out _ (by with_reducible assumption)).arg (.tail _ (.tail _ (.tail _ (.tail _ (.tail _ (.tail _ (.head _))))))))).mono ?_; rintro e wt ⟨bt, bt', rfl, AT, _, hbt⟩; have K8 := hid_mk hbt; have AT := hid_mk AT; clear hbt)
        | (go_at_call 32; refine (eqMemory_same _ _ _ _ _ _ _ _ _ _ mL0 mG0 _ (AnsM.mem ((GET.out _ (by with_reducible assumption)).ans (.tail _ (.tail _ (.head _)))) hn1 hn2) (AT.out.mem hn1 hn2)).mono ?_; rintro e wu ⟨rfl, hbu⟩; have K9 := hid_mk hbu; clear hbu))
    have B := hid_mk (GET.out _ (by with_reducible assumption)).bel
    go_wp2
    go_ret
    exact ⟨rfl, B.out⟩
  · simp only [if_neg hl] at sz
    have SZ := hid_mk sz
    clear sz
    have B0 := hid_mk (((Below.refl w.heap.size w).alloc (Nat.le_refl _) (.cells #[.slice ma0 mn0 mc0, .slice mb0 mk0 md0] 51)).alloc (by simp) (.cells #[.int .i64 x0, .bool x1, .int .i64 x2, .int .i64 x3, .int .i64 x4, .int .i64 x5] 54))
    go_enter Tryd.func5, Tryd.ntmps5
    go_wp2_with fail
    refine (SZ.out _).mono ?_
    rintro e w2 ⟨rfl, hb2⟩
    have B := hid_mk (B0.out.trans (hb2.mono (by simp; omega)))
    clear hb2
    go_wp2
    go_ret
    exact ⟨rfl, B.out⟩

set_option maxRecDepth 100000 in
theorem lifted (os : Os) (started : os.Started) (H : Type) (enc : TypeId × Value → H) :
    ReturnsInHanded {} Tryd.checked os 5 .any (fun w args => (Rows.fnExactReadSpec.pre enc Tryd.prog Tryd.f5 [] false w args ∧ laidMetH Tryd.prog Rows.fnExactReadRow.laid w) ∧ sizedMet enc Tryd.prog Tryd.f5 (OpenSpec.ofChange Rows.fnExactReadSpec) false w args) (Rows.fnExactReadSpec.post enc Tryd.prog Tryd.f5 false true false false) := by
  have hp : ∀ w : World, laidMetH Tryd.prog Rows.fnExactReadRow.laid w = laidMet Tryd.prog Rows.fnFilterRow.laid w := fun w => MakeChecks.laidMetH_plain _ _ _ (by kernel_rfl)
  refine returnsInHanded_of_change_and (C := Tryd.checked) (X := fun w _ => laidMetH Tryd.prog Rows.fnExactReadRow.laid w) (fun _ _ _ hh h => h.of_heap hh) own started (by kernel_rfl) Tryd.func5
    (ChangeSpec.witness_at (enc := enc) (C := Tryd.checked) (os := os) (X := fun w _ => laidMetH Tryd.prog Rows.fnExactReadRow.laid w) false (laidWorld os) #[.agg #[.slice none 0 0, .slice none 0 0], .agg #[.int .i64 0, .bool false, .int .i64 0, .int .i64 0, .int .i64 0, .int .i64 0], .int .i64 0] 8 rfl (by kernel_rfl) (by kernel_rfl) (by kernel_rfl) (by kernel_rfl) (by kernel_rfl) (by rw [hp]; exact laidWorld_met os _)) ?_
  intro W base args ds gs before hval0 hW _ _ hL _
  have hval : ∀ (j : Nat) t v, Tryd.f5.params[j]? = some t → args[j]? = some v → Value.okWide Tryd.prog W .any base t v := hval0
  have hW' := hW
  obtain ⟨p, q, hA0, hV0, rfl, hfz, hnd⟩ := hW
  have hA : DataW.TrodAll enc Tryd.prog W 0 (fun _ => true) true Tryd.f5.params.toList args.toList ds p := hA0
  have hV : DataW.TrodVars enc Tryd.prog W (fun _ => true) Rows.fnFilterSpec.vars gs q := hV0
  rw [Tryd.params5] at hA hval
  rw [hp] at hL
  obtain ⟨a0, a1, a2, a3, hE, hr⟩ := errs_in hL
  obtain ⟨rfl, rfl⟩ := hV.unique (hr H enc W _ (Below.refl _ _))
  obtain ⟨v0, vs0, d0, ds0, p0, q0, hargs, rfl, rfl, h0, r0⟩ := trodAll_cons hA
  obtain ⟨v1, vs1, d1, ds1, p1, q1, rfl, rfl, rfl, h1, r1⟩ := trodAll_cons r0
  obtain ⟨v2, vs2, d2, ds2, p2, q2, rfl, rfl, rfl, h2, r2⟩ := trodAll_cons r1
  obtain ⟨rfl, rfl, rfl⟩ := trodAll_nil r2
  obtain rfl : args = #[v0, v1, v2] := by cases args; simp_all
  have k0 := h0
  have lt0 : ∀ x ∈ p0, x.block < W.heap.size := by obtain ⟨m, hm⟩ := k0; exact DataW.trod_lt m _ _ _ hm
  have k1 := h1
  have lt1 : ∀ x ∈ p1, x.block < W.heap.size := by obtain ⟨m, hm⟩ := k1; exact DataW.trod_lt m _ _ _ hm
  have k2 := h2
  have lt2 : ∀ x ∈ p2, x.block < W.heap.size := by obtain ⟨m, hm⟩ := k2; exact DataW.trod_lt m _ _ _ hm
  obtain ⟨ma0, mn0, mc0, mb0, mk0, md0, mL0, mG0, rfl, hS0⟩ := open_mem (hval 0 51 v0 rfl rfl) h0
  obtain ⟨x0, x1, x2, x3, x4, x5, rfl, _, _, _, _, _, _, _⟩ := open_word (hval 1 54 v1 rfl rfl) h1
  obtain ⟨x6, rfl, _, _, _⟩ := open_int Tryd.underlying3 (hval 2 3 v2 rfl rfl) h2
  clear hA0 hval0 hV0
  refine (walk ma0 mn0 mc0 mb0 mk0 md0 mL0 mG0 x0 x1 x2 x3 x4 x5 x6 a0 a1 a2 a3 W hS0 hE).mono fun e W' ⟨he, bel⟩ => ?_
  subst he
  exact ⟨_, rfl, _, _, _, [], _, [.cell 0 0, .cell 1 0, .cell 2 0, .cell 3 0], hW', trodAll_mk1 (shut_bool Tryd.underlying4 _), (trodAll_cons_mk (Below.trod laidOut (by kernel_rfl) (of_decide_eq_true (by kernel_rfl)) k0 bel lt0) (trodAll_cons_mk (Below.trod laidOut (by kernel_rfl) (of_decide_eq_true (by kernel_rfl)) k1 bel lt1) (trodAll_cons_mk (Below.trod laidOut (by kernel_rfl) (of_decide_eq_true (by kernel_rfl)) k2 bel lt2) trodAll_mk0))), hr H enc W' _ bel, bel.frame _, fun h => by cases h⟩

theorem said : Rows.FnExactReadSaid :=
  OpenClaim.holds_of_wide 5 Tryd.f5 rfl rfl rfl rfl rfl rfl rfl ⟨rfl, rfl, rfl, rfl, rfl⟩ rfl rfl rfl rfl rfl (by kernel_rfl) Tryd.func5 (by kernel_rfl)
    (of_decide_eq_true (by kernel_rfl)) (by unfold Func.isWrapper; first | (rw [if_pos (by decide +kernel)]; kernel_rfl) | (rw [if_neg (by decide +kernel)]; exact ⟨rfl, rfl⟩))
    (fun os started H enc _ => lifted os started H enc)
theorem plain (f : FuncId) (fn : Func) (hf : Tryd.pinned.checked.prog.funcNamed Rows.fnExactReadRow.func = some f) (hfn : Tryd.pinned.checked.prog.funcs[f]? = some fn) :
    true = Tryd.pinned.checked.prog.looks [] ∧ ∀ (j : Nat) t, fn.params[j]? = some t → Tryd.pinned.checked.prog.wantsStandIn t = false := by
  obtain rfl : f = 5 := Option.some.inj ((show Tryd.prog.funcNamed Rows.fnExactReadRow.func = some 5 by kernel_rfl).symm.trans hf) |>.symm
  obtain rfl : fn = Tryd.f5 := (Option.some.inj (Tryd.func5.symm.trans hfn)).symm
  refine ⟨by kernel_rfl, fun j t ht => ?_⟩
  rw [Tryd.params5] at ht
  have hm := Array.mem_of_getElem? ht
  have hall : ∀ u ∈ Tryd.f5.params.toList, Tryd.prog.wantsStandIn u = false := by
    have h : (Tryd.f5.params.toList.all fun u => !Tryd.prog.wantsStandIn u) = true := by kernel_rfl
    intro u hu
    have := List.all_eq_true.1 h u hu
    simpa using this
  exact hall t (by rw [Tryd.params5]; simpa using hm)
theorem card : Rows.FnExactReadCardSaid :=
  Claim7.holds_tied_plain_at .later [] _ _ _ _ said (fun _ h => by cases h) (by kernel_rfl) (fun _ h => by cases h) fnExactRead_row_tie rfl ⟨rfl, rfl⟩ (by kernel_rfl) rfl plain (by kernel_rfl)
end Go.Proofs.YticnnpalhedgiaaDoor.fnExactRead

namespace Go.Proofs.YticnnpalhedgiaaDoor
/-- For every Memory, Word and int Read of the program answers as the specification's Read, every field and the code; it leaves the memory as it was, and the law returns true; memories of more than 2^20 elements the law passes by. No condition. The four errors of the program hold what its text lays. -/
theorem fnExactRead_holds : Rows.FnExactReadCardSaid := fnExactRead.card
#print axioms fnExactRead_holds
end Go.Proofs.YticnnpalhedgiaaDoor
