/- For every Memory, two Words and int Write of the program answers as the specification's Write, every word and flag and the code, in memory of its own, behind another call too; it leaves the memory as it was, and the law returns true; memories of more than 2^20 elements the law passes by. No condition. The four errors of the program hold what its text lays (the card ties them). -/
import Derived.Test.YtfeoaegkhbjaeaaDoorCards
import Derived.Test.YtfeoaegkhbjaeaaDoorTie
import Derived.Test.YtfeoaegkhbjaeaaDoorMemB
import Derived.Test.YtfeoaegkhbjaeaaDoorMemA
import Derived.Test.YtfeoaegkhbjaeaaDoorMemD
import Derived.Test.YtfeoaegkhbjaeaaDoorWordD
import Derived.Test.YtfeoaegkhbjaeaaDoorSent
import Derived.WalkKit
import Derived.ProofKit
import Derived.OpenShut
import Derived.Lib.SmallJoins
import Derived.ChangeOld
import Derived.Below
import Derived.LaidHandle
import Derived.Stop.Joined
import Derived.SevenTiedAt
import Derived.Deep.Slices
import Derived.Deep.Strs
namespace Go.Proofs.YtfeoaegkhbjaeaaDoor.fnExactWrite
open Go.ChangeShapes Go.WideShapes Go.ChangeAt Go.RowKit Go.Joins Go.Deep
set_option linter.unusedVariables false

theorem own : ownKnob Tryd.prog.godebug = none := by kernel_rfl
theorem laidOut : laidOutB Tryd.prog = true := by kernel_rfl

set_option maxRecDepth 100000 in
set_option maxHeartbeats 20000000 in
theorem walk (ma0 : Option Addr) (mn0 mc0 : Nat) (mb0 : Option Addr) (mk0 md0 : Nat) (mL0 : List Wd) (mG0 : List Bool) (x0 : Int) (x1 : Bool) (x2 x3 x4 x5 : Int) (x6 : Int) (x7 : Int) (x8 : Bool) (x9 x10 x11 x12 : Int) (a0 a1 a2 a3 : Addr) (w : World) (hS0 : MemS w ma0 mn0 mb0 mk0 mL0 mG0) (hE : Errs a0 a1 a2 a3 w) :
    Calls Tryd.prog 5 #[.agg #[.slice ma0 mn0 mc0, .slice mb0 mk0 md0], .agg #[.int .i64 x0, .bool x1, .int .i64 x2, .int .i64 x3, .int .i64 x4, .int .i64 x5], .int .i64 x6, .agg #[.int .i64 x7, .bool x8, .int .i64 x9, .int .i64 x10, .int .i64 x11, .int .i64 x12]] w fun e w' => e = .returned (.bool true) ∧ Below w.heap.size w w' := by
  have sz := szMemory_any ma0 mn0 mc0 mb0 mk0 md0 hS0.ws.1 hS0.gs.1
  by_cases hl : mn0 + mk0 ≤ 1048576
  · obtain ⟨m, hm, hm0⟩ : ∃ m : Int, Hid (m = 1048576 - (mn0 : Int) - (mk0 : Int)) ∧ 0 ≤ m := ⟨_, rfl, by omega⟩
    simp only [if_pos hl, ← hm.out] at sz
    have SZ := hid_mk sz
    have hn1 : mn0 ≤ 1048576 := by omega
    have hn2 : mk0 ≤ 1048576 := by omega
    have s1 := fun a c a' c' w hM => specWrite_any a mn0 c a' mk0 c' mL0 mG0 ⟨x0, x1, x2, x3, x4, x5⟩ x6 ⟨x7, x8, x9, x10, x11, x12⟩ w hM
    have s2 := fun a a' w hM hE => implWrite_any a0 a1 a2 a3 a mn0 mn0 a' mk0 mk0 mL0 mG0 ⟨x0, x1, x2, x3, x4, x5⟩ x6 ⟨x7, x8, x9, x10, x11, x12⟩ (Nat.le_refl _) w hM hE
    have hll := wrl_len mL0 mG0 ⟨x0, x1, x2, x3, x4, x5⟩ x6 ⟨x7, x8, x9, x10, x11, x12⟩
    obtain ⟨LL, hLL⟩ : ∃ LL, Hid (LL = wrL mL0 mG0 ⟨x0, x1, x2, x3, x4, x5⟩ x6 ⟨x7, x8, x9, x10, x11, x12⟩) := ⟨_, rfl⟩
    obtain ⟨GG, hGG⟩ : ∃ GG, Hid (GG = keepG mL0 mG0) := ⟨_, rfl⟩
    obtain ⟨z, hzZ⟩ : ∃ z, Hid (z = wrZ mL0 ⟨x0, x1, x2, x3, x4, x5⟩ x6 ⟨x7, x8, x9, x10, x11, x12⟩) := ⟨_, rfl⟩
    simp only [← hLL.out, ← hGG.out, ← hzZ.out] at s1 s2 hll
    obtain ⟨n1, hn1e⟩ : ∃ n1, n1 = LL.length := ⟨_, rfl⟩
    obtain ⟨n2, hn2e⟩ : ∃ n2, n2 = GG.length := ⟨_, rfl⟩
    simp only [← hn1e, ← hn2e] at s1 s2 hll
    have S1 := hid_mk s1
    have S2 := hid_mk s2
    have E0 := hid_mk hE
    have hk1 : n1 ≤ 1048576 := by omega
    have hk2 : n2 ≤ 1048576 := by omega
    obtain ⟨mx, hmx⟩ : ∃ mx : Int, mx = 1 + 6 * (mn0 : Int) + (mk0 : Int) := ⟨_, rfl⟩
    obtain ⟨mg, hmg⟩ : ∃ mg : Int, mg = 1 + 6 * (n1 : Int) + (n2 : Int) := ⟨_, rfl⟩
    have hmx0 : 0 ≤ mx := by omega
    have hmg0 : 0 ≤ mg := by omega
    have hmgn : (mg != mg) = false := by simp
    have hzz : (z != z) = false := by simp
    have HMX := hid_mk hmx
    have HMG := hid_mk hmg
    have H := hid_mk ((((((Hold.new w).push (argF w.heap.size ma0 mn0 mb0 mk0 mL0 mG0) hS0.arg).alloc (.cells #[.slice ma0 mn0 mc0, .slice mb0 mk0 md0] 51)).push (duoF w.heap.size (.slice ma0 mn0 mc0) (.slice mb0 mk0 md0)) (Duo.new w _ _ _)).alloc (.cells #[.int .i64 x0, .bool x1, .int .i64 x2, .int .i64 x3, .int .i64 x4, .int .i64 x5] 54) |>.push (sixF (w.heap.size + 1) ⟨x0, x1, x2, x3, x4, x5⟩) (Six.second w _ _ _ _ _ _ _ _)).alloc (.cells #[.int .i64 x7, .bool x8, .int .i64 x9, .int .i64 x10, .int .i64 x11, .int .i64 x12] 54) |>.push (sixF (w.heap.size + 1 + 1) ⟨x7, x8, x9, x10, x11, x12⟩) (Six.third w _ _ _ _ _ _ _ _ _))
    clear sz s1 s2 hll hn1e hn2e hmx hmg hLL hGG hzZ hS0 hE
    generalize hw1 : (((w.alloc (.cells #[.slice ma0 mn0 mc0, .slice mb0 mk0 md0] 51)).alloc (.cells #[.int .i64 x0, .bool x1, .int .i64 x2, .int .i64 x3, .int .i64 x4, .int .i64 x5] 54)).alloc (.cells #[.int .i64 x7, .bool x8, .int .i64 x9, .int .i64 x10, .int .i64 x11, .int .i64 x12] 54)) = w1 at H
    go_enter Tryd.func5, Tryd.ntmps5
    go_upto_region 1 with fail
    clear hw1
    obtain ⟨_, m0, m1, _, _⟩ := H.out.duo (.tail _ (.tail _ (.head _)))
    go_wp2_with fail
    refine (SZ.out _).mono ?_
    rintro e W ⟨rfl, hb2⟩
    replace H := hid_mk (H.out.next hb2)
    clear hb2 m0 m1 SZ
    go_upto_region 5 with fail
    have HW : Hid (w.heap.size ≤ W.heap.size ∧ ∀ f ∈ [sixF (w.heap.size + 1 + 1) ⟨x7, x8, x9, x10, x11, x12⟩, sixF (w.heap.size + 1) ⟨x0, x1, x2, x3, x4, x5⟩, duoF w.heap.size (.slice ma0 mn0 mc0) (.slice mb0 mk0 md0), argF w.heap.size ma0 mn0 mb0 mk0 mL0 mG0], ∀ k, f.S k → k < W.heap.size) := by
      have hx := (H.out.six (.head _)).lt
      refine ⟨by omega, fun f hf k hk => ?_⟩
      simp only [List.mem_cons, List.not_mem_nil, or_false] at hf
      rcases hf with rfl | rfl | rfl | rfl
      · simp only [sixF] at hk; omega
      · simp only [sixF] at hk; omega
      · simp only [duoF] at hk; omega
      · simp only [argF] at hk; omega
    have ALL : Hid (∀ w', Hold w w' [sixF (w.heap.size + 1 + 1) ⟨x7, x8, x9, x10, x11, x12⟩, sixF (w.heap.size + 1) ⟨x0, x1, x2, x3, x4, x5⟩, duoF w.heap.size (.slice ma0 mn0 mc0) (.slice mb0 mk0 md0), argF w.heap.size ma0 mn0 mb0 mk0 mL0 mG0] → (w'.cell? ⟨w.heap.size, 0, none⟩ = some (.slice ma0 mn0 mc0) ∧ w'.cell? ⟨w.heap.size, 1, none⟩ = some (.slice mb0 mk0 md0) ∧ w'.cell? ⟨w.heap.size + 1, 0, none⟩ = some (.int .i64 x0) ∧ w'.cell? ⟨w.heap.size + 1, 1, none⟩ = some (.bool x1) ∧ w'.cell? ⟨w.heap.size + 1, 2, none⟩ = some (.int .i64 x2) ∧ w'.cell? ⟨w.heap.size + 1, 3, none⟩ = some (.int .i64 x3) ∧ w'.cell? ⟨w.heap.size + 1, 4, none⟩ = some (.int .i64 x4) ∧ w'.cell? ⟨w.heap.size + 1, 5, none⟩ = some (.int .i64 x5) ∧ w'.cell? ⟨w.heap.size + 1 + 1, 0, none⟩ = some (.int .i64 x7) ∧ w'.cell? ⟨w.heap.size + 1 + 1, 1, none⟩ = some (.bool x8) ∧ w'.cell? ⟨w.heap.size + 1 + 1, 2, none⟩ = some (.int .i64 x9) ∧ w'.cell? ⟨w.heap.size + 1 + 1, 3, none⟩ = some (.int .i64 x10) ∧ w'.cell? ⟨w.heap.size + 1 + 1, 4, none⟩ = some (.int .i64 x11) ∧ w'.cell? ⟨w.heap.size + 1 + 1, 5, none⟩ = some (.int .i64 x12) ∧ Hid (Hold w w' [sixF (w.heap.size + 1 + 1) ⟨x7, x8, x9, x10, x11, x12⟩, sixF (w.heap.size + 1) ⟨x0, x1, x2, x3, x4, x5⟩, duoF w.heap.size (.slice ma0 mn0 mc0) (.slice mb0 mk0 md0), argF w.heap.size ma0 mn0 mb0 mk0 mL0 mG0]))) := fun w' h => by
      have h1 := h.duo (.tail _ (.tail _ (.head _)))
      have h2 := h.six (.tail _ (.head _))
      have h3 := h.six (.head _)
      exact ⟨h1.c0, h1.c1, h2.c0, h2.c1, h2.c2, h2.c3, h2.c4, h2.c5, h3.c0, h3.c1, h3.c2, h3.c3, h3.c4, h3.c5, h⟩
    have GET : Hid (∀ w', (w'.cell? ⟨w.heap.size, 0, none⟩ = some (.slice ma0 mn0 mc0) ∧ w'.cell? ⟨w.heap.size, 1, none⟩ = some (.slice mb0 mk0 md0) ∧ w'.cell? ⟨w.heap.size + 1, 0, none⟩ = some (.int .i64 x0) ∧ w'.cell? ⟨w.heap.size + 1, 1, none⟩ = some (.bool x1) ∧ w'.cell? ⟨w.heap.size + 1, 2, none⟩ = some (.int .i64 x2) ∧ w'.cell? ⟨w.heap.size + 1, 3, none⟩ = some (.int .i64 x3) ∧ w'.cell? ⟨w.heap.size + 1, 4, none⟩ = some (.int .i64 x4) ∧ w'.cell? ⟨w.heap.size + 1, 5, none⟩ = some (.int .i64 x5) ∧ w'.cell? ⟨w.heap.size + 1 + 1, 0, none⟩ = some (.int .i64 x7) ∧ w'.cell? ⟨w.heap.size + 1 + 1, 1, none⟩ = some (.bool x8) ∧ w'.cell? ⟨w.heap.size + 1 + 1, 2, none⟩ = some (.int .i64 x9) ∧ w'.cell? ⟨w.heap.size + 1 + 1, 3, none⟩ = some (.int .i64 x10) ∧ w'.cell? ⟨w.heap.size + 1 + 1, 4, none⟩ = some (.int .i64 x11) ∧ w'.cell? ⟨w.heap.size + 1 + 1, 5, none⟩ = some (.int .i64 x12) ∧ Hid (Hold w w' [sixF (w.heap.size + 1 + 1) ⟨x7, x8, x9, x10, x11, x12⟩, sixF (w.heap.size + 1) ⟨x0, x1, x2, x3, x4, x5⟩, duoF w.heap.size (.slice ma0 mn0 mc0) (.slice mb0 mk0 md0), argF w.heap.size ma0 mn0 mb0 mk0 mL0 mG0])) → Hold w w' [sixF (w.heap.size + 1 + 1) ⟨x7, x8, x9, x10, x11, x12⟩, sixF (w.heap.size + 1) ⟨x0, x1, x2, x3, x4, x5⟩, duoF w.heap.size (.slice ma0 mn0 mc0) (.slice mb0 mk0 md0), argF w.heap.size ma0 mn0 mb0 mk0 mL0 mG0]) := fun w' h => h.2.2.2.2.2.2.2.2.2.2.2.2.2.2
    have WS : Hid (∀ w1 r v0 v1, Hold w w1 [sixF (w.heap.size + 1 + 1) ⟨x7, x8, x9, x10, x11, x12⟩, sixF (w.heap.size + 1) ⟨x0, x1, x2, x3, x4, x5⟩, duoF w.heap.size (.slice ma0 mn0 mc0) (.slice mb0 mk0 md0), argF w.heap.size ma0 mn0 mb0 mk0 mL0 mG0] → W.heap.size ≤ r → Hold w ((w1.setCell ⟨r, 0, none⟩ v0).setCell ⟨r, 1, none⟩ v1) [sixF (w.heap.size + 1 + 1) ⟨x7, x8, x9, x10, x11, x12⟩, sixF (w.heap.size + 1) ⟨x0, x1, x2, x3, x4, x5⟩, duoF w.heap.size (.slice ma0 mn0 mc0) (.slice mb0 mk0 md0), argF w.heap.size ma0 mn0 mb0 mk0 mL0 mG0]) := fun w1 r v0 v1 h hr => h.set2 (by have := HW.out.1; omega) (fun f hf k hk e => by have := HW.out.2 f hf k hk; omega) v0 v1
    have RS : Hid (∀ (w1 : World) (o o' : Obj), Hold w (w1.alloc o) [sixF (w.heap.size + 1 + 1) ⟨x7, x8, x9, x10, x11, x12⟩, sixF (w.heap.size + 1) ⟨x0, x1, x2, x3, x4, x5⟩, duoF w.heap.size (.slice ma0 mn0 mc0) (.slice mb0 mk0 md0), argF w.heap.size ma0 mn0 mb0 mk0 mL0 mG0] → W.heap.size ≤ w1.heap.size → Hold w (w1.alloc o') [sixF (w.heap.size + 1 + 1) ⟨x7, x8, x9, x10, x11, x12⟩, sixF (w.heap.size + 1) ⟨x0, x1, x2, x3, x4, x5⟩, duoF w.heap.size (.slice ma0 mn0 mc0) (.slice mb0 mk0 md0), argF w.heap.size ma0 mn0 mb0 mk0 mL0 mG0]) := fun w1 o o' h hr => h.realloc (by have := HW.out.1; omega) (fun f hf k hk => by have := HW.out.2 f hf k hk; omega)
    have F0 := hid_mk H.out.drew
    have H0 := H
    have hzW : W.drew.heap.size = W.heap.size := by simp
    clear H
    go_cut [10, 11] (fun pv qv wx => ∃ (r : Nat) (b : Option Addr) (d : Nat) (b' : Option Addr) (d' : Nat), pv = .pointer (some ⟨r, 0, none⟩) ∧ qv = .int .i64 z ∧ W.heap.size ≤ r ∧ Hid (Duo wx r (.slice b n1 d) (.slice b' n2 d')) ∧ Hid (AnsM b b' n1 n2 LL GG wx) ∧ Hid (∀ k, On b k ∨ On b' k → W.heap.size ≤ k ∧ k ≠ r) ∧ Hid (Hold w wx [sixF (w.heap.size + 1 + 1) ⟨x7, x8, x9, x10, x11, x12⟩, sixF (w.heap.size + 1) ⟨x0, x1, x2, x3, x4, x5⟩, duoF w.heap.size (.slice ma0 mn0 mc0) (.slice mb0 mk0 md0), argF w.heap.size ma0 mn0 mb0 mk0 mL0 mG0]))
    case first =>
      go_region_held3 (fun w' => w'.cell? ⟨w.heap.size, 0, none⟩ = some (.slice ma0 mn0 mc0) ∧ w'.cell? ⟨w.heap.size, 1, none⟩ = some (.slice mb0 mk0 md0) ∧ w'.cell? ⟨w.heap.size + 1, 0, none⟩ = some (.int .i64 x0) ∧ w'.cell? ⟨w.heap.size + 1, 1, none⟩ = some (.bool x1) ∧ w'.cell? ⟨w.heap.size + 1, 2, none⟩ = some (.int .i64 x2) ∧ w'.cell? ⟨w.heap.size + 1, 3, none⟩ = some (.int .i64 x3) ∧ w'.cell? ⟨w.heap.size + 1, 4, none⟩ = some (.int .i64 x4) ∧ w'.cell? ⟨w.heap.size + 1, 5, none⟩ = some (.int .i64 x5) ∧ w'.cell? ⟨w.heap.size + 1 + 1, 0, none⟩ = some (.int .i64 x7) ∧ w'.cell? ⟨w.heap.size + 1 + 1, 1, none⟩ = some (.bool x8) ∧ w'.cell? ⟨w.heap.size + 1 + 1, 2, none⟩ = some (.int .i64 x9) ∧ w'.cell? ⟨w.heap.size + 1 + 1, 3, none⟩ = some (.int .i64 x10) ∧ w'.cell? ⟨w.heap.size + 1 + 1, 4, none⟩ = some (.int .i64 x11) ∧ w'.cell? ⟨w.heap.size + 1 + 1, 5, none⟩ = some (.int .i64 x12) ∧ Hid (Hold w w' [sixF (w.heap.size + 1 + 1) ⟨x7, x8, x9, x10, x11, x12⟩, sixF (w.heap.size + 1) ⟨x0, x1, x2, x3, x4, x5⟩, duoF w.heap.size (.slice ma0 mn0 mc0) (.slice mb0 mk0 md0), argF w.heap.size ma0 mn0 mb0 mk0 mL0 mG0]))
        (first | (with_reducible assumption) | (((with_reducible refine ALL.out _ ?_); (first | (with_reducible exact F0.out) | ((with_reducible apply Hold.drew); (with_reducible apply Hold.alloc); (with_reducible exact H0.out)) | ((with_reducible apply Hold.next ?_ K1.out); (with_reducible exact GET.out _ (by with_reducible assumption))) | ((with_reducible apply Hold.next ?_ K2.out); (with_reducible exact GET.out _ (by with_reducible assumption))) | ((with_reducible apply Hold.next ?_ K3.out); (with_reducible exact GET.out _ (by with_reducible assumption))) | ((with_reducible apply Hold.next ?_ K4.out); (with_reducible exact GET.out _ (by with_reducible assumption))) | ((with_reducible apply RS.out _ _ _ (GET.out _ (by with_reducible assumption))); omega) | ((with_reducible apply Hold.alloc); (with_reducible exact GET.out _ (by with_reducible assumption))) | ((with_reducible apply WS.out _ _ _ _ (GET.out _ (by with_reducible assumption))); omega) | fail))))
        (first
          | (go_at_call 28; refine (toMemory_ans _ _ _ _ _ _ mL0 mG0 _ hn1 hn2 ((GET.out _ (by with_reducible assumption)).arg (.tail _ (.tail _ (.tail _ (.head _)))))).mono ?_; rintro e wt ⟨bt, bt', rfl, AT, _, hb⟩; have K1 := hid_mk hb; have zK1 := hb.size; (try simp at zK1); (first | (with_reducible have Z := hid_mk (Z.out.below hb); obtain ⟨zl, zc0, zc1, zf0, zf1⟩ := Z.out) | (with_reducible have Z := hid_mk ((Duo.new _ (.slice none 0 0) (.slice none 0 0) 27).below hb); obtain ⟨zl, zc0, zc1, zf0, zf1⟩ := Z.out) | (with_reducible have Z := hid_mk ((Duo.new _ (.slice none 0 0) (.slice none 0 0) 27).drew.below hb); obtain ⟨zl, zc0, zc1, zf0, zf1⟩ := Z.out) | skip); have AT := hid_mk AT; clear hb)
          | (go_at_call_of 29 (Value.agg #[.int .i64 x0, .bool x1, .int .i64 x2, .int .i64 x3, .int .i64 x4, .int .i64 x5]); refine (toWord_any x0 x1 x2 x3 x4 x5 _).mono ?_; rintro e wy ⟨rfl, hb⟩; have K2 := hid_mk hb; have zK2 := hb.size; (try simp at zK2); (first | (with_reducible have Z := hid_mk (Z.out.below hb); obtain ⟨zl, zc0, zc1, zf0, zf1⟩ := Z.out) | (with_reducible have Z := hid_mk ((Duo.new _ (.slice none 0 0) (.slice none 0 0) 27).below hb); obtain ⟨zl, zc0, zc1, zf0, zf1⟩ := Z.out) | (with_reducible have Z := hid_mk ((Duo.new _ (.slice none 0 0) (.slice none 0 0) 27).drew.below hb); obtain ⟨zl, zc0, zc1, zf0, zf1⟩ := Z.out) | skip); (first | (with_reducible have AT := hid_mk (AT.out.below hb)) | (with_reducible have AT := hid_mk ((AT.out.below ((Below.refl _ _).alloc (Nat.le_refl _) _)).below hb))); clear hb)
          | (go_at_call_of 29 (Value.agg #[.int .i64 x7, .bool x8, .int .i64 x9, .int .i64 x10, .int .i64 x11, .int .i64 x12]); refine (toWord_any x7 x8 x9 x10 x11 x12 _).mono ?_; rintro e wz ⟨rfl, hb⟩; have K3 := hid_mk hb; have zK3 := hb.size; (try simp at zK3); (first | (with_reducible have Z := hid_mk (Z.out.below hb); obtain ⟨zl, zc0, zc1, zf0, zf1⟩ := Z.out) | (with_reducible have Z := hid_mk ((Duo.new _ (.slice none 0 0) (.slice none 0 0) 27).below hb); obtain ⟨zl, zc0, zc1, zf0, zf1⟩ := Z.out) | (with_reducible have Z := hid_mk ((Duo.new _ (.slice none 0 0) (.slice none 0 0) 27).drew.below hb); obtain ⟨zl, zc0, zc1, zf0, zf1⟩ := Z.out) | skip); (first | (with_reducible have AT := hid_mk (AT.out.below hb)) | (with_reducible have AT := hid_mk ((AT.out.below ((Below.refl _ _).alloc (Nat.le_refl _) _)).below hb))); clear hb)
          | (go_at_call 24; (first | refine (S1.out _ _ _ _ _ (AT.out.mem hn1 hn2)).mono ?_ | refine (S1.out _ _ _ _ _ ((AT.out.below ((Below.refl _ _).alloc (Nat.le_refl _) _)).mem hn1 hn2)).mono ?_); rintro e wv ⟨b, d, b', d', rfl, AW, hf, hb⟩; have K4 := hid_mk hb; have zK4 := hb.size; (try simp at zK4); (first | (with_reducible have Z := hid_mk (Z.out.below hb); obtain ⟨zl, zc0, zc1, zf0, zf1⟩ := Z.out) | (with_reducible have Z := hid_mk ((Duo.new _ (.slice none 0 0) (.slice none 0 0) 27).below hb); obtain ⟨zl, zc0, zc1, zf0, zf1⟩ := Z.out) | (with_reducible have Z := hid_mk ((Duo.new _ (.slice none 0 0) (.slice none 0 0) 27).drew.below hb); obtain ⟨zl, zc0, zc1, zf0, zf1⟩ := Z.out) | skip); have AW := hid_mk AW; have HF := hid_mk hf; clear hf; clear hb))
      all_goals
        have hfk := hid_mk (fun k hk => And.intro (HF.out k hk) (AW.out.lt (k := k) hk))
        go_wp2_with fail
        go_meet
        case rel =>
          refine ⟨_, b, d, b', d', rfl, rfl, ?_, ⟨?_, by go_simp, by go_simp, by go_simp, by go_simp⟩, ?_, fun k hk => ?_, GET.out _ (by with_reducible assumption)⟩
          · first | omega | (simp; done) | (simp; omega)
          · first | (simp; done) | (simp; omega)
          · first | (with_reducible exact hid_mk (AW.out.below ((Below.refl _ _).alloc (Nat.le_refl _) _))) | (exact hid_mk (AW.out.two (fun k hk => by have := hfk.out k hk; (try simp at this); omega) _ _))
          · have h1 := hfk.out k hk
            (try simp at h1)
            omega
    case' rest =>
      obtain ⟨r1, b1, d1, b1', d1', rfl, rfl, hr1, X1, A1, Q1, H⟩ := hcut
    clear ALL GET WS RS F0 H0 hzW
    replace H := hid_mk ((H.out.push (ansF b1 b1' n1 n2 LL GG) A1.out).push (duoF r1 (.slice b1 n1 d1) (.slice b1' n2 d1')) X1.out)
    have hrc : r1 < wc.heap.size := X1.out.lt
    have QW : Hid (∀ k, On b1 k ∨ On b1' k → k < wc.heap.size ∧ k ≠ r1) := fun k hk => ⟨A1.out.lt hk, (Q1.out k hk).2⟩
    have hwc : w.heap.size < wc.heap.size := (H.out.duo (.tail _ (.tail _ (.tail _ (.tail _ (.head _)))))).lt
    have hsx : w.heap.size + 1 + 1 < wc.heap.size := (H.out.six (.tail _ (.tail _ (.head _)))).lt
    clear X1 A1 Q1 HW
    obtain ⟨_, m0, m1, _, _⟩ := H.out.duo (.tail _ (.tail _ (.tail _ (.tail _ (.head _)))))
    go_wp2_with fail
    refine (toMemory_ans _ _ _ _ _ _ mL0 mG0 _ hn1 hn2 (H.out.arg (.tail _ (.tail _ (.tail _ (.tail _ (.tail _ (.head _)))))))).mono ?_
    rintro e w6 ⟨bx, bx', rfl, AX, hfx, hb6⟩
    have QX0 := hid_mk (fun k hk => And.intro (hfx k hk) (AX.lt (k := k) hk))
    have hz2 : wc.heap.size ≤ w6.heap.size := hb6.size
    replace H := hid_mk ((((H.out.next hb6).push (ansF bx bx' mn0 mk0 mL0 mG0) AX).alloc (.cells #[.slice bx mn0 mn0, .slice bx' mk0 mk0] 27)).push (duoF w6.heap.size (.slice bx mn0 mn0) (.slice bx' mk0 mk0)) (Duo.new _ _ _ _))
    clear hb6 AX hfx m0 m1
    go_upto_region 7 with fail
    generalize w6.alloc (.cells #[.slice bx mn0 mn0, .slice bx' mk0 mk0] 27) = W at H ⊢
    obtain ⟨rx, hrx⟩ : ∃ r, r = w6.heap.size := ⟨_, rfl⟩
    rw [← hrx] at H QX0 hz2 ⊢
    clear hrx
    obtain ⟨zc, hzc⟩ : ∃ zc, zc = wc.heap.size := ⟨_, rfl⟩
    rw [← hzc] at QX0 hz2 QW hrc hwc hsx
    clear hzc
    have QX : Hid (∀ k, On bx k ∨ On bx' k → zc ≤ k ∧ k < rx) := QX0.out
    clear QX0
    have hxW : rx < W.heap.size := (H.out.duo (.head _)).lt
    have HW : Hid (w.heap.size ≤ W.heap.size ∧ ∀ f ∈ [duoF rx (.slice bx mn0 mn0) (.slice bx' mk0 mk0), ansF bx bx' mn0 mk0 mL0 mG0, duoF r1 (.slice b1 n1 d1) (.slice b1' n2 d1'), ansF b1 b1' n1 n2 LL GG, sixF (w.heap.size + 1 + 1) ⟨x7, x8, x9, x10, x11, x12⟩, sixF (w.heap.size + 1) ⟨x0, x1, x2, x3, x4, x5⟩, duoF w.heap.size (.slice ma0 mn0 mc0) (.slice mb0 mk0 md0), argF w.heap.size ma0 mn0 mb0 mk0 mL0 mG0], ∀ k, f.S k → k < W.heap.size) := by
      have hx3 := (H.out.six (.tail _ (.tail _ (.tail _ (.tail _ (.head _)))))).lt
      refine ⟨by omega, fun f hf k hk => ?_⟩
      simp only [List.mem_cons, List.not_mem_nil, or_false] at hf
      rcases hf with rfl | rfl | rfl | rfl | rfl | rfl | rfl | rfl
      · simp only [duoF] at hk; omega
      · have := QX.out k hk; omega
      · simp only [duoF] at hk; omega
      · have := QW.out k hk; omega
      · simp only [sixF] at hk; omega
      · simp only [sixF] at hk; omega
      · simp only [duoF] at hk; omega
      · simp only [argF] at hk; omega
    have ALL : Hid (∀ w', Hold w w' [duoF rx (.slice bx mn0 mn0) (.slice bx' mk0 mk0), ansF bx bx' mn0 mk0 mL0 mG0, duoF r1 (.slice b1 n1 d1) (.slice b1' n2 d1'), ansF b1 b1' n1 n2 LL GG, sixF (w.heap.size + 1 + 1) ⟨x7, x8, x9, x10, x11, x12⟩, sixF (w.heap.size + 1) ⟨x0, x1, x2, x3, x4, x5⟩, duoF w.heap.size (.slice ma0 mn0 mc0) (.slice mb0 mk0 md0), argF w.heap.size ma0 mn0 mb0 mk0 mL0 mG0] → (w'.cell? ⟨rx, 0, none⟩ = some (.slice bx mn0 mn0) ∧ w'.cell? ⟨rx, 1, none⟩ = some (.slice bx' mk0 mk0) ∧ w'.cell? ⟨w.heap.size + 1, 0, none⟩ = some (.int .i64 x0) ∧ w'.cell? ⟨w.heap.size + 1, 1, none⟩ = some (.bool x1) ∧ w'.cell? ⟨w.heap.size + 1, 2, none⟩ = some (.int .i64 x2) ∧ w'.cell? ⟨w.heap.size + 1, 3, none⟩ = some (.int .i64 x3) ∧ w'.cell? ⟨w.heap.size + 1, 4, none⟩ = some (.int .i64 x4) ∧ w'.cell? ⟨w.heap.size + 1, 5, none⟩ = some (.int .i64 x5) ∧ w'.cell? ⟨w.heap.size + 1 + 1, 0, none⟩ = some (.int .i64 x7) ∧ w'.cell? ⟨w.heap.size + 1 + 1, 1, none⟩ = some (.bool x8) ∧ w'.cell? ⟨w.heap.size + 1 + 1, 2, none⟩ = some (.int .i64 x9) ∧ w'.cell? ⟨w.heap.size + 1 + 1, 3, none⟩ = some (.int .i64 x10) ∧ w'.cell? ⟨w.heap.size + 1 + 1, 4, none⟩ = some (.int .i64 x11) ∧ w'.cell? ⟨w.heap.size + 1 + 1, 5, none⟩ = some (.int .i64 x12) ∧ Hid (Hold w w' [duoF rx (.slice bx mn0 mn0) (.slice bx' mk0 mk0), ansF bx bx' mn0 mk0 mL0 mG0, duoF r1 (.slice b1 n1 d1) (.slice b1' n2 d1'), ansF b1 b1' n1 n2 LL GG, sixF (w.heap.size + 1 + 1) ⟨x7, x8, x9, x10, x11, x12⟩, sixF (w.heap.size + 1) ⟨x0, x1, x2, x3, x4, x5⟩, duoF w.heap.size (.slice ma0 mn0 mc0) (.slice mb0 mk0 md0), argF w.heap.size ma0 mn0 mb0 mk0 mL0 mG0]))) := fun w' h => by
      have h1 := h.duo (.head _)
      have h2 := h.six (.tail _ (.tail _ (.tail _ (.tail _ (.tail _ (.head _))))))
      have h3 := h.six (.tail _ (.tail _ (.tail _ (.tail _ (.head _)))))
      exact ⟨h1.c0, h1.c1, h2.c0, h2.c1, h2.c2, h2.c3, h2.c4, h2.c5, h3.c0, h3.c1, h3.c2, h3.c3, h3.c4, h3.c5, h⟩
    have GET : Hid (∀ w', (w'.cell? ⟨rx, 0, none⟩ = some (.slice bx mn0 mn0) ∧ w'.cell? ⟨rx, 1, none⟩ = some (.slice bx' mk0 mk0) ∧ w'.cell? ⟨w.heap.size + 1, 0, none⟩ = some (.int .i64 x0) ∧ w'.cell? ⟨w.heap.size + 1, 1, none⟩ = some (.bool x1) ∧ w'.cell? ⟨w.heap.size + 1, 2, none⟩ = some (.int .i64 x2) ∧ w'.cell? ⟨w.heap.size + 1, 3, none⟩ = some (.int .i64 x3) ∧ w'.cell? ⟨w.heap.size + 1, 4, none⟩ = some (.int .i64 x4) ∧ w'.cell? ⟨w.heap.size + 1, 5, none⟩ = some (.int .i64 x5) ∧ w'.cell? ⟨w.heap.size + 1 + 1, 0, none⟩ = some (.int .i64 x7) ∧ w'.cell? ⟨w.heap.size + 1 + 1, 1, none⟩ = some (.bool x8) ∧ w'.cell? ⟨w.heap.size + 1 + 1, 2, none⟩ = some (.int .i64 x9) ∧ w'.cell? ⟨w.heap.size + 1 + 1, 3, none⟩ = some (.int .i64 x10) ∧ w'.cell? ⟨w.heap.size + 1 + 1, 4, none⟩ = some (.int .i64 x11) ∧ w'.cell? ⟨w.heap.size + 1 + 1, 5, none⟩ = some (.int .i64 x12) ∧ Hid (Hold w w' [duoF rx (.slice bx mn0 mn0) (.slice bx' mk0 mk0), ansF bx bx' mn0 mk0 mL0 mG0, duoF r1 (.slice b1 n1 d1) (.slice b1' n2 d1'), ansF b1 b1' n1 n2 LL GG, sixF (w.heap.size + 1 + 1) ⟨x7, x8, x9, x10, x11, x12⟩, sixF (w.heap.size + 1) ⟨x0, x1, x2, x3, x4, x5⟩, duoF w.heap.size (.slice ma0 mn0 mc0) (.slice mb0 mk0 md0), argF w.heap.size ma0 mn0 mb0 mk0 mL0 mG0])) → Hold w w' [duoF rx (.slice bx mn0 mn0) (.slice bx' mk0 mk0), ansF bx bx' mn0 mk0 mL0 mG0, duoF r1 (.slice b1 n1 d1) (.slice b1' n2 d1'), ansF b1 b1' n1 n2 LL GG, sixF (w.heap.size + 1 + 1) ⟨x7, x8, x9, x10, x11, x12⟩, sixF (w.heap.size + 1) ⟨x0, x1, x2, x3, x4, x5⟩, duoF w.heap.size (.slice ma0 mn0 mc0) (.slice mb0 mk0 md0), argF w.heap.size ma0 mn0 mb0 mk0 mL0 mG0]) := fun w' h => h.2.2.2.2.2.2.2.2.2.2.2.2.2.2
    have WS : Hid (∀ w1 r v0 v1, Hold w w1 [duoF rx (.slice bx mn0 mn0) (.slice bx' mk0 mk0), ansF bx bx' mn0 mk0 mL0 mG0, duoF r1 (.slice b1 n1 d1) (.slice b1' n2 d1'), ansF b1 b1' n1 n2 LL GG, sixF (w.heap.size + 1 + 1) ⟨x7, x8, x9, x10, x11, x12⟩, sixF (w.heap.size + 1) ⟨x0, x1, x2, x3, x4, x5⟩, duoF w.heap.size (.slice ma0 mn0 mc0) (.slice mb0 mk0 md0), argF w.heap.size ma0 mn0 mb0 mk0 mL0 mG0] → W.heap.size ≤ r → Hold w ((w1.setCell ⟨r, 0, none⟩ v0).setCell ⟨r, 1, none⟩ v1) [duoF rx (.slice bx mn0 mn0) (.slice bx' mk0 mk0), ansF bx bx' mn0 mk0 mL0 mG0, duoF r1 (.slice b1 n1 d1) (.slice b1' n2 d1'), ansF b1 b1' n1 n2 LL GG, sixF (w.heap.size + 1 + 1) ⟨x7, x8, x9, x10, x11, x12⟩, sixF (w.heap.size + 1) ⟨x0, x1, x2, x3, x4, x5⟩, duoF w.heap.size (.slice ma0 mn0 mc0) (.slice mb0 mk0 md0), argF w.heap.size ma0 mn0 mb0 mk0 mL0 mG0]) := fun w1 r v0 v1 h hr => h.set2 (by have := HW.out.1; omega) (fun f hf k hk e => by have := HW.out.2 f hf k hk; omega) v0 v1
    have RS : Hid (∀ (w1 : World) (o o' : Obj), Hold w (w1.alloc o) [duoF rx (.slice bx mn0 mn0) (.slice bx' mk0 mk0), ansF bx bx' mn0 mk0 mL0 mG0, duoF r1 (.slice b1 n1 d1) (.slice b1' n2 d1'), ansF b1 b1' n1 n2 LL GG, sixF (w.heap.size + 1 + 1) ⟨x7, x8, x9, x10, x11, x12⟩, sixF (w.heap.size + 1) ⟨x0, x1, x2, x3, x4, x5⟩, duoF w.heap.size (.slice ma0 mn0 mc0) (.slice mb0 mk0 md0), argF w.heap.size ma0 mn0 mb0 mk0 mL0 mG0] → W.heap.size ≤ w1.heap.size → Hold w (w1.alloc o') [duoF rx (.slice bx mn0 mn0) (.slice bx' mk0 mk0), ansF bx bx' mn0 mk0 mL0 mG0, duoF r1 (.slice b1 n1 d1) (.slice b1' n2 d1'), ansF b1 b1' n1 n2 LL GG, sixF (w.heap.size + 1 + 1) ⟨x7, x8, x9, x10, x11, x12⟩, sixF (w.heap.size + 1) ⟨x0, x1, x2, x3, x4, x5⟩, duoF w.heap.size (.slice ma0 mn0 mc0) (.slice mb0 mk0 md0), argF w.heap.size ma0 mn0 mb0 mk0 mL0 mG0]) := fun w1 o o' h hr => h.realloc (by have := HW.out.1; omega) (fun f hf k hk => by have := HW.out.2 f hf k hk; omega)
    have F0 := hid_mk H.out.drew
    have H0 := H
    have hzW : W.drew.heap.size = W.heap.size := by simp
    clear H
    go_cut [13, 14] (fun pv qv wx => ∃ (r : Nat) (b : Option Addr) (d : Nat) (b' : Option Addr) (d' : Nat), pv = .pointer (some ⟨r, 0, none⟩) ∧ qv = .int .i64 z ∧ W.heap.size ≤ r ∧ Hid (Duo wx r (.slice b n1 d) (.slice b' n2 d')) ∧ Hid (AnsM b b' n1 n2 LL GG wx) ∧ Hid (∀ k, On b k ∨ On b' k → W.heap.size ≤ k ∧ k ≠ r) ∧ Hid (Hold w wx [duoF rx (.slice bx mn0 mn0) (.slice bx' mk0 mk0), ansF bx bx' mn0 mk0 mL0 mG0, duoF r1 (.slice b1 n1 d1) (.slice b1' n2 d1'), ansF b1 b1' n1 n2 LL GG, sixF (w.heap.size + 1 + 1) ⟨x7, x8, x9, x10, x11, x12⟩, sixF (w.heap.size + 1) ⟨x0, x1, x2, x3, x4, x5⟩, duoF w.heap.size (.slice ma0 mn0 mc0) (.slice mb0 mk0 md0), argF w.heap.size ma0 mn0 mb0 mk0 mL0 mG0]))
    case first =>
      go_region_held3 (fun w' => w'.cell? ⟨rx, 0, none⟩ = some (.slice bx mn0 mn0) ∧ w'.cell? ⟨rx, 1, none⟩ = some (.slice bx' mk0 mk0) ∧ w'.cell? ⟨w.heap.size + 1, 0, none⟩ = some (.int .i64 x0) ∧ w'.cell? ⟨w.heap.size + 1, 1, none⟩ = some (.bool x1) ∧ w'.cell? ⟨w.heap.size + 1, 2, none⟩ = some (.int .i64 x2) ∧ w'.cell? ⟨w.heap.size + 1, 3, none⟩ = some (.int .i64 x3) ∧ w'.cell? ⟨w.heap.size + 1, 4, none⟩ = some (.int .i64 x4) ∧ w'.cell? ⟨w.heap.size + 1, 5, none⟩ = some (.int .i64 x5) ∧ w'.cell? ⟨w.heap.size + 1 + 1, 0, none⟩ = some (.int .i64 x7) ∧ w'.cell? ⟨w.heap.size + 1 + 1, 1, none⟩ = some (.bool x8) ∧ w'.cell? ⟨w.heap.size + 1 + 1, 2, none⟩ = some (.int .i64 x9) ∧ w'.cell? ⟨w.heap.size + 1 + 1, 3, none⟩ = some (.int .i64 x10) ∧ w'.cell? ⟨w.heap.size + 1 + 1, 4, none⟩ = some (.int .i64 x11) ∧ w'.cell? ⟨w.heap.size + 1 + 1, 5, none⟩ = some (.int .i64 x12) ∧ Hid (Hold w w' [duoF rx (.slice bx mn0 mn0) (.slice bx' mk0 mk0), ansF bx bx' mn0 mk0 mL0 mG0, duoF r1 (.slice b1 n1 d1) (.slice b1' n2 d1'), ansF b1 b1' n1 n2 LL GG, sixF (w.heap.size + 1 + 1) ⟨x7, x8, x9, x10, x11, x12⟩, sixF (w.heap.size + 1) ⟨x0, x1, x2, x3, x4, x5⟩, duoF w.heap.size (.slice ma0 mn0 mc0) (.slice mb0 mk0 md0), argF w.heap.size ma0 mn0 mb0 mk0 mL0 mG0]))
        (first | (with_reducible assumption) | (((with_reducible refine ALL.out _ ?_); (first | (with_reducible exact F0.out) | ((with_reducible apply Hold.drew); (with_reducible apply Hold.alloc); (with_reducible exact H0.out)) | ((with_reducible apply Hold.next ?_ K2.out); (with_reducible exact GET.out _ (by with_reducible assumption))) | ((with_reducible apply Hold.next ?_ K3.out); (with_reducible exact GET.out _ (by with_reducible assumption))) | ((with_reducible apply Hold.next ?_ K4.out); (with_reducible exact GET.out _ (by with_reducible assumption))) | ((with_reducible apply RS.out _ _ _ (GET.out _ (by with_reducible assumption))); omega) | ((with_reducible apply Hold.alloc); (with_reducible exact GET.out _ (by with_reducible assumption))) | ((with_reducible apply WS.out _ _ _ _ (GET.out _ (by with_reducible assumption))); omega) | fail))))
        (first
          | (go_at_call_of 29 (Value.agg #[.int .i64 x0, .bool x1, .int .i64 x2, .int .i64 x3, .int .i64 x4, .int .i64 x5]); refine (toWord_any x0 x1 x2 x3 x4 x5 _).mono ?_; rintro e wy ⟨rfl, hb⟩; have K2 := hid_mk hb; have zK2 := hb.size; (try simp at zK2); (first | (with_reducible have Z := hid_mk (Z.out.below hb); obtain ⟨zl, zc0, zc1, zf0, zf1⟩ := Z.out) | (with_reducible have Z := hid_mk ((Duo.new _ (.slice none 0 0) (.slice none 0 0) 27).below hb); obtain ⟨zl, zc0, zc1, zf0, zf1⟩ := Z.out) | (with_reducible have Z := hid_mk ((Duo.new _ (.slice none 0 0) (.slice none 0 0) 27).drew.below hb); obtain ⟨zl, zc0, zc1, zf0, zf1⟩ := Z.out) | skip); clear hb)
          | (go_at_call_of 29 (Value.agg #[.int .i64 x7, .bool x8, .int .i64 x9, .int .i64 x10, .int .i64 x11, .int .i64 x12]); refine (toWord_any x7 x8 x9 x10 x11 x12 _).mono ?_; rintro e wz ⟨rfl, hb⟩; have K3 := hid_mk hb; have zK3 := hb.size; (try simp at zK3); (first | (with_reducible have Z := hid_mk (Z.out.below hb); obtain ⟨zl, zc0, zc1, zf0, zf1⟩ := Z.out) | (with_reducible have Z := hid_mk ((Duo.new _ (.slice none 0 0) (.slice none 0 0) 27).below hb); obtain ⟨zl, zc0, zc1, zf0, zf1⟩ := Z.out) | (with_reducible have Z := hid_mk ((Duo.new _ (.slice none 0 0) (.slice none 0 0) 27).drew.below hb); obtain ⟨zl, zc0, zc1, zf0, zf1⟩ := Z.out) | skip); clear hb)
          | (go_at_call 23; refine (S2.out _ _ _ (AnsM.mem ((GET.out _ (by with_reducible assumption)).ans (.tail _ (.head _))) hn1 hn2) (E0.out.below (GET.out _ (by with_reducible assumption)).bel)).mono ?_; rintro e wv ⟨b, d, b', d', rfl, AW, hf, hb⟩; have K4 := hid_mk hb; have zK4 := hb.size; (try simp at zK4); (first | (with_reducible have Z := hid_mk (Z.out.below hb); obtain ⟨zl, zc0, zc1, zf0, zf1⟩ := Z.out) | (with_reducible have Z := hid_mk ((Duo.new _ (.slice none 0 0) (.slice none 0 0) 27).below hb); obtain ⟨zl, zc0, zc1, zf0, zf1⟩ := Z.out) | (with_reducible have Z := hid_mk ((Duo.new _ (.slice none 0 0) (.slice none 0 0) 27).drew.below hb); obtain ⟨zl, zc0, zc1, zf0, zf1⟩ := Z.out) | skip); have AW := hid_mk AW; have HF := hid_mk hf; clear hf; clear hb))
      all_goals
        have hfk := hid_mk (fun k hk => And.intro (HF.out k hk) (AW.out.lt (k := k) hk))
        go_wp2_with fail
        go_meet
        case rel =>
          refine ⟨_, b, d, b', d', rfl, rfl, ?_, ⟨?_, by go_simp, by go_simp, by go_simp, by go_simp⟩, ?_, fun k hk => ?_, GET.out _ (by with_reducible assumption)⟩
          · first | omega | (simp; done) | (simp; omega)
          · first | (simp; done) | (simp; omega)
          · first | (with_reducible exact hid_mk (AW.out.below ((Below.refl _ _).alloc (Nat.le_refl _) _))) | (exact hid_mk (AW.out.two (fun k hk => by have := hfk.out k hk; (try simp at this); omega) _ _))
          · have h1 := hfk.out k hk
            (try simp at h1)
            omega
    case' rest =>
      obtain ⟨r2, b2, d2, b2', d2', rfl, rfl, hr2, X2, A2, Q2, H⟩ := hcut
    clear ALL GET WS RS F0 H0 hzW
    replace H := hid_mk ((H.out.push (ansF b2 b2' n1 n2 LL GG) A2.out).push (duoF r2 (.slice b2 n1 d2) (.slice b2' n2 d2')) X2.out)
    have QG : Hid (∀ k, On b2 k ∨ On b2' k → rx < k ∧ k ≠ r2) := fun k hk => by have := Q2.out k hk; exact ⟨by omega, this.2⟩
    have hrg : rx < r2 := by omega
    clear X2 A2 Q2 HW
    obtain ⟨_, m0, m1, _, _⟩ := H.out.duo (.head _)
    obtain ⟨_, o0, o1, _, _⟩ := H.out.duo (.tail _ (.tail _ (.tail _ (.tail _ (.head _)))))
    go_wp2_with fail
    refine (eqMemory_same _ _ _ _ _ _ _ _ _ _ LL GG _ (AnsM.mem (H.out.ans (.tail _ (.head _))) hk1 hk2) (AnsM.mem (H.out.ans (.tail _ (.tail _ (.tail _ (.tail _ (.tail _ (.head _))))))) hk1 hk2)).mono ?_
    rintro e w10 ⟨rfl, hb10⟩
    replace H := hid_mk (H.out.next hb10)
    clear hb10 m0 m1 o0 o1
    go_upto_region 10 with fail
    have ALL : Hid (∀ w', Hold w w' [duoF r2 (.slice b2 n1 d2) (.slice b2' n2 d2'), ansF b2 b2' n1 n2 LL GG, duoF rx (.slice bx mn0 mn0) (.slice bx' mk0 mk0), ansF bx bx' mn0 mk0 mL0 mG0, duoF r1 (.slice b1 n1 d1) (.slice b1' n2 d1'), ansF b1 b1' n1 n2 LL GG, sixF (w.heap.size + 1 + 1) ⟨x7, x8, x9, x10, x11, x12⟩, sixF (w.heap.size + 1) ⟨x0, x1, x2, x3, x4, x5⟩, duoF w.heap.size (.slice ma0 mn0 mc0) (.slice mb0 mk0 md0), argF w.heap.size ma0 mn0 mb0 mk0 mL0 mG0] → (w'.cell? ⟨rx, 0, none⟩ = some (.slice bx mn0 mn0) ∧ w'.cell? ⟨rx, 1, none⟩ = some (.slice bx' mk0 mk0) ∧ w'.cell? ⟨w.heap.size, 0, none⟩ = some (.slice ma0 mn0 mc0) ∧ w'.cell? ⟨w.heap.size, 1, none⟩ = some (.slice mb0 mk0 md0) ∧ Hid (Hold w w' [duoF r2 (.slice b2 n1 d2) (.slice b2' n2 d2'), ansF b2 b2' n1 n2 LL GG, duoF rx (.slice bx mn0 mn0) (.slice bx' mk0 mk0), ansF bx bx' mn0 mk0 mL0 mG0, duoF r1 (.slice b1 n1 d1) (.slice b1' n2 d1'), ansF b1 b1' n1 n2 LL GG, sixF (w.heap.size + 1 + 1) ⟨x7, x8, x9, x10, x11, x12⟩, sixF (w.heap.size + 1) ⟨x0, x1, x2, x3, x4, x5⟩, duoF w.heap.size (.slice ma0 mn0 mc0) (.slice mb0 mk0 md0), argF w.heap.size ma0 mn0 mb0 mk0 mL0 mG0]))) := fun w' h => by
      have h1 := h.duo (.tail _ (.tail _ (.head _)))
      have h2 := h.duo (.tail _ (.tail _ (.tail _ (.tail _ (.tail _ (.tail _ (.tail _ (.tail _ (.head _)))))))))
      exact ⟨h1.c0, h1.c1, h2.c0, h2.c1, h⟩
    have GET : Hid (∀ w', (w'.cell? ⟨rx, 0, none⟩ = some (.slice bx mn0 mn0) ∧ w'.cell? ⟨rx, 1, none⟩ = some (.slice bx' mk0 mk0) ∧ w'.cell? ⟨w.heap.size, 0, none⟩ = some (.slice ma0 mn0 mc0) ∧ w'.cell? ⟨w.heap.size, 1, none⟩ = some (.slice mb0 mk0 md0) ∧ Hid (Hold w w' [duoF r2 (.slice b2 n1 d2) (.slice b2' n2 d2'), ansF b2 b2' n1 n2 LL GG, duoF rx (.slice bx mn0 mn0) (.slice bx' mk0 mk0), ansF bx bx' mn0 mk0 mL0 mG0, duoF r1 (.slice b1 n1 d1) (.slice b1' n2 d1'), ansF b1 b1' n1 n2 LL GG, sixF (w.heap.size + 1 + 1) ⟨x7, x8, x9, x10, x11, x12⟩, sixF (w.heap.size + 1) ⟨x0, x1, x2, x3, x4, x5⟩, duoF w.heap.size (.slice ma0 mn0 mc0) (.slice mb0 mk0 md0), argF w.heap.size ma0 mn0 mb0 mk0 mL0 mG0])) → Hold w w' [duoF r2 (.slice b2 n1 d2) (.slice b2' n2 d2'), ansF b2 b2' n1 n2 LL GG, duoF rx (.slice bx mn0 mn0) (.slice bx' mk0 mk0), ansF bx bx' mn0 mk0 mL0 mG0, duoF r1 (.slice b1 n1 d1) (.slice b1' n2 d1'), ansF b1 b1' n1 n2 LL GG, sixF (w.heap.size + 1 + 1) ⟨x7, x8, x9, x10, x11, x12⟩, sixF (w.heap.size + 1) ⟨x0, x1, x2, x3, x4, x5⟩, duoF w.heap.size (.slice ma0 mn0 mc0) (.slice mb0 mk0 md0), argF w.heap.size ma0 mn0 mb0 mk0 mL0 mG0]) := fun w' h => h.2.2.2.2
    have F0 := hid_mk H.out.drew
    clear H
    go_region_held3 (fun w' => w'.cell? ⟨rx, 0, none⟩ = some (.slice bx mn0 mn0) ∧ w'.cell? ⟨rx, 1, none⟩ = some (.slice bx' mk0 mk0) ∧ w'.cell? ⟨w.heap.size, 0, none⟩ = some (.slice ma0 mn0 mc0) ∧ w'.cell? ⟨w.heap.size, 1, none⟩ = some (.slice mb0 mk0 md0) ∧ Hid (Hold w w' [duoF r2 (.slice b2 n1 d2) (.slice b2' n2 d2'), ansF b2 b2' n1 n2 LL GG, duoF rx (.slice bx mn0 mn0) (.slice bx' mk0 mk0), ansF bx bx' mn0 mk0 mL0 mG0, duoF r1 (.slice b1 n1 d1) (.slice b1' n2 d1'), ansF b1 b1' n1 n2 LL GG, sixF (w.heap.size + 1 + 1) ⟨x7, x8, x9, x10, x11, x12⟩, sixF (w.heap.size + 1) ⟨x0, x1, x2, x3, x4, x5⟩, duoF w.heap.size (.slice ma0 mn0 mc0) (.slice mb0 mk0 md0), argF w.heap.size ma0 mn0 mb0 mk0 mL0 mG0]))
      (first | (with_reducible assumption) | (((with_reducible refine ALL.out _ ?_); (first | (with_reducible exact F0.out) | ((with_reducible apply Hold.next ?_ K8.out); (with_reducible exact GET.out _ (by with_reducible assumption))) | ((with_reducible apply Hold.next ?_ K9.out); (with_reducible exact GET.out _ (by with_reducible assumption))) | fail))))
      (first
        | (go_at_call 28; refine (toMemory_ans _ _ _ _ _ _ mL0 mG0 _ hn1 hn2 ((GET.out _ (by with_reducible assumption)).arg (.tail _ (.tail _ (.tail _ (.tail _ (.tail _ (.tail _ (.tail _ (.tail _ (.tail _ (.head _)))))))))))).mono ?_; rintro e wt ⟨bt, bt', rfl, AT, _, hbt⟩; have K8 := hid_mk hbt; have AT := hid_mk AT; clear hbt)
        | (go_at_call 30; refine (eqMemory_same _ _ _ _ _ _ _ _ _ _ mL0 mG0 _ (AnsM.mem ((GET.out _ (by with_reducible assumption)).ans (.tail _ (.tail _ (.tail _ (.head _))))) hn1 hn2) (AT.out.mem hn1 hn2)).mono ?_; rintro e wu ⟨rfl, hbu⟩; have K9 := hid_mk hbu; clear hbu))
    have H := hid_mk (GET.out _ (by with_reducible assumption))
    clear ALL GET F0 K8 K9 AT
    go_upto_region 12 with fail
    obtain ⟨_, m0, m1, _, _⟩ := H.out.duo (.tail _ (.tail _ (.head _)))
    go_wp2_with fail
    refine (markMem_ans _ _ _ _ _ _ mL0 mG0 hn1 hn2 _ (H.out.ans (.tail _ (.tail _ (.tail _ (.head _)))))).mono ?_
    rintro e w13 ⟨rfl, _, hK13⟩
    rw [← HMX.out]
    replace H := hid_mk ((H.out.sub (gs := [duoF r2 (.slice b2 n1 d2) (.slice b2' n2 d2'), ansF b2 b2' n1 n2 LL GG, duoF r1 (.slice b1 n1 d1) (.slice b1' n2 d1'), ansF b1 b1' n1 n2 LL GG, sixF (w.heap.size + 1 + 1) ⟨x7, x8, x9, x10, x11, x12⟩, sixF (w.heap.size + 1) ⟨x0, x1, x2, x3, x4, x5⟩, duoF w.heap.size (.slice ma0 mn0 mc0) (.slice mb0 mk0 md0), argF w.heap.size ma0 mn0 mb0 mk0 mL0 mG0]) (fun f hf => by
      simp only [List.mem_cons, List.not_mem_nil, or_false] at hf ⊢
      rcases hf with rfl | rfl | rfl | rfl | rfl | rfl | rfl | rfl
      · exact .inl rfl
      · exact .inr (.inl rfl)
      · exact .inr (.inr (.inr (.inr (.inl rfl))))
      · exact .inr (.inr (.inr (.inr (.inr (.inl rfl)))))
      · exact .inr (.inr (.inr (.inr (.inr (.inr (.inl rfl))))))
      · exact .inr (.inr (.inr (.inr (.inr (.inr (.inr (.inl rfl)))))))
      · exact .inr (.inr (.inr (.inr (.inr (.inr (.inr (.inr (.inl rfl))))))))
      · exact .inr (.inr (.inr (.inr (.inr (.inr (.inr (.inr (.inr rfl)))))))))).wrote hK13 (fun k hk => by have := QX.out k hk; omega) (fun f hf k hk ht => by
      have hx := QX.out k ht
      have hs := hsx
      simp only [List.mem_cons, List.not_mem_nil, or_false] at hf
      rcases hf with rfl | rfl | rfl | rfl | rfl | rfl | rfl | rfl
      · simp only [duoF] at hk; omega
      · have := QG.out k hk; omega
      · simp only [duoF] at hk; omega
      · have := QW.out k hk; omega
      · simp only [sixF] at hk; omega
      · simp only [sixF] at hk; omega
      · simp only [duoF] at hk; omega
      · simp only [argF] at hk; omega))
    clear hK13 m0 m1
    obtain ⟨_, m0, m1, _, _⟩ := H.out.duo (.head _)
    obtain ⟨_, o0, o1, _, _⟩ := H.out.duo (.tail _ (.tail _ (.head _)))
    go_wp2_with fail
    refine (eqMemory_same _ _ _ _ _ _ _ _ _ _ LL GG _ (AnsM.mem (H.out.ans (.tail _ (.head _))) hk1 hk2) (AnsM.mem (H.out.ans (.tail _ (.tail _ (.tail _ (.head _))))) hk1 hk2)).mono ?_
    rintro e w14 ⟨rfl, hb14⟩
    replace H := hid_mk (H.out.next hb14)
    clear hb14 m0 m1 o0 o1
    obtain ⟨_, m0, m1, _, _⟩ := H.out.duo (.head _)
    go_wp2_with fail
    refine (markMem_ans _ _ _ _ _ _ LL GG hk1 hk2 _ (H.out.ans (.tail _ (.head _)))).mono ?_
    rintro e w17 ⟨rfl, AM, hK17⟩
    rw [← HMG.out]
    replace H := hid_mk (((H.out.sub (gs := [duoF r2 (.slice b2 n1 d2) (.slice b2' n2 d2'), duoF r1 (.slice b1 n1 d1) (.slice b1' n2 d1'), ansF b1 b1' n1 n2 LL GG, sixF (w.heap.size + 1 + 1) ⟨x7, x8, x9, x10, x11, x12⟩, sixF (w.heap.size + 1) ⟨x0, x1, x2, x3, x4, x5⟩, duoF w.heap.size (.slice ma0 mn0 mc0) (.slice mb0 mk0 md0), argF w.heap.size ma0 mn0 mb0 mk0 mL0 mG0]) (fun f hf => by
      simp only [List.mem_cons, List.not_mem_nil, or_false] at hf ⊢
      rcases hf with rfl | rfl | rfl | rfl | rfl | rfl | rfl
      · exact .inl rfl
      · exact .inr (.inr (.inl rfl))
      · exact .inr (.inr (.inr (.inl rfl)))
      · exact .inr (.inr (.inr (.inr (.inl rfl))))
      · exact .inr (.inr (.inr (.inr (.inr (.inl rfl)))))
      · exact .inr (.inr (.inr (.inr (.inr (.inr (.inl rfl))))))
      · exact .inr (.inr (.inr (.inr (.inr (.inr (.inr rfl)))))))).wrote hK17 (fun k hk => by have := QG.out k hk; omega) (fun f hf k hk ht => by
      have hx := QG.out k ht
      have hs := hsx
      simp only [List.mem_cons, List.not_mem_nil, or_false] at hf
      rcases hf with rfl | rfl | rfl | rfl | rfl | rfl | rfl
      · simp only [duoF] at hk; omega
      · simp only [duoF] at hk; omega
      · have := QW.out k hk; omega
      · simp only [sixF] at hk; omega
      · simp only [sixF] at hk; omega
      · simp only [duoF] at hk; omega
      · simp only [argF] at hk; omega)).push (ansF b2 b2' n1 n2 (marksW 1 n1) (marksB (1 + 6 * (n1 : Int)) n2)) AM)
    clear hK17 m0 m1 AM
    obtain ⟨_, m0, m1, _, _⟩ := H.out.duo (.tail _ (.head _))
    go_wp2_with fail
    refine (heldMem_any _ _ _ _ _ _ hk1 hk2 _ (AnsM.mem (H.out.ans (.head _)) hk1 hk2)).mono ?_
    rintro e W ⟨rfl, hb19⟩
    rw [← HMG.out]
    replace H := hid_mk (H.out.next hb19)
    clear hb19 m0 m1
    go_upto_region 24 with fail
    have HW : Hid (w.heap.size ≤ W.heap.size ∧ ∀ f ∈ [ansF b2 b2' n1 n2 (marksW 1 n1) (marksB (1 + 6 * (n1 : Int)) n2), duoF r2 (.slice b2 n1 d2) (.slice b2' n2 d2'), duoF r1 (.slice b1 n1 d1) (.slice b1' n2 d1'), ansF b1 b1' n1 n2 LL GG, sixF (w.heap.size + 1 + 1) ⟨x7, x8, x9, x10, x11, x12⟩, sixF (w.heap.size + 1) ⟨x0, x1, x2, x3, x4, x5⟩, duoF w.heap.size (.slice ma0 mn0 mc0) (.slice mb0 mk0 md0), argF w.heap.size ma0 mn0 mb0 mk0 mL0 mG0], ∀ k, f.S k → k < W.heap.size) := by
      have hx0 := (H.out.duo (.tail _ (.head _))).lt
      have hA := H.out.ans (.head _)
      refine ⟨by omega, fun f hf k hk => ?_⟩
      simp only [List.mem_cons, List.not_mem_nil, or_false] at hf
      rcases hf with rfl | rfl | rfl | rfl | rfl | rfl | rfl | rfl
      · exact hA.lt hk
      · simp only [duoF] at hk; omega
      · simp only [duoF] at hk; omega
      · have := QW.out k hk; omega
      · simp only [sixF] at hk; omega
      · simp only [sixF] at hk; omega
      · simp only [duoF] at hk; omega
      · simp only [argF] at hk; omega
    have ALL : Hid (∀ w', Hold w w' [ansF b2 b2' n1 n2 (marksW 1 n1) (marksB (1 + 6 * (n1 : Int)) n2), duoF r2 (.slice b2 n1 d2) (.slice b2' n2 d2'), duoF r1 (.slice b1 n1 d1) (.slice b1' n2 d1'), ansF b1 b1' n1 n2 LL GG, sixF (w.heap.size + 1 + 1) ⟨x7, x8, x9, x10, x11, x12⟩, sixF (w.heap.size + 1) ⟨x0, x1, x2, x3, x4, x5⟩, duoF w.heap.size (.slice ma0 mn0 mc0) (.slice mb0 mk0 md0), argF w.heap.size ma0 mn0 mb0 mk0 mL0 mG0] → (w'.cell? ⟨w.heap.size, 0, none⟩ = some (.slice ma0 mn0 mc0) ∧ w'.cell? ⟨w.heap.size, 1, none⟩ = some (.slice mb0 mk0 md0) ∧ w'.cell? ⟨w.heap.size + 1, 0, none⟩ = some (.int .i64 x0) ∧ w'.cell? ⟨w.heap.size + 1, 1, none⟩ = some (.bool x1) ∧ w'.cell? ⟨w.heap.size + 1, 2, none⟩ = some (.int .i64 x2) ∧ w'.cell? ⟨w.heap.size + 1, 3, none⟩ = some (.int .i64 x3) ∧ w'.cell? ⟨w.heap.size + 1, 4, none⟩ = some (.int .i64 x4) ∧ w'.cell? ⟨w.heap.size + 1, 5, none⟩ = some (.int .i64 x5) ∧ w'.cell? ⟨w.heap.size + 1 + 1, 0, none⟩ = some (.int .i64 x7) ∧ w'.cell? ⟨w.heap.size + 1 + 1, 1, none⟩ = some (.bool x8) ∧ w'.cell? ⟨w.heap.size + 1 + 1, 2, none⟩ = some (.int .i64 x9) ∧ w'.cell? ⟨w.heap.size + 1 + 1, 3, none⟩ = some (.int .i64 x10) ∧ w'.cell? ⟨w.heap.size + 1 + 1, 4, none⟩ = some (.int .i64 x11) ∧ w'.cell? ⟨w.heap.size + 1 + 1, 5, none⟩ = some (.int .i64 x12) ∧ Hid (Hold w w' [ansF b2 b2' n1 n2 (marksW 1 n1) (marksB (1 + 6 * (n1 : Int)) n2), duoF r2 (.slice b2 n1 d2) (.slice b2' n2 d2'), duoF r1 (.slice b1 n1 d1) (.slice b1' n2 d1'), ansF b1 b1' n1 n2 LL GG, sixF (w.heap.size + 1 + 1) ⟨x7, x8, x9, x10, x11, x12⟩, sixF (w.heap.size + 1) ⟨x0, x1, x2, x3, x4, x5⟩, duoF w.heap.size (.slice ma0 mn0 mc0) (.slice mb0 mk0 md0), argF w.heap.size ma0 mn0 mb0 mk0 mL0 mG0]))) := fun w' h => by
      have h1 := h.duo (.tail _ (.tail _ (.tail _ (.tail _ (.tail _ (.tail _ (.head _)))))))
      have h2 := h.six (.tail _ (.tail _ (.tail _ (.tail _ (.tail _ (.head _))))))
      have h3 := h.six (.tail _ (.tail _ (.tail _ (.tail _ (.head _)))))
      exact ⟨h1.c0, h1.c1, h2.c0, h2.c1, h2.c2, h2.c3, h2.c4, h2.c5, h3.c0, h3.c1, h3.c2, h3.c3, h3.c4, h3.c5, h⟩
    have GET : Hid (∀ w', (w'.cell? ⟨w.heap.size, 0, none⟩ = some (.slice ma0 mn0 mc0) ∧ w'.cell? ⟨w.heap.size, 1, none⟩ = some (.slice mb0 mk0 md0) ∧ w'.cell? ⟨w.heap.size + 1, 0, none⟩ = some (.int .i64 x0) ∧ w'.cell? ⟨w.heap.size + 1, 1, none⟩ = some (.bool x1) ∧ w'.cell? ⟨w.heap.size + 1, 2, none⟩ = some (.int .i64 x2) ∧ w'.cell? ⟨w.heap.size + 1, 3, none⟩ = some (.int .i64 x3) ∧ w'.cell? ⟨w.heap.size + 1, 4, none⟩ = some (.int .i64 x4) ∧ w'.cell? ⟨w.heap.size + 1, 5, none⟩ = some (.int .i64 x5) ∧ w'.cell? ⟨w.heap.size + 1 + 1, 0, none⟩ = some (.int .i64 x7) ∧ w'.cell? ⟨w.heap.size + 1 + 1, 1, none⟩ = some (.bool x8) ∧ w'.cell? ⟨w.heap.size + 1 + 1, 2, none⟩ = some (.int .i64 x9) ∧ w'.cell? ⟨w.heap.size + 1 + 1, 3, none⟩ = some (.int .i64 x10) ∧ w'.cell? ⟨w.heap.size + 1 + 1, 4, none⟩ = some (.int .i64 x11) ∧ w'.cell? ⟨w.heap.size + 1 + 1, 5, none⟩ = some (.int .i64 x12) ∧ Hid (Hold w w' [ansF b2 b2' n1 n2 (marksW 1 n1) (marksB (1 + 6 * (n1 : Int)) n2), duoF r2 (.slice b2 n1 d2) (.slice b2' n2 d2'), duoF r1 (.slice b1 n1 d1) (.slice b1' n2 d1'), ansF b1 b1' n1 n2 LL GG, sixF (w.heap.size + 1 + 1) ⟨x7, x8, x9, x10, x11, x12⟩, sixF (w.heap.size + 1) ⟨x0, x1, x2, x3, x4, x5⟩, duoF w.heap.size (.slice ma0 mn0 mc0) (.slice mb0 mk0 md0), argF w.heap.size ma0 mn0 mb0 mk0 mL0 mG0])) → Hold w w' [ansF b2 b2' n1 n2 (marksW 1 n1) (marksB (1 + 6 * (n1 : Int)) n2), duoF r2 (.slice b2 n1 d2) (.slice b2' n2 d2'), duoF r1 (.slice b1 n1 d1) (.slice b1' n2 d1'), ansF b1 b1' n1 n2 LL GG, sixF (w.heap.size + 1 + 1) ⟨x7, x8, x9, x10, x11, x12⟩, sixF (w.heap.size + 1) ⟨x0, x1, x2, x3, x4, x5⟩, duoF w.heap.size (.slice ma0 mn0 mc0) (.slice mb0 mk0 md0), argF w.heap.size ma0 mn0 mb0 mk0 mL0 mG0]) := fun w' h => h.2.2.2.2.2.2.2.2.2.2.2.2.2.2
    have WS : Hid (∀ w1 r v0 v1, Hold w w1 [ansF b2 b2' n1 n2 (marksW 1 n1) (marksB (1 + 6 * (n1 : Int)) n2), duoF r2 (.slice b2 n1 d2) (.slice b2' n2 d2'), duoF r1 (.slice b1 n1 d1) (.slice b1' n2 d1'), ansF b1 b1' n1 n2 LL GG, sixF (w.heap.size + 1 + 1) ⟨x7, x8, x9, x10, x11, x12⟩, sixF (w.heap.size + 1) ⟨x0, x1, x2, x3, x4, x5⟩, duoF w.heap.size (.slice ma0 mn0 mc0) (.slice mb0 mk0 md0), argF w.heap.size ma0 mn0 mb0 mk0 mL0 mG0] → W.heap.size ≤ r → Hold w ((w1.setCell ⟨r, 0, none⟩ v0).setCell ⟨r, 1, none⟩ v1) [ansF b2 b2' n1 n2 (marksW 1 n1) (marksB (1 + 6 * (n1 : Int)) n2), duoF r2 (.slice b2 n1 d2) (.slice b2' n2 d2'), duoF r1 (.slice b1 n1 d1) (.slice b1' n2 d1'), ansF b1 b1' n1 n2 LL GG, sixF (w.heap.size + 1 + 1) ⟨x7, x8, x9, x10, x11, x12⟩, sixF (w.heap.size + 1) ⟨x0, x1, x2, x3, x4, x5⟩, duoF w.heap.size (.slice ma0 mn0 mc0) (.slice mb0 mk0 md0), argF w.heap.size ma0 mn0 mb0 mk0 mL0 mG0]) := fun w1 r v0 v1 h hr => h.set2 (by have := HW.out.1; omega) (fun f hf k hk e => by have := HW.out.2 f hf k hk; omega) v0 v1
    have RS : Hid (∀ (w1 : World) (o o' : Obj), Hold w (w1.alloc o) [ansF b2 b2' n1 n2 (marksW 1 n1) (marksB (1 + 6 * (n1 : Int)) n2), duoF r2 (.slice b2 n1 d2) (.slice b2' n2 d2'), duoF r1 (.slice b1 n1 d1) (.slice b1' n2 d1'), ansF b1 b1' n1 n2 LL GG, sixF (w.heap.size + 1 + 1) ⟨x7, x8, x9, x10, x11, x12⟩, sixF (w.heap.size + 1) ⟨x0, x1, x2, x3, x4, x5⟩, duoF w.heap.size (.slice ma0 mn0 mc0) (.slice mb0 mk0 md0), argF w.heap.size ma0 mn0 mb0 mk0 mL0 mG0] → W.heap.size ≤ w1.heap.size → Hold w (w1.alloc o') [ansF b2 b2' n1 n2 (marksW 1 n1) (marksB (1 + 6 * (n1 : Int)) n2), duoF r2 (.slice b2 n1 d2) (.slice b2' n2 d2'), duoF r1 (.slice b1 n1 d1) (.slice b1' n2 d1'), ansF b1 b1' n1 n2 LL GG, sixF (w.heap.size + 1 + 1) ⟨x7, x8, x9, x10, x11, x12⟩, sixF (w.heap.size + 1) ⟨x0, x1, x2, x3, x4, x5⟩, duoF w.heap.size (.slice ma0 mn0 mc0) (.slice mb0 mk0 md0), argF w.heap.size ma0 mn0 mb0 mk0 mL0 mG0]) := fun w1 o o' h hr => h.realloc (by have := HW.out.1; omega) (fun f hf k hk => by have := HW.out.2 f hf k hk; omega)
    have F0 := hid_mk H.out.drew
    have H0 := H
    have hzW : W.drew.heap.size = W.heap.size := by simp
    clear H
    go_cut [18, 19] (fun pv qv wx => ∃ (r : Nat) (b : Option Addr) (d : Nat) (b' : Option Addr) (d' : Nat), pv = .pointer (some ⟨r, 0, none⟩) ∧ qv = .int .i64 z ∧ W.heap.size ≤ r ∧ Hid (Duo wx r (.slice b n1 d) (.slice b' n2 d')) ∧ Hid (AnsM b b' n1 n2 LL GG wx) ∧ Hid (∀ k, On b k ∨ On b' k → W.heap.size ≤ k ∧ k ≠ r) ∧ Hid (Hold w wx [ansF b2 b2' n1 n2 (marksW 1 n1) (marksB (1 + 6 * (n1 : Int)) n2), duoF r2 (.slice b2 n1 d2) (.slice b2' n2 d2'), duoF r1 (.slice b1 n1 d1) (.slice b1' n2 d1'), ansF b1 b1' n1 n2 LL GG, sixF (w.heap.size + 1 + 1) ⟨x7, x8, x9, x10, x11, x12⟩, sixF (w.heap.size + 1) ⟨x0, x1, x2, x3, x4, x5⟩, duoF w.heap.size (.slice ma0 mn0 mc0) (.slice mb0 mk0 md0), argF w.heap.size ma0 mn0 mb0 mk0 mL0 mG0]))
    case first =>
      go_region_held3 (fun w' => w'.cell? ⟨w.heap.size, 0, none⟩ = some (.slice ma0 mn0 mc0) ∧ w'.cell? ⟨w.heap.size, 1, none⟩ = some (.slice mb0 mk0 md0) ∧ w'.cell? ⟨w.heap.size + 1, 0, none⟩ = some (.int .i64 x0) ∧ w'.cell? ⟨w.heap.size + 1, 1, none⟩ = some (.bool x1) ∧ w'.cell? ⟨w.heap.size + 1, 2, none⟩ = some (.int .i64 x2) ∧ w'.cell? ⟨w.heap.size + 1, 3, none⟩ = some (.int .i64 x3) ∧ w'.cell? ⟨w.heap.size + 1, 4, none⟩ = some (.int .i64 x4) ∧ w'.cell? ⟨w.heap.size + 1, 5, none⟩ = some (.int .i64 x5) ∧ w'.cell? ⟨w.heap.size + 1 + 1, 0, none⟩ = some (.int .i64 x7) ∧ w'.cell? ⟨w.heap.size + 1 + 1, 1, none⟩ = some (.bool x8) ∧ w'.cell? ⟨w.heap.size + 1 + 1, 2, none⟩ = some (.int .i64 x9) ∧ w'.cell? ⟨w.heap.size + 1 + 1, 3, none⟩ = some (.int .i64 x10) ∧ w'.cell? ⟨w.heap.size + 1 + 1, 4, none⟩ = some (.int .i64 x11) ∧ w'.cell? ⟨w.heap.size + 1 + 1, 5, none⟩ = some (.int .i64 x12) ∧ Hid (Hold w w' [ansF b2 b2' n1 n2 (marksW 1 n1) (marksB (1 + 6 * (n1 : Int)) n2), duoF r2 (.slice b2 n1 d2) (.slice b2' n2 d2'), duoF r1 (.slice b1 n1 d1) (.slice b1' n2 d1'), ansF b1 b1' n1 n2 LL GG, sixF (w.heap.size + 1 + 1) ⟨x7, x8, x9, x10, x11, x12⟩, sixF (w.heap.size + 1) ⟨x0, x1, x2, x3, x4, x5⟩, duoF w.heap.size (.slice ma0 mn0 mc0) (.slice mb0 mk0 md0), argF w.heap.size ma0 mn0 mb0 mk0 mL0 mG0]))
        (first | (with_reducible assumption) | (((with_reducible refine ALL.out _ ?_); (first | (with_reducible exact F0.out) | ((with_reducible apply Hold.drew); (with_reducible apply Hold.alloc); (with_reducible exact H0.out)) | ((with_reducible apply Hold.next ?_ K1.out); (with_reducible exact GET.out _ (by with_reducible assumption))) | ((with_reducible apply Hold.next ?_ K2.out); (with_reducible exact GET.out _ (by with_reducible assumption))) | ((with_reducible apply Hold.next ?_ K3.out); (with_reducible exact GET.out _ (by with_reducible assumption))) | ((with_reducible apply Hold.next ?_ K4.out); (with_reducible exact GET.out _ (by with_reducible assumption))) | ((with_reducible apply RS.out _ _ _ (GET.out _ (by with_reducible assumption))); omega) | ((with_reducible apply Hold.alloc); (with_reducible exact GET.out _ (by with_reducible assumption))) | ((with_reducible apply WS.out _ _ _ _ (GET.out _ (by with_reducible assumption))); omega) | fail))))
        (first
          | (go_at_call 28; refine (toMemory_ans _ _ _ _ _ _ mL0 mG0 _ hn1 hn2 ((GET.out _ (by with_reducible assumption)).arg (.tail _ (.tail _ (.tail _ (.tail _ (.tail _ (.tail _ (.tail _ (.head _)))))))))).mono ?_; rintro e wt ⟨bt, bt', rfl, AT, _, hb⟩; have K1 := hid_mk hb; have zK1 := hb.size; (try simp at zK1); (first | (with_reducible have Z := hid_mk (Z.out.below hb); obtain ⟨zl, zc0, zc1, zf0, zf1⟩ := Z.out) | (with_reducible have Z := hid_mk ((Duo.new _ (.slice none 0 0) (.slice none 0 0) 27).below hb); obtain ⟨zl, zc0, zc1, zf0, zf1⟩ := Z.out) | (with_reducible have Z := hid_mk ((Duo.new _ (.slice none 0 0) (.slice none 0 0) 27).drew.below hb); obtain ⟨zl, zc0, zc1, zf0, zf1⟩ := Z.out) | skip); have AT := hid_mk AT; clear hb)
          | (go_at_call_of 29 (Value.agg #[.int .i64 x0, .bool x1, .int .i64 x2, .int .i64 x3, .int .i64 x4, .int .i64 x5]); refine (toWord_any x0 x1 x2 x3 x4 x5 _).mono ?_; rintro e wy ⟨rfl, hb⟩; have K2 := hid_mk hb; have zK2 := hb.size; (try simp at zK2); (first | (with_reducible have Z := hid_mk (Z.out.below hb); obtain ⟨zl, zc0, zc1, zf0, zf1⟩ := Z.out) | (with_reducible have Z := hid_mk ((Duo.new _ (.slice none 0 0) (.slice none 0 0) 27).below hb); obtain ⟨zl, zc0, zc1, zf0, zf1⟩ := Z.out) | (with_reducible have Z := hid_mk ((Duo.new _ (.slice none 0 0) (.slice none 0 0) 27).drew.below hb); obtain ⟨zl, zc0, zc1, zf0, zf1⟩ := Z.out) | skip); (first | (with_reducible have AT := hid_mk (AT.out.below hb)) | (with_reducible have AT := hid_mk ((AT.out.below ((Below.refl _ _).alloc (Nat.le_refl _) _)).below hb))); clear hb)
          | (go_at_call_of 29 (Value.agg #[.int .i64 x7, .bool x8, .int .i64 x9, .int .i64 x10, .int .i64 x11, .int .i64 x12]); refine (toWord_any x7 x8 x9 x10 x11 x12 _).mono ?_; rintro e wz ⟨rfl, hb⟩; have K3 := hid_mk hb; have zK3 := hb.size; (try simp at zK3); (first | (with_reducible have Z := hid_mk (Z.out.below hb); obtain ⟨zl, zc0, zc1, zf0, zf1⟩ := Z.out) | (with_reducible have Z := hid_mk ((Duo.new _ (.slice none 0 0) (.slice none 0 0) 27).below hb); obtain ⟨zl, zc0, zc1, zf0, zf1⟩ := Z.out) | (with_reducible have Z := hid_mk ((Duo.new _ (.slice none 0 0) (.slice none 0 0) 27).drew.below hb); obtain ⟨zl, zc0, zc1, zf0, zf1⟩ := Z.out) | skip); (first | (with_reducible have AT := hid_mk (AT.out.below hb)) | (with_reducible have AT := hid_mk ((AT.out.below ((Below.refl _ _).alloc (Nat.le_refl _) _)).below hb))); clear hb)
          | (go_at_call 23; (first | refine (S2.out _ _ _ (AT.out.mem hn1 hn2) (E0.out.below (GET.out _ (by with_reducible assumption)).bel)).mono ?_ | refine (S2.out _ _ _ ((AT.out.below ((Below.refl _ _).alloc (Nat.le_refl _) _)).mem hn1 hn2) (E0.out.below (GET.out _ (by with_reducible assumption)).bel)).mono ?_); rintro e wv ⟨b, d, b', d', rfl, AW, hf, hb⟩; have K4 := hid_mk hb; have zK4 := hb.size; (try simp at zK4); (first | (with_reducible have Z := hid_mk (Z.out.below hb); obtain ⟨zl, zc0, zc1, zf0, zf1⟩ := Z.out) | (with_reducible have Z := hid_mk ((Duo.new _ (.slice none 0 0) (.slice none 0 0) 27).below hb); obtain ⟨zl, zc0, zc1, zf0, zf1⟩ := Z.out) | (with_reducible have Z := hid_mk ((Duo.new _ (.slice none 0 0) (.slice none 0 0) 27).drew.below hb); obtain ⟨zl, zc0, zc1, zf0, zf1⟩ := Z.out) | skip); have AW := hid_mk AW; have HF := hid_mk hf; clear hf; clear hb))
      all_goals
        have hfk := hid_mk (fun k hk => And.intro (HF.out k hk) (AW.out.lt (k := k) hk))
        go_wp2_with fail
        go_meet
        case rel =>
          refine ⟨_, b, d, b', d', rfl, rfl, ?_, ⟨?_, by go_simp, by go_simp, by go_simp, by go_simp⟩, ?_, fun k hk => ?_, GET.out _ (by with_reducible assumption)⟩
          · first | omega | (simp; done) | (simp; omega)
          · first | (simp; done) | (simp; omega)
          · first | (with_reducible exact hid_mk (AW.out.below ((Below.refl _ _).alloc (Nat.le_refl _) _))) | (exact hid_mk (AW.out.two (fun k hk => by have := hfk.out k hk; (try simp at this); omega) _ _))
          · have h1 := hfk.out k hk
            (try simp at h1)
            omega
    case' rest =>
      obtain ⟨r3, b3, d3, b3', d3', rfl, rfl, hr3, X3, A3, Q3, H⟩ := hcut
    clear ALL GET WS RS F0 H0 hzW
    replace H := hid_mk ((H.out.push (ansF b3 b3' n1 n2 LL GG) A3.out).push (duoF r3 (.slice b3 n1 d3) (.slice b3' n2 d3')) X3.out)
    clear X3 A3 Q3 HW
    obtain ⟨_, m0, m1, _, _⟩ := H.out.duo (.head _)
    obtain ⟨_, o0, o1, _, _⟩ := H.out.duo (.tail _ (.tail _ (.tail _ (.tail _ (.head _)))))
    go_wp2_with fail
    refine (eqMemory_same _ _ _ _ _ _ _ _ _ _ LL GG _ (AnsM.mem (H.out.ans (.tail _ (.head _))) hk1 hk2) (AnsM.mem (H.out.ans (.tail _ (.tail _ (.tail _ (.tail _ (.tail _ (.head _))))))) hk1 hk2)).mono ?_
    rintro e w26 ⟨rfl, hb26⟩
    replace H := hid_mk (H.out.next hb26)
    clear hb26 m0 m1 o0 o1
    obtain ⟨_, m0, m1, _, _⟩ := H.out.duo (.tail _ (.tail _ (.tail _ (.head _))))
    go_wp2_with fail
    refine (heldMem_any _ _ _ _ _ _ hk1 hk2 _ (AnsM.mem (H.out.ans (.tail _ (.tail _ (.head _)))) hk1 hk2)).mono ?_
    rintro e w28 ⟨rfl, hb28⟩
    rw [← HMG.out]
    replace H := hid_mk (H.out.next hb28)
    clear hb28 m0 m1
    go_wp2
    go_ret
    exact ⟨rfl, H.out.bel⟩
  · simp only [if_neg hl] at sz
    have SZ := hid_mk sz
    clear sz
    have B0 := hid_mk ((((Below.refl w.heap.size w).alloc (Nat.le_refl _) (.cells #[.slice ma0 mn0 mc0, .slice mb0 mk0 md0] 51)).alloc (by simp) (.cells #[.int .i64 x0, .bool x1, .int .i64 x2, .int .i64 x3, .int .i64 x4, .int .i64 x5] 54)).alloc (by simp; omega) (.cells #[.int .i64 x7, .bool x8, .int .i64 x9, .int .i64 x10, .int .i64 x11, .int .i64 x12] 54))
    go_enter Tryd.func5, Tryd.ntmps5
    go_wp2_with fail
    refine (SZ.out _).mono ?_
    rintro e w2 ⟨rfl, hb2⟩
    have B := hid_mk (B0.out.trans (hb2.mono (by simp; omega)))
    clear hb2
    go_wp2
    go_ret
    exact ⟨rfl, B.out⟩

set_option maxRecDepth 100000 in
theorem lifted (os : Os) (started : os.Started) (H : Type) (enc : TypeId × Value → H) :
    ReturnsInHanded {} Tryd.checked os 5 .any (fun w args => (Rows.fnExactWriteSpec.pre enc Tryd.prog Tryd.f5 [] false w args ∧ laidMetH Tryd.prog Rows.fnExactWriteRow.laid w) ∧ sizedMet enc Tryd.prog Tryd.f5 (OpenSpec.ofChange Rows.fnExactWriteSpec) false w args) (Rows.fnExactWriteSpec.post enc Tryd.prog Tryd.f5 false true false false) := by
  have hp : ∀ w : World, laidMetH Tryd.prog Rows.fnExactWriteRow.laid w = laidMet Tryd.prog Rows.fnFilterRow.laid w := fun w => MakeChecks.laidMetH_plain _ _ _ (by kernel_rfl)
  refine returnsInHanded_of_change_and (C := Tryd.checked) (X := fun w _ => laidMetH Tryd.prog Rows.fnExactWriteRow.laid w) (fun _ _ _ hh h => h.of_heap hh) own started (by kernel_rfl) Tryd.func5
    (ChangeSpec.witness_at (enc := enc) (C := Tryd.checked) (os := os) (X := fun w _ => laidMetH Tryd.prog Rows.fnExactWriteRow.laid w) false (laidWorld os) #[.agg #[.slice none 0 0, .slice none 0 0], .agg #[.int .i64 0, .bool false, .int .i64 0, .int .i64 0, .int .i64 0, .int .i64 0], .int .i64 0, .agg #[.int .i64 0, .bool false, .int .i64 0, .int .i64 0, .int .i64 0, .int .i64 0]] 8 rfl (by kernel_rfl) (by kernel_rfl) (by kernel_rfl) (by kernel_rfl) (by kernel_rfl) (by rw [hp]; exact laidWorld_met os _)) ?_
  intro W base args ds gs before hval0 hW _ _ hL _
  have hval : ∀ (j : Nat) t v, Tryd.f5.params[j]? = some t → args[j]? = some v → Value.okWide Tryd.prog W .any base t v := hval0
  have hW' := hW
  obtain ⟨p, q, hA0, hV0, rfl, hfz, hnd⟩ := hW
  have hA : DataW.TrodAll enc Tryd.prog W 0 (fun _ => true) true Tryd.f5.params.toList args.toList ds p := hA0
  have hV : DataW.TrodVars enc Tryd.prog W (fun _ => true) Rows.fnFilterSpec.vars gs q := hV0
  rw [Tryd.params5] at hA hval
  rw [hp] at hL
  obtain ⟨a0, a1, a2, a3, hE, hr⟩ := errs_in hL
  obtain ⟨rfl, rfl⟩ := hV.unique (hr H enc W _ (Below.refl _ _))
  obtain ⟨v0, vs0, d0, ds0, p0, q0, hargs, rfl, rfl, h0, r0⟩ := trodAll_cons hA
  obtain ⟨v1, vs1, d1, ds1, p1, q1, rfl, rfl, rfl, h1, r1⟩ := trodAll_cons r0
  obtain ⟨v2, vs2, d2, ds2, p2, q2, rfl, rfl, rfl, h2, r2⟩ := trodAll_cons r1
  obtain ⟨v3, vs3, d3, ds3, p3, q3, rfl, rfl, rfl, h3, r3⟩ := trodAll_cons r2
  obtain ⟨rfl, rfl, rfl⟩ := trodAll_nil r3
  obtain rfl : args = #[v0, v1, v2, v3] := by cases args; simp_all
  have k0 := h0
  have lt0 : ∀ x ∈ p0, x.block < W.heap.size := by obtain ⟨m, hm⟩ := k0; exact DataW.trod_lt m _ _ _ hm
  have k1 := h1
  have lt1 : ∀ x ∈ p1, x.block < W.heap.size := by obtain ⟨m, hm⟩ := k1; exact DataW.trod_lt m _ _ _ hm
  have k2 := h2
  have lt2 : ∀ x ∈ p2, x.block < W.heap.size := by obtain ⟨m, hm⟩ := k2; exact DataW.trod_lt m _ _ _ hm
  have k3 := h3
  have lt3 : ∀ x ∈ p3, x.block < W.heap.size := by obtain ⟨m, hm⟩ := k3; exact DataW.trod_lt m _ _ _ hm
  obtain ⟨ma0, mn0, mc0, mb0, mk0, md0, mL0, mG0, rfl, hS0⟩ := open_mem (hval 0 51 v0 rfl rfl) h0
  obtain ⟨x0, x1, x2, x3, x4, x5, rfl, _, _, _, _, _, _, _⟩ := open_word (hval 1 54 v1 rfl rfl) h1
  obtain ⟨x6, rfl, _, _, _⟩ := open_int Tryd.underlying3 (hval 2 3 v2 rfl rfl) h2
  obtain ⟨x7, x8, x9, x10, x11, x12, rfl, _, _, _, _, _, _, _⟩ := open_word (hval 3 54 v3 rfl rfl) h3
  clear hA0 hval0 hV0
  refine (walk ma0 mn0 mc0 mb0 mk0 md0 mL0 mG0 x0 x1 x2 x3 x4 x5 x6 x7 x8 x9 x10 x11 x12 a0 a1 a2 a3 W hS0 hE).mono fun e W' ⟨he, bel⟩ => ?_
  subst he
  exact ⟨_, rfl, _, _, _, [], _, [.cell 0 0, .cell 1 0, .cell 2 0, .cell 3 0], hW', trodAll_mk1 (shut_bool Tryd.underlying4 _), (trodAll_cons_mk (Below.trod laidOut (by kernel_rfl) (of_decide_eq_true (by kernel_rfl)) k0 bel lt0) (trodAll_cons_mk (Below.trod laidOut (by kernel_rfl) (of_decide_eq_true (by kernel_rfl)) k1 bel lt1) (trodAll_cons_mk (Below.trod laidOut (by kernel_rfl) (of_decide_eq_true (by kernel_rfl)) k2 bel lt2) (trodAll_cons_mk (Below.trod laidOut (by kernel_rfl) (of_decide_eq_true (by kernel_rfl)) k3 bel lt3) trodAll_mk0)))), hr H enc W' _ bel, bel.frame _, fun h => by cases h⟩

theorem said : Rows.FnExactWriteSaid :=
  OpenClaim.holds_of_wide 5 Tryd.f5 rfl rfl rfl rfl rfl rfl rfl ⟨rfl, rfl, rfl, rfl, rfl⟩ rfl rfl rfl rfl rfl (by kernel_rfl) Tryd.func5 (by kernel_rfl)
    (of_decide_eq_true (by kernel_rfl)) (by unfold Func.isWrapper; first | (rw [if_pos (by decide +kernel)]; kernel_rfl) | (rw [if_neg (by decide +kernel)]; exact ⟨rfl, rfl⟩))
    (fun os started H enc _ => lifted os started H enc)
theorem plain (f : FuncId) (fn : Func) (hf : Tryd.pinned.checked.prog.funcNamed Rows.fnExactWriteRow.func = some f) (hfn : Tryd.pinned.checked.prog.funcs[f]? = some fn) :
    true = Tryd.pinned.checked.prog.looks [] ∧ ∀ (j : Nat) t, fn.params[j]? = some t → Tryd.pinned.checked.prog.wantsStandIn t = false := by
  obtain rfl : f = 5 := Option.some.inj ((show Tryd.prog.funcNamed Rows.fnExactWriteRow.func = some 5 by kernel_rfl).symm.trans hf) |>.symm
  obtain rfl : fn = Tryd.f5 := (Option.some.inj (Tryd.func5.symm.trans hfn)).symm
  refine ⟨by kernel_rfl, fun j t ht => ?_⟩
  rw [Tryd.params5] at ht
  have hm := Array.mem_of_getElem? ht
  have hall : ∀ u ∈ Tryd.f5.params.toList, Tryd.prog.wantsStandIn u = false := by
    have h : (Tryd.f5.params.toList.all fun u => !Tryd.prog.wantsStandIn u) = true := by kernel_rfl
    intro u hu
    have := List.all_eq_true.1 h u hu
    simpa using this
  exact hall t (by rw [Tryd.params5]; simpa using hm)
theorem card : Rows.FnExactWriteCardSaid :=
  Claim7.holds_tied_plain_at .later [] _ _ _ _ said (fun _ h => by cases h) (by kernel_rfl) (fun _ h => by cases h) fnExactWrite_row_tie rfl ⟨rfl, rfl⟩ (by kernel_rfl) rfl plain (by kernel_rfl)
end Go.Proofs.YtfeoaegkhbjaeaaDoor.fnExactWrite

namespace Go.Proofs.YtfeoaegkhbjaeaaDoor
/-- For every Memory, two Words and int Write of the program answers as the specification's Write, every word and flag and the code, in memory of its own, behind another call too; it leaves the memory as it was, and the law returns true; memories of more than 2^20 elements the law passes by. No condition. The four errors of the program hold what its text lays. -/
theorem fnExactWrite_holds : Rows.FnExactWriteCardSaid := fnExactWrite.card
#print axioms fnExactWrite_holds
end Go.Proofs.YtfeoaegkhbjaeaaDoor
