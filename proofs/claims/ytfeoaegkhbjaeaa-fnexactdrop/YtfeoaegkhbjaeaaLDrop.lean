/- For every Memory and int Drop of the program answers as the specification's Drop, every word and flag, in memory of its own, behind another call too; it leaves the memory as it was, and the law returns true; memories of more than 2^20 elements the law passes by. No condition. -/
import Derived.Test.YtfeoaegkhbjaeaaRows
import Derived.Test.YtfeoaegkhbjaeaaMDrop
import Derived.Test.YtfeoaegkhbjaeaaMSweep
import Derived.Test.YtfeoaegkhbjaeaaHold
import Derived.Test.YtfeoaegkhbjaeaaMarkA
import Derived.Test.YtfeoaegkhbjaeaaMemD
import Derived.WalkKit
import Derived.ProofKit
import Derived.OpenShut
import Derived.Lib.SmallJoins
import Derived.ChangeOld
import Derived.Below
import Derived.Deep.Slices
import Derived.Deep.Strs
namespace Go.Proofs.Ytfeoaegkhbjaeaa.fnExactDrop
open Go.ChangeShapes Go.WideShapes Go.ChangeAt Go.RowKit Go.Joins Go.Deep

theorem own : ownKnob Try.prog.godebug = none := by kernel_rfl
theorem laidOut : laidOutB Try.prog = true := by kernel_rfl

set_option maxRecDepth 100000 in
set_option maxHeartbeats 20000000 in
theorem walk (ma0 : Option Addr) (mn0 mc0 : Nat) (mb0 : Option Addr) (mk0 md0 : Nat) (mL0 : List Wd) (mG0 : List Bool) (x0 : Int) (w : World) (hS0 : MemS w ma0 mn0 mb0 mk0 mL0 mG0) :
    Calls Try.prog 4 #[.agg #[.slice ma0 mn0 mc0, .slice mb0 mk0 md0], .int .i64 x0] w fun e w' => e = .returned (.bool true) ∧ Below w.heap.size w w' := by
  have sz := szMemory_any ma0 mn0 mc0 mb0 mk0 md0 hS0.ws.1 hS0.gs.1
  by_cases hl : mn0 + mk0 ≤ 1048576
  · obtain ⟨m, hm, hm0⟩ : ∃ m : Int, Hid (m = 1048576 - (mn0 : Int) - (mk0 : Int)) ∧ 0 ≤ m := ⟨_, rfl, by omega⟩
    simp only [if_pos hl, ← hm.out] at sz
    have SZ := hid_mk sz
    have hn1 : mn0 ≤ 1048576 := by omega
    have hn2 : mk0 ≤ 1048576 := by omega
    have s1 := fun a c a' c' w hM => specDrop_any a mn0 c a' mk0 c' mL0 mG0 x0 w hM
    have s2 := fun a a' w hM => implDrop_any a mn0 mn0 a' mk0 mk0 mL0 mG0 x0 w hM
    have hll : (keepL mL0 mG0).length ≤ 24 ∧ (dropG mL0 mG0 x0).length ≤ 24 := drop_len mL0 mG0 x0
    obtain ⟨LL, hLL⟩ : ∃ LL, Hid (LL = keepL mL0 mG0) := ⟨_, rfl⟩
    obtain ⟨GG, hGG⟩ : ∃ GG, Hid (GG = dropG mL0 mG0 x0) := ⟨_, rfl⟩
    simp only [← hLL.out, ← hGG.out] at s1 s2 hll
    obtain ⟨n1, hn1e⟩ : ∃ n1, n1 = LL.length := ⟨_, rfl⟩
    obtain ⟨n2, hn2e⟩ : ∃ n2, n2 = GG.length := ⟨_, rfl⟩
    simp only [← hn1e, ← hn2e] at s1 s2 hll
    have S1 := hid_mk s1
    have S2 := hid_mk s2
    have hk1 : n1 ≤ 1048576 := by omega
    have hk2 : n2 ≤ 1048576 := by omega
    obtain ⟨mx, hmx⟩ : ∃ mx : Int, mx = 1 + 6 * (mn0 : Int) + (mk0 : Int) := ⟨_, rfl⟩
    obtain ⟨mg, hmg⟩ : ∃ mg : Int, mg = 1 + 6 * (n1 : Int) + (n2 : Int) := ⟨_, rfl⟩
    have hmx0 : 0 ≤ mx := by omega
    have hmg0 : 0 ≤ mg := by omega
    have hmgn : (mg != mg) = false := by simp
    have HMX := hid_mk hmx
    have HMG := hid_mk hmg
    clear sz s1 s2 hll hn1e hn2e hmx hmg hLL hGG
    have H := hid_mk ((((Hold.new w).push (argF w.heap.size ma0 mn0 mb0 mk0 mL0 mG0) hS0.arg).alloc (.cells #[.slice ma0 mn0 mc0, .slice mb0 mk0 md0] 25)).push (duoF w.heap.size (.slice ma0 mn0 mc0) (.slice mb0 mk0 md0)) (Duo.new w _ _ _))
    clear hS0
    generalize hw1 : w.alloc (.cells #[.slice ma0 mn0 mc0, .slice mb0 mk0 md0] 25) = w1 at H
    go_enter Try.func4, Try.ntmps4
    go_upto_region 1 with fail
    clear hw1
    obtain ⟨_, m0, m1, _, _⟩ := H.out.duo (.head _)
    go_wp2_with fail
    refine (SZ.out _).mono ?_
    rintro e w2 ⟨rfl, hb2⟩
    replace H := hid_mk (H.out.next hb2)
    clear hb2 m0 m1 SZ
    obtain ⟨_, m0, m1, _, _⟩ := H.out.duo (.head _)
    go_wp2_with fail
    refine (toMemory_ans _ _ _ _ _ _ mL0 mG0 _ hn1 hn2 (H.out.arg (.tail _ (.head _)))).mono ?_
    rintro e w3 ⟨b3, b3', rfl, A3, hg3, hb3⟩
    replace H := hid_mk (H.out.next hb3)
    have A3 := hid_mk A3
    clear hb3 m0 m1 hg3
    go_wp2_with fail
    refine (S1.out _ _ _ _ _ (A3.out.mem hn1 hn2)).mono ?_
    rintro e w4 ⟨bw, dw, bw', dw', rfl, AW, hfw, hb4⟩
    have QW0 := hid_mk (fun k hk => AW.lt (k := k) hk)
    have hz0 : w.heap.size < w4.heap.size := Nat.lt_of_lt_of_le (H.out.duo (.head _)).lt hb4.size
    replace H := hid_mk ((((H.out.next hb4).push (ansF bw bw' n1 n2 LL GG) AW).alloc (.cells #[.slice bw n1 dw, .slice bw' n2 dw'] 30)).push (duoF w4.heap.size (.slice bw n1 dw) (.slice bw' n2 dw')) (Duo.new _ _ _ _))
    clear hb4 A3 AW hfw
    go_upto_region 6 with fail
    generalize w4.alloc (.cells #[.slice bw n1 dw, .slice bw' n2 dw'] 30) = w5 at H ⊢
    obtain ⟨rw_, hrw⟩ : ∃ r, r = w4.heap.size := ⟨_, rfl⟩
    rw [← hrw] at H QW0 hz0 ⊢
    clear hrw
    have QW : Hid (∀ k, On bw k ∨ On bw' k → k < rw_) := QW0.out
    clear QW0
    obtain ⟨_, m0, m1, _, _⟩ := H.out.duo (.tail _ (.tail _ (.head _)))
    go_wp2_with fail
    refine (toMemory_ans _ _ _ _ _ _ mL0 mG0 _ hn1 hn2 (H.out.arg (.tail _ (.tail _ (.tail _ (.head _)))))).mono ?_
    rintro e w6 ⟨bx, bx', rfl, AX, hfx, hb6⟩
    have hz1 : rw_ < w5.heap.size := (H.out.duo (.head _)).lt
    have QX0 := hid_mk (fun k hk => And.intro (Nat.lt_of_lt_of_le hz1 (hfx k hk)) (AX.lt (k := k) hk))
    have hz2 : rw_ < w6.heap.size := Nat.lt_of_lt_of_le hz1 hb6.size
    replace H := hid_mk ((((H.out.next hb6).push (ansF bx bx' mn0 mk0 mL0 mG0) AX).alloc (.cells #[.slice bx mn0 mn0, .slice bx' mk0 mk0] 30)).push (duoF w6.heap.size (.slice bx mn0 mn0) (.slice bx' mk0 mk0)) (Duo.new _ _ _ _))
    clear hb6 AX hfx m0 m1
    go_upto_region 7 with fail
    generalize w6.alloc (.cells #[.slice bx mn0 mn0, .slice bx' mk0 mk0] 30) = w7 at H ⊢
    obtain ⟨rx, hrx⟩ : ∃ r, r = w6.heap.size := ⟨_, rfl⟩
    rw [← hrx] at H QX0 hz2 ⊢
    clear hrx hz1
    have QX : Hid (∀ k, On bx k ∨ On bx' k → rw_ < k ∧ k < rx) := QX0.out
    clear QX0
    obtain ⟨_, m0, m1, _, _⟩ := H.out.duo (.head _)
    go_wp2_with fail
    refine (S2.out _ _ _ (AnsM.mem (H.out.ans (.tail _ (.head _))) hn1 hn2)).mono ?_
    rintro e w8 ⟨bg, dg, bg', dg', rfl, AG, hfg, hb8⟩
    have hz3 : rx < w7.heap.size := (H.out.duo (.head _)).lt
    have QG0 := hid_mk (fun k hk => And.intro (Nat.lt_of_lt_of_le hz3 (hfg k hk)) (AG.lt (k := k) hk))
    have hz4 : rx < w8.heap.size := Nat.lt_of_lt_of_le hz3 hb8.size
    replace H := hid_mk ((((H.out.next hb8).push (ansF bg bg' n1 n2 LL GG) AG).alloc (.cells #[.slice bg n1 dg, .slice bg' n2 dg'] 30)).push (duoF w8.heap.size (.slice bg n1 dg) (.slice bg' n2 dg')) (Duo.new _ _ _ _))
    clear hb8 AG hfg m0 m1
    go_upto_region 8 with fail
    generalize w8.alloc (.cells #[.slice bg n1 dg, .slice bg' n2 dg'] 30) = w9 at H ⊢
    obtain ⟨rg, hrg⟩ : ∃ r, r = w8.heap.size := ⟨_, rfl⟩
    rw [← hrg] at H QG0 hz4 ⊢
    clear hrg hz3
    have QG : Hid (∀ k, On bg k ∨ On bg' k → rx < k ∧ k < rg) := QG0.out
    clear QG0
    obtain ⟨_, m0, m1, _, _⟩ := H.out.duo (.head _)
    obtain ⟨_, o0, o1, _, _⟩ := H.out.duo (.tail _ (.tail _ (.tail _ (.tail _ (.head _)))))
    go_wp2_with fail
    refine (eqMemory_same _ _ _ _ _ _ _ _ _ _ LL GG _ (AnsM.mem (H.out.ans (.tail _ (.head _))) hk1 hk2) (AnsM.mem (H.out.ans (.tail _ (.tail _ (.tail _ (.tail _ (.tail _ (.head _))))))) hk1 hk2)).mono ?_
    rintro e w10 ⟨rfl, hb10⟩
    replace H := hid_mk (H.out.next hb10)
    clear hb10 m0 m1 o0 o1
    go_upto_region 10 with fail
    have ALL : Hid (∀ w', Hold w w' [duoF rg (.slice bg n1 dg) (.slice bg' n2 dg'), ansF bg bg' n1 n2 LL GG, duoF rx (.slice bx mn0 mn0) (.slice bx' mk0 mk0), ansF bx bx' mn0 mk0 mL0 mG0, duoF rw_ (.slice bw n1 dw) (.slice bw' n2 dw'), ansF bw bw' n1 n2 LL GG, duoF w.heap.size (.slice ma0 mn0 mc0) (.slice mb0 mk0 md0), argF w.heap.size ma0 mn0 mb0 mk0 mL0 mG0] → (w'.cell? ⟨rx, 0, none⟩ = some (.slice bx mn0 mn0) ∧ w'.cell? ⟨rx, 1, none⟩ = some (.slice bx' mk0 mk0) ∧ w'.cell? ⟨w.heap.size, 0, none⟩ = some (.slice ma0 mn0 mc0) ∧ w'.cell? ⟨w.heap.size, 1, none⟩ = some (.slice mb0 mk0 md0) ∧ Hid (Hold w w' [duoF rg (.slice bg n1 dg) (.slice bg' n2 dg'), ansF bg bg' n1 n2 LL GG, duoF rx (.slice bx mn0 mn0) (.slice bx' mk0 mk0), ansF bx bx' mn0 mk0 mL0 mG0, duoF rw_ (.slice bw n1 dw) (.slice bw' n2 dw'), ansF bw bw' n1 n2 LL GG, duoF w.heap.size (.slice ma0 mn0 mc0) (.slice mb0 mk0 md0), argF w.heap.size ma0 mn0 mb0 mk0 mL0 mG0]))) := fun w' h => by
      have h1 := h.duo (.tail _ (.tail _ (.head _)))
      have h2 := h.duo (.tail _ (.tail _ (.tail _ (.tail _ (.tail _ (.tail _ (.head _)))))))
      exact ⟨h1.c0, h1.c1, h2.c0, h2.c1, h⟩
    have GET : Hid (∀ w', (w'.cell? ⟨rx, 0, none⟩ = some (.slice bx mn0 mn0) ∧ w'.cell? ⟨rx, 1, none⟩ = some (.slice bx' mk0 mk0) ∧ w'.cell? ⟨w.heap.size, 0, none⟩ = some (.slice ma0 mn0 mc0) ∧ w'.cell? ⟨w.heap.size, 1, none⟩ = some (.slice mb0 mk0 md0) ∧ Hid (Hold w w' [duoF rg (.slice bg n1 dg) (.slice bg' n2 dg'), ansF bg bg' n1 n2 LL GG, duoF rx (.slice bx mn0 mn0) (.slice bx' mk0 mk0), ansF bx bx' mn0 mk0 mL0 mG0, duoF rw_ (.slice bw n1 dw) (.slice bw' n2 dw'), ansF bw bw' n1 n2 LL GG, duoF w.heap.size (.slice ma0 mn0 mc0) (.slice mb0 mk0 md0), argF w.heap.size ma0 mn0 mb0 mk0 mL0 mG0])) → Hold w w' [duoF rg (.slice bg n1 dg) (.slice bg' n2 dg'), ansF bg bg' n1 n2 LL GG, duoF rx (.slice bx mn0 mn0) (.slice bx' mk0 mk0), ansF bx bx' mn0 mk0 mL0 mG0, duoF rw_ (.slice bw n1 dw) (.slice bw' n2 dw'), ansF bw bw' n1 n2 LL GG, duoF w.heap.size (.slice ma0 mn0 mc0) (.slice mb0 mk0 md0), argF w.heap.size ma0 mn0 mb0 mk0 mL0 mG0]) := fun w' h => h.2.2.2.2
    have F0 := hid_mk H.out.drew
    clear H
    go_region_held3 (fun w' => w'.cell? ⟨rx, 0, none⟩ = some (.slice bx mn0 mn0) ∧ w'.cell? ⟨rx, 1, none⟩ = some (.slice bx' mk0 mk0) ∧ w'.cell? ⟨w.heap.size, 0, none⟩ = some (.slice ma0 mn0 mc0) ∧ w'.cell? ⟨w.heap.size, 1, none⟩ = some (.slice mb0 mk0 md0) ∧ Hid (Hold w w' [duoF rg (.slice bg n1 dg) (.slice bg' n2 dg'), ansF bg bg' n1 n2 LL GG, duoF rx (.slice bx mn0 mn0) (.slice bx' mk0 mk0), ansF bx bx' mn0 mk0 mL0 mG0, duoF rw_ (.slice bw n1 dw) (.slice bw' n2 dw'), ansF bw bw' n1 n2 LL GG, duoF w.heap.size (.slice ma0 mn0 mc0) (.slice mb0 mk0 md0), argF w.heap.size ma0 mn0 mb0 mk0 mL0 mG0]))
      (first | (with_reducible assumption) | (((with_reducible refine ALL.out _ ?_); (first | (with_reducible exact F0.out) | ((with_reducible apply Hold.next ?_ K8.out); (with_reducible exact GET.out _ (by with_reducible assumption))) | ((with_reducible apply Hold.next ?_ K9.out); (with_reducible exact GET.out _ (by with_reducible assumption))) | fail))))
      (first
        | (go_at_call 10; refine (toMemory_ans _ _ _ _ _ _ mL0 mG0 _ hn1 hn2 ((GET.out _ (by with_reducible assumption)).arg (.tail _ (.tail _ (.tail _ (.tail _ (.tail _ (.tail _ (.tail _ (.head _)))))))))).mono ?_; rintro e wt ⟨bt, bt', rfl, AT, _, hbt⟩; have K8 := hid_mk hbt; have AT := hid_mk AT; clear hbt)
        | (go_at_call 12; refine (eqMemory_same _ _ _ _ _ _ _ _ _ _ mL0 mG0 _ (AnsM.mem ((GET.out _ (by with_reducible assumption)).ans (.tail _ (.tail _ (.tail _ (.head _))))) hn1 hn2) (AT.out.mem hn1 hn2)).mono ?_; rintro e wu ⟨rfl, hbu⟩; have K9 := hid_mk hbu; clear hbu))
    have H := hid_mk (GET.out _ (by with_reducible assumption))
    clear ALL GET F0 K8 K9 AT
    go_upto_region 12 with fail
    have hwu : ∃ w', w' = wu := ⟨_, rfl⟩
    obtain ⟨_, m0, m1, _, _⟩ := H.out.duo (.tail _ (.tail _ (.head _)))
    go_wp2_with fail
    refine (markMem_ans _ _ _ _ _ _ mL0 mG0 hn1 hn2 _ (H.out.ans (.tail _ (.tail _ (.tail _ (.head _)))))).mono ?_
    rintro e w13 ⟨rfl, _, hK13⟩
    rw [← HMX.out]
    replace H := hid_mk ((H.out.sub (gs := [duoF rg (.slice bg n1 dg) (.slice bg' n2 dg'), ansF bg bg' n1 n2 LL GG, duoF rw_ (.slice bw n1 dw) (.slice bw' n2 dw'), ansF bw bw' n1 n2 LL GG, duoF w.heap.size (.slice ma0 mn0 mc0) (.slice mb0 mk0 md0), argF w.heap.size ma0 mn0 mb0 mk0 mL0 mG0]) (fun f hf => by
      simp only [List.mem_cons, List.not_mem_nil, or_false] at hf ⊢
      rcases hf with rfl | rfl | rfl | rfl | rfl | rfl
      · exact .inl rfl
      · exact .inr (.inl rfl)
      · exact .inr (.inr (.inr (.inr (.inl rfl))))
      · exact .inr (.inr (.inr (.inr (.inr (.inl rfl)))))
      · exact .inr (.inr (.inr (.inr (.inr (.inr (.inl rfl))))))
      · exact .inr (.inr (.inr (.inr (.inr (.inr (.inr rfl)))))))).wrote hK13 (fun k hk => by have := QX.out k hk; omega) (fun f hf k hk ht => by
      have hx := QX.out k ht
      simp only [List.mem_cons, List.not_mem_nil, or_false] at hf
      rcases hf with rfl | rfl | rfl | rfl | rfl | rfl
      · simp only [duoF] at hk; omega
      · have := QG.out k hk; omega
      · simp only [duoF] at hk; omega
      · have := QW.out k hk; omega
      · simp only [duoF] at hk; omega
      · simp only [argF] at hk; omega))
    clear hK13 m0 m1 hwu
    obtain ⟨_, m0, m1, _, _⟩ := H.out.duo (.head _)
    obtain ⟨_, o0, o1, _, _⟩ := H.out.duo (.tail _ (.tail _ (.head _)))
    go_wp2_with fail
    refine (eqMemory_same _ _ _ _ _ _ _ _ _ _ LL GG _ (AnsM.mem (H.out.ans (.tail _ (.head _))) hk1 hk2) (AnsM.mem (H.out.ans (.tail _ (.tail _ (.tail _ (.head _))))) hk1 hk2)).mono ?_
    rintro e w14 ⟨rfl, hb14⟩
    replace H := hid_mk (H.out.next hb14)
    clear hb14 m0 m1 o0 o1
    obtain ⟨_, m0, m1, _, _⟩ := H.out.duo (.head _)
    go_wp2_with fail
    refine (markMem_ans _ _ _ _ _ _ LL GG hk1 hk2 _ (H.out.ans (.tail _ (.head _)))).mono ?_
    rintro e w17 ⟨rfl, AM, hK17⟩
    rw [← HMG.out]
    replace H := hid_mk (((H.out.sub (gs := [duoF rg (.slice bg n1 dg) (.slice bg' n2 dg'), duoF rw_ (.slice bw n1 dw) (.slice bw' n2 dw'), ansF bw bw' n1 n2 LL GG, duoF w.heap.size (.slice ma0 mn0 mc0) (.slice mb0 mk0 md0), argF w.heap.size ma0 mn0 mb0 mk0 mL0 mG0]) (fun f hf => by
      simp only [List.mem_cons, List.not_mem_nil, or_false] at hf ⊢
      rcases hf with rfl | rfl | rfl | rfl | rfl
      · exact .inl rfl
      · exact .inr (.inr (.inl rfl))
      · exact .inr (.inr (.inr (.inl rfl)))
      · exact .inr (.inr (.inr (.inr (.inl rfl))))
      · exact .inr (.inr (.inr (.inr (.inr rfl)))))).wrote hK17 (fun k hk => by have := QG.out k hk; omega) (fun f hf k hk ht => by
      have hx := QG.out k ht
      simp only [List.mem_cons, List.not_mem_nil, or_false] at hf
      rcases hf with rfl | rfl | rfl | rfl | rfl
      · simp only [duoF] at hk; omega
      · simp only [duoF] at hk; omega
      · have := QW.out k hk; omega
      · simp only [duoF] at hk; omega
      · simp only [argF] at hk; omega)).push (ansF bg bg' n1 n2 (marksW 1 n1) (marksB (1 + 6 * (n1 : Int)) n2)) AM)
    clear hK17 m0 m1 AM
    obtain ⟨_, m0, m1, _, _⟩ := H.out.duo (.tail _ (.head _))
    go_wp2_with fail
    refine (heldMem_any _ _ _ _ _ _ hk1 hk2 _ (AnsM.mem (H.out.ans (.head _)) hk1 hk2)).mono ?_
    rintro e w19 ⟨rfl, hb19⟩
    rw [← HMG.out]
    replace H := hid_mk (H.out.next hb19)
    clear hb19 m0 m1
    obtain ⟨_, m0, m1, _, _⟩ := H.out.duo (.tail _ (.tail _ (.tail _ (.tail _ (.head _)))))
    go_wp2_with fail
    refine (toMemory_ans _ _ _ _ _ _ mL0 mG0 _ hn1 hn2 (H.out.arg (.tail _ (.tail _ (.tail _ (.tail _ (.tail _ (.head _)))))))).mono ?_
    rintro e w23 ⟨b3, b3', rfl, A3, hg3, hb3⟩
    replace H := hid_mk (H.out.next hb3)
    have A3 := hid_mk A3
    clear hb3 m0 m1 hg3
    go_wp2_with fail
    refine (S2.out _ _ _ (A3.out.mem hn1 hn2)).mono ?_
    rintro e w24 ⟨bh, dh, bh', dh', rfl, AH, hfh, hb24⟩
    replace H := hid_mk ((((H.out.next hb24).push (ansF bh bh' n1 n2 LL GG) AH).alloc (.cells #[.slice bh n1 dh, .slice bh' n2 dh'] 30)).push (duoF w24.heap.size (.slice bh n1 dh) (.slice bh' n2 dh')) (Duo.new _ _ _ _))
    clear hb24 A3 AH hfh
    go_upto_region 25 with fail
    generalize w24.alloc (.cells #[.slice bh n1 dh, .slice bh' n2 dh'] 30) = w25 at H ⊢
    generalize w24.heap.size = rh at H ⊢
    obtain ⟨_, m0, m1, _, _⟩ := H.out.duo (.head _)
    obtain ⟨_, o0, o1, _, _⟩ := H.out.duo (.tail _ (.tail _ (.tail _ (.tail _ (.head _)))))
    go_wp2_with fail
    refine (eqMemory_same _ _ _ _ _ _ _ _ _ _ LL GG _ (AnsM.mem (H.out.ans (.tail _ (.head _))) hk1 hk2) (AnsM.mem (H.out.ans (.tail _ (.tail _ (.tail _ (.tail _ (.tail _ (.head _))))))) hk1 hk2)).mono ?_
    rintro e w26 ⟨rfl, hb26⟩
    replace H := hid_mk (H.out.next hb26)
    clear hb26 m0 m1 o0 o1
    obtain ⟨_, m0, m1, _, _⟩ := H.out.duo (.tail _ (.tail _ (.tail _ (.head _))))
    go_wp2_with fail
    refine (heldMem_any _ _ _ _ _ _ hk1 hk2 _ (AnsM.mem (H.out.ans (.tail _ (.tail _ (.head _)))) hk1 hk2)).mono ?_
    rintro e w28 ⟨rfl, hb28⟩
    rw [← HMG.out]
    replace H := hid_mk (H.out.next hb28)
    clear hb28 m0 m1
    go_wp2
    go_ret
    exact ⟨rfl, H.out.bel⟩
  · simp only [if_neg hl] at sz
    have SZ := hid_mk sz
    clear sz
    go_enter Try.func4, Try.ntmps4
    go_wp2_with fail
    refine (SZ.out _).mono ?_
    rintro e w2 ⟨rfl, hb2⟩
    have B := hid_mk (((Below.refl w.heap.size w).alloc (Nat.le_refl _) _).trans (hb2.mono (by simp)))
    clear hb2
    go_wp2
    go_ret
    exact ⟨rfl, B.out⟩

set_option maxRecDepth 100000 in
theorem lifted (os : Os) (started : os.Started) (H : Type) (enc : TypeId × Value → H) :
    ReturnsInHanded {} Try.checked os 4 .any (Rows.fnExactDropSpec.pre6 enc Try.prog Try.f4 Rows.fnExactDropRow.domain false) (Rows.fnExactDropSpec.post enc Try.prog Try.f4 false true false false) := by
  refine returnsInHanded_of_change (C := Try.checked) own started (by kernel_rfl) Try.func4
    (ChangeSpec.witness6 (enc := enc) (C := Try.checked) false ⟨#[], #[.agg #[.slice none 0 0, .slice none 0 0], .int .i64 0], []⟩ 8 (by kernel_rfl) (by kernel_rfl) (by kernel_rfl) (by kernel_rfl)) ?_
  intro W base args ds gs before hval0 hW hcnd _
  have hval : ∀ (j : Nat) t v, Try.f4.params[j]? = some t → args[j]? = some v → Value.okWide Try.prog W .any base t v := hval0
  have hW' := hW
  obtain ⟨p, q, hA0, hV, rfl, hfz, hnd⟩ := hW
  have hA : DataW.TrodAll enc Try.prog W 0 (fun _ => true) true Try.f4.params.toList args.toList ds p := hA0
  rw [Try.params4] at hA hval
  obtain ⟨v0, vs0, d0, ds0, p0, q0, hargs, rfl, rfl, h0, r0⟩ := trodAll_cons hA
  obtain ⟨v1, vs1, d1, ds1, p1, q1, rfl, rfl, rfl, h1, r1⟩ := trodAll_cons r0
  obtain ⟨rfl, rfl, rfl⟩ := trodAll_nil r1
  obtain rfl : args = #[v0, v1] := by cases args; simp_all
  obtain ⟨rfl, rfl⟩ := trodVars_none hV
  have k0 := h0
  have lt0 : ∀ x ∈ p0, x.block < W.heap.size := by obtain ⟨m, hm⟩ := k0; exact DataW.trod_lt m _ _ _ hm
  have k1 := h1
  have lt1 : ∀ x ∈ p1, x.block < W.heap.size := by obtain ⟨m, hm⟩ := k1; exact DataW.trod_lt m _ _ _ hm
  obtain ⟨ma0, mn0, mc0, mb0, mk0, md0, mL0, mG0, rfl, hS0⟩ := open_mem (hval 0 25 v0 rfl rfl) h0
  obtain ⟨x0, rfl, _, _, _⟩ := open_int Try.underlying3 (hval 1 3 v1 rfl rfl) h1
  clear hA0 hval0
  refine (walk ma0 mn0 mc0 mb0 mk0 md0 mL0 mG0 x0 W hS0).mono fun e W' ⟨he, bel⟩ => ?_
  subst he
  exact ⟨_, rfl, _, _, _, [], _, [], hW', trodAll_mk1 (shut_bool Try.underlying4 _), (trodAll_cons_mk (Below.trod laidOut (by kernel_rfl) (of_decide_eq_true (by kernel_rfl)) k0 bel lt0) (trodAll_cons_mk (Below.trod laidOut (by kernel_rfl) (of_decide_eq_true (by kernel_rfl)) k1 bel lt1) trodAll_mk0)), rfl, bel.frame _, fun h => by cases h⟩

theorem proved : Rows.FnExactDropSaid :=
  OpenClaim.holds_of_wide 4 Try.f4 rfl rfl rfl rfl rfl rfl rfl ⟨rfl, rfl, rfl, rfl, rfl⟩ rfl rfl rfl rfl rfl (by kernel_rfl) Try.func4 (by kernel_rfl)
    (of_decide_eq_true (by kernel_rfl)) (by unfold Func.isWrapper; first | (rw [if_pos (by decide +kernel)]; kernel_rfl) | (rw [if_neg (by decide +kernel)]; exact ⟨rfl, rfl⟩))
    (fun os started H enc _ => lifted os started H enc)
end Go.Proofs.Ytfeoaegkhbjaeaa.fnExactDrop

namespace Go.Proofs.Ytfeoaegkhbjaeaa
/-- For every Memory and int Drop of the program answers as the specification's Drop, every word and flag, in memory of its own, behind another call too; it leaves the memory as it was, and the law returns true; memories of more than 2^20 elements the law passes by. No condition. -/
theorem fnExactDrop_holds : Rows.FnExactDropSaid := fnExactDrop.proved
#print axioms fnExactDrop_holds
end Go.Proofs.Ytfeoaegkhbjaeaa
