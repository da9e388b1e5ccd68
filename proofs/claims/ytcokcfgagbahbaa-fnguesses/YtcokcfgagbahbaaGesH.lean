/- GuessOk, GuessNew and Guess of the specification. No condition but that there are no more places than a list of the laws may have. -/
import Derived.Test.YtcokcfgagbahbaaGesG
import Derived.Test.YtcokcfgagbahbaaSMade
namespace Go.Proofs.Ytcokcfgagbahbaa
open Go.ChangeShapes Go.WideShapes Go.ChangeAt Go.RowKit Go.Maps Go.Sort Go.Shelf
set_option maxRecDepth 100000

theorem l1In_at (a lo hi : Int) (w : World) : Calls Try.prog 35 #[.int .i64 a, .int .i64 lo, .int .i64 hi] w fun e w' => e = .returned (.bool (decide (lo ≤ a ∧ a ≤ hi))) ∧ w' = w := in_any a lo hi w

set_option maxHeartbeats 2000000 in
theorem specGuessOk_any (a : Option Addr) (len cap : Nat) (L : List Int) (w : World) (hS : SliceN w.heap.size w a len L) :
    Calls Try.prog 14 #[.slice a len cap] w fun e w' => e = .returned (.bool (gokB L)) ∧ Below w.heap.size w w' := by
  have S : Hid (SliceN w.heap.size w a len L) := hS
  have hL := hid_mk hS.2.1
  have hlen := hS.1
  unfold maxLen at hlen
  clear hS
  obtain ⟨z, hz⟩ : ∃ z, Hid (gokB L = z) := ⟨_, rfl⟩
  rw [hz.out]
  go_enter Try.func14, Try.ntmps14
  go_wp2
  go_loopw [3] (fun c wr => ∃ k : Nat, k ≤ len ∧ c = .int .i64 k ∧ Hid (∀ j x, j < k → L[j]? = some x → decide (-1 ≤ x ∧ x ≤ 65535) = true) ∧ Hid (Below w.heap.size w wr)) (fun c _ => len - (RowKit.intOf c).toNat)
  case atStart => exact ⟨0, Nat.zero_le _, rfl, fun j x hj => absurd hj (Nat.not_lt_zero _), Below.refl _ _⟩
  case round =>
    obtain ⟨k, hk, rfl, A, B⟩ := hrel
    by_cases hlt : k < len
    · obtain ⟨kb, o, x, rfl, hkb, hx, d0⟩ := (S.out.keep B.out).at hlt
      have HX := hid_mk hx
      clear hx
      have I := hid_mk (l1In_at x (-1) 65535)
      cases hb : decide (-1 ≤ x ∧ x ≤ 65535)
      · obtain rfl : z = false := by
          rw [← hz.out]
          unfold gokB
          rw [all_none HX.out hb]
          rfl
        rw [hb] at I
        clear hb
        go_wp2_with (go_at_call 35; refine (I.out _).mono ?_; rintro e w' ⟨rfl, rfl⟩)
        go_ret
        exact ⟨rfl, B.out⟩
      · have hb' := hid_mk hb
        rw [hb] at I
        clear hb
        go_wp2_with (go_at_call 35; refine (I.out _).mono ?_; rintro e w' ⟨rfl, rfl⟩)
        go_roundw
        case rel =>
          refine ⟨k + 1, hlt, by go_num, fun j y hj hy => ?_, B.out⟩
          by_cases e : j = k
          · subst e
            rw [HX.out] at hy
            cases hy
            exact hb'.out
          · exact A.out j y (by omega) hy
        case measure => simp [RowKit.intOf]; omega
    · obtain rfl : k = len := by omega
      have hz2 : z = decide (k = 48) := by
        rw [← hz.out]
        unfold gokB
        rw [all_here (fun j x hj hx => A.out j x (by rw [hL.out] at hj; exact hj) hx), hL.out]
        rfl
      have hd : decide ((k : Int) = 48) = z := by
        rw [hz2]
        by_cases e : k = 48 <;> simp [e] <;> omega
      have he : ((k : Int) == 48) = z := by rw [← hd]; rfl
      have HZ := hid_mk hz2
      clear hz2 hd
      go_wp2
      go_ret
      exact ⟨by first | rfl | (rw [he]; done) | simp [he], B.out⟩

theorem own_empty (w : World) (base : Nat) (hb : base ≤ w.heap.size) (T : TypeId) (s : Nat) : (w.alloc (.cells #[] T)).ownsRow base T s (.slice (some ⟨w.heap.size, 0, none⟩) 0 0) 0 [] :=
  ⟨by simp, .inr ⟨w.heap.size, 0, #[], rfl, hb, World.alloc_heap_new w _, Nat.le_refl _, by unfold maxLen; omega, by simp, by simp⟩⟩

/-- append of ints to a row that is not nil. -/
theorem wpList_appN {ops : Array Oper} {rest : List Oper} {o : Oper} {a : Act} {w : World} {Q : Exit → Act → World → Prop} (hgd : o.guard = none) (s x : Operand)
    (ho : o.op = .call { callee := .builtin .append, args := #[s, x], argTypes := #[24, 24] })
    (base g n cap : Nat) (L : List Int) (hs : a.eval s = .slice (some ⟨g, 0, none⟩) n cap) (hown : w.ownsRow base 3 1 (.slice (some ⟨g, 0, none⟩) n cap) n (ixs L)) (ad : Addr) (m c : Nat) (M : List Int) (hx : a.eval x = .slice (some ad) m c) (hM : M.length = m) (hc : ∀ j y, M[j]? = some y → w.cell? (ad.add j) = some (.int .i64 y)) (hb : n + m ≤ 2097152) (hbase : base ≤ w.heap.size)
    (h : ∀ g' cap' w', w'.ownsRow base 3 1 (.slice (some ⟨g', 0, none⟩) (n + m) cap') (n + m) (ixs (L ++ M)) → w.grownBy w' (some g) → wpList Try.prog ops Q rest (a.put o.dst (.slice (some ⟨g', 0, none⟩) (n + m) cap')) w') :
    wpList Try.prog ops Q (o :: rest) a w := by
  obtain ⟨i, hi, hz0, hz1, hz2⟩ := info_parts infoN
  refine wpList_append_own_at w hgd s x _ ho base 3 i _ 1 8 Try.underlying24 hi hz0 hz1 hz2 rfl (by decide) _ n (ixs L) hs hown ad m c (ixs M) hx (by rw [ixs_len, hM, Nat.mul_one]) (fun j u hj => ?_) (ixs_one M) (by unfold maxLen; omega) (by omega) hbase ?_
  · obtain ⟨y, hy, rfl⟩ := ixs_at hj
    exact hc j y hy
  · intro v' w' hown' hgrow hnil _
    rw [← ixs_app] at hown'
    rcases hown'.2 with ⟨hv, _⟩ | ⟨g', cap', cur, hv, _⟩
    · have := hnil.1 hv
      cases this.1
    · subst hv
      exact h g' cap' w' hown' hgrow

set_option maxHeartbeats 2000000 in
theorem specGuessNew_any (w : World) :
    Calls Try.prog 23 #[] w fun e w' => ∃ g cap, e = .returned (.slice (some ⟨g, 0, none⟩) 48 cap) ∧ w.heap.size ≤ g ∧ (intF g 48 (List.replicate 48 (-1))).p w' ∧ Below w.heap.size w w' := by
  go_enter Try.func23, Try.ntmps23
  go_wp2
  go_loopw [1, 2] (fun v c wr => ∃ k g cap : Nat, k ≤ 48 ∧ v = .slice (some ⟨g, 0, none⟩) k cap ∧ c = .int .i64 k ∧ w.heap.size ≤ g ∧ Hid (wr.ownsRow w.heap.size 3 1 (.slice (some ⟨g, 0, none⟩) k cap) k (ixs (List.replicate k (-1)))) ∧ Hid (Below w.heap.size w wr)) (fun _ c _ => 48 - (RowKit.intOf c).toNat)
  case atStart => exact ⟨0, w.heap.size, 0, Nat.zero_le _, rfl, rfl, Nat.le_refl _, own_empty w _ (Nat.le_refl _) _ _, (Below.refl _ _).alloc (Nat.le_refl _) _⟩
  case round =>
    obtain ⟨k, g, cap, hk, rfl, rfl, hg, O, B⟩ := hrel
    have hsz := B.out.size
    by_cases hlt : k < 48
    · go_wp2_with (at_builtin; refine wpList_appN rfl _ _ rfl w.heap.size g k cap _ rfl (O.out.alloc _) ⟨wr.heap.size, 0, none⟩ 1 1 [-1] rfl rfl (fun j y hj => by match j, hj with | 0, hj => (simp at hj; subst hj; simp [Addr.add])) (by omega) (by simp; omega) ?_; intro g' cap' w1 hO1 hg1)
      have hg' : w.heap.size ≤ g' := by
        rcases hO1.2 with ⟨hv, _⟩ | ⟨g2, cap2, cur, hv, hb2, _⟩
        · cases hv
        · cases hv; exact hb2
      go_roundw
      case rel =>
        refine ⟨k + 1, g', cap', hlt, rfl, by go_num, hg', ?_, ?_⟩
        · rw [List.replicate_succ']
          exact hO1
        · exact (B.out.alloc hsz _).grown hg1 (by simp; omega) (fun j hj => by cases hj; exact hg)
      case measure => simp [RowKit.intOf]; omega
    · obtain rfl : k = 48 := by omega
      go_wp2
      go_ret
      exact ⟨g, cap, rfl, hg, ⟨own_outN O.out (by simp), by simp⟩, B.out⟩
end Go.Proofs.Ytcokcfgagbahbaa
