/- For every Word and every list of Words Unders of the program answers as the specification's Unders, leaves the list as it was, and the law returns true. No condition. -/
import Derived.Test.YtejpeikfibaapaaRows
import Derived.Test.YtejpeikfibaapaaWordM
import Derived.Test.YtejpeikfibaapaaWordD
import Derived.WalkKit
import Derived.ProofKit
import Derived.OpenShut
import Derived.ChangeOld
import Derived.Below
namespace Go.Proofs.Ytejpeikfibaapaa.fnExactUnders
open Go.ChangeShapes Go.WideShapes Go.ChangeAt Go.RowKit Go.Joins Go.Deep

theorem own : ownKnob Try.prog.godebug = none := by kernel_rfl
theorem laidOut : laidOutB Try.prog = true := by kernel_rfl

set_option maxRecDepth 100000 in
set_option maxHeartbeats 4000000 in
theorem walk (n : Int) (i : Bool) (b t p s : Int) (a : Option Addr) (len cap : Nat) (L : List Wd) (w : World) (hS : SliceW w.heap.size w a len L) :
    Calls Try.prog 8 #[.agg #[.int .i64 n, .bool i, .int .i64 b, .int .i64 t, .int .i64 p, .int .i64 s], .slice a len cap] w fun e w' => e = .returned (.bool true) ∧ Below w.heap.size w w' := by
  have S : Hid (SliceW w.heap.size w a len L) := hS
  have hlen := hS.1
  clear hS
  have sz := szWordS_any a len cap
  by_cases hl : len ≤ 1048576
  · obtain ⟨m, hm, hm0⟩ : ∃ m : Int, Hid (m = 1048576 - (len : Int)) ∧ 0 ≤ m := ⟨_, rfl, by omega⟩
    simp only [if_pos hl, ← hm.out] at sz
    have SZ : Hid (∀ w : World, Calls Try.prog 28 #[.slice a len cap, .int .i64 1048576] w fun e w' => e = .returned (.int .i64 m) ∧ w' = w) := fun w => sz w hlen
    clear sz hlen
    go_enter Try.func8, Try.ntmps8
    go_wp2_with fail
    refine (SZ.out _).mono ?_
    rintro e w' ⟨rfl, rfl⟩
    clear SZ
    have U0 : Hid (Une w w.heap.size n i b t p s a len L (w.alloc (.cells #[.int .i64 n, .bool i, .int .i64 b, .int .i64 t, .int .i64 p, .int .i64 s] 42))) :=
      ⟨Six.new w n i b t p s 42, S.out.keep ((Below.refl _ _).alloc (Nat.le_refl _) _), (Below.refl _ _).alloc (Nat.le_refl _) _⟩
    clear S
    go_wp2_with fail
    refine (toWord_any _ _ _ _ _ _ _).mono ?_
    rintro e w1 ⟨rfl, hb1⟩
    have U1 : Hid _ := U0.out.next hb1
    clear hb1 U0
    go_wp2_with fail
    refine (toWordS_any a len cap L _ hl (U1.out.sl.mono U1.out.bel.size)).mono ?_
    rintro e w2 ⟨q2, rfl, s2, hb2⟩
    have U2 : Hid _ := U1.out.next hb2
    clear hb2 U1
    go_wp2_with fail
    refine (specUnders_any n i b t p s _ len len L _ s2).mono ?_
    rintro e w3 ⟨rfl, hb3⟩
    have U3 : Hid _ := U2.out.next hb3
    clear hb3 s2 U2
    go_wp2_with fail
    refine (toWordS_any a len cap L _ hl (U3.out.sl.mono U3.out.bel.size)).mono ?_
    rintro e w4 ⟨q4, rfl, s4, hb4⟩
    have U4 : Hid _ := U3.out.next hb4
    have T4 : Hid (SliceW w4.heap.size w4 (some ⟨q4, 0, none⟩) len L) := s4
    clear hb4 s4 U3
    obtain ⟨_, c0, c1, c2, c3, c4, c5, _, _, _, _, _, _⟩ := U4.out.six
    go_wp2_with fail
    refine (toWord_any _ _ _ _ _ _ _).mono ?_
    rintro e w5 ⟨rfl, hb5⟩
    have U5 : Hid _ := U4.out.next hb5
    have T5 : Hid (SliceW w5.heap.size w5 (some ⟨q4, 0, none⟩) len L) := (T4.out.keep hb5).mono hb5.size
    clear hb5 U4 T4 c0 c1 c2 c3 c4 c5
    go_wp2_with fail
    refine (implUnders_any n i b t p s _ len len L _ T5.out).mono ?_
    rintro e w6 ⟨rfl, hb6⟩
    have U6 : Hid _ := U5.out.next hb6
    have T6 : Hid (SliceW w6.heap.size w6 (some ⟨q4, 0, none⟩) len L) := (T5.out.keep hb6).mono hb6.size
    clear hb6 U5 T5
    generalize undB i b t p s L = y
    cases y
    all_goals
      go_wp2_with fail
      refine (toWordS_any a len cap L _ hl (U6.out.sl.mono U6.out.bel.size)).mono ?_
      rintro e w7 ⟨q7, rfl, s7, hb7⟩
      have U7 : Hid _ := U6.out.next hb7
      have T7 : Hid (SliceW w7.heap.size w7 (some ⟨q4, 0, none⟩) len L) := (T6.out.keep hb7).mono hb7.size
      have R7 : Hid (SliceW w7.heap.size w7 (some ⟨q7, 0, none⟩) len L) := s7
      clear hb7 U6 T6 s7
      go_wp2_with fail
      refine (eqWordS_same _ _ len len len L _ T7.out R7.out).mono ?_
      rintro e w8 ⟨rfl, hb8⟩
      have U8 : Hid _ := U7.out.next hb8
      clear hb8 U7 T7 R7
      go_wp2
      go_ret
      exact ⟨rfl, U8.out.bel⟩
  · simp only [if_neg hl] at sz
    have SZ : Hid (∀ w : World, Calls Try.prog 28 #[.slice a len cap, .int .i64 1048576] w fun e w' => e = .returned (.int .i64 (-1)) ∧ w' = w) := fun w => sz w hlen
    clear sz hlen
    go_enter Try.func8, Try.ntmps8
    go_wp2_with fail
    refine (SZ.out _).mono ?_
    rintro e w' ⟨rfl, rfl⟩
    go_wp2
    go_ret
    exact ⟨rfl, (Below.refl _ _).alloc (Nat.le_refl _) _⟩

/-- A slice of words that came in. -/
theorem came_in {H : Type} {enc : TypeId × Value → H} {W : World} {sp : Nat → Bool} {held : Bool} {fuel : Nat} {a : Option Addr} {len cap : Nat} {x : DataW H × List MemPlace}
    (hf : DataW.trod enc Try.prog W 0 sp held fuel 49 [.slice a len cap] = some x) : ∃ L, SliceW W.heap.size W a len L := by
  rcases open_slice Try.underlying49 hf with ⟨hcs, _⟩ | ⟨ad, l, c, m, k, D, Pl, hcs, _, hl, hm, hmm, _, hel⟩
  · simp at hcs
    obtain ⟨rfl, rfl, rfl⟩ := hcs
    exact ⟨[], by unfold maxLen; omega, rfl, .inl rfl⟩
  · simp at hcs
    obtain ⟨rfl, rfl, rfl⟩ := hcs
    have hlm : len ≤ m := by rw [hmm]; split <;> omega
    have each : ∀ j, j < len → ∃ y : Wd, ∀ i v, y.vs[i]? = some v → W.cell? (ad.add (j * 6 + i)) = some v := by
      intro j hj
      obtain ⟨cs, hc, ht⟩ := hel j (by omega)
      obtain ⟨n, i, b, t, p, s, rfl, _, _, _, _, _, _⟩ := open_word6 ht
      rw [cellsW] at hc
      obtain ⟨_, _, hcell⟩ := World.cells?_some hc
      refine ⟨⟨n, i, b, t, p, s⟩, fun i' v hv => ?_⟩
      have h6 : i' < 6 := (List.getElem?_eq_some_iff.1 hv).1
      have := hcell i' h6
      rw [add_add] at this
      rw [this]
      exact hv
    haveI : Inhabited Wd := ⟨⟨0, false, 0, 0, 0, 0⟩⟩
    obtain ⟨f, hfn⟩ := choose_lt each
    refine ⟨(List.range len).map f, by omega, by simp, ?_⟩
    by_cases h0 : len = 0
    · exact .inl h0
    · right
      obtain ⟨b, off, spot⟩ := ad
      have hc0 := hfn 0 (by omega) 0 _ rfl
      have hspot : spot = none := by simpa [Addr.add] using World.cell?_spot hc0
      subst hspot
      refine ⟨b, off, rfl, ?_, fun j y hj => ?_⟩
      · have := World.block_lt_of_cell? _ _ hc0
        simpa [Addr.add] using this
      · simp only [List.getElem?_map, Option.map_eq_some_iff] at hj
        obtain ⟨j', hj', rfl⟩ := hj
        obtain ⟨hjl, hje⟩ := List.getElem?_eq_some_iff.1 hj'
        simp at hjl hje
        subst hje
        refine WordAt.of_vs fun i v hv => ?_
        have := hfn j hjl i v hv
        rw [Go.WideShapes.add_plain] at this
        rw [Nat.add_assoc]
        exact this

set_option maxRecDepth 100000 in
theorem lifted (os : Os) (started : os.Started) (H : Type) (enc : TypeId × Value → H) :
    ReturnsInHanded {} Try.checked os 8 .any (Rows.fnExactUndersSpec.pre6 enc Try.prog Try.f8 Rows.fnExactUndersRow.domain false) (Rows.fnExactUndersSpec.post enc Try.prog Try.f8 false true false false) := by
  refine returnsInHanded_of_change (C := Try.checked) own started (by kernel_rfl) Try.func8
    (ChangeSpec.witness6 (enc := enc) (C := Try.checked) false ⟨#[], #[.agg #[.int .i64 0, .bool false, .int .i64 0, .int .i64 0, .int .i64 0, .int .i64 0], .slice none 0 0], []⟩ 8 (by kernel_rfl) (by kernel_rfl) (by kernel_rfl) (by kernel_rfl)) ?_
  intro W base args ds gs before hval0 hW hcnd _
  have hval : ∀ (j : Nat) t v, Try.f8.params[j]? = some t → args[j]? = some v → Value.okWide Try.prog W .any base t v := hval0
  have hW' := hW
  obtain ⟨p, q, hA0, hV, rfl, hfz, hnd⟩ := hW
  have hA : DataW.TrodAll enc Try.prog W 0 (fun _ => true) true Try.f8.params.toList args.toList ds p := hA0
  rw [Try.params8] at hA hval
  obtain ⟨v0, vs0, d0, ds0, p0, q0, hargs, rfl, rfl, h0, r0⟩ := trodAll_cons hA
  obtain ⟨v1, vs1, d1, ds1, p1, q1, rfl, rfl, rfl, h1, r1⟩ := trodAll_cons r0
  obtain ⟨rfl, rfl, rfl⟩ := trodAll_nil r1
  obtain rfl : args = #[v0, v1] := by cases args; simp_all
  obtain ⟨rfl, rfl⟩ := trodVars_none hV
  have k0 := h0
  have k1 := h1
  have lt0 : ∀ x ∈ p0, x.block < W.heap.size := by obtain ⟨m, hm⟩ := k0; exact DataW.trod_lt m _ _ _ hm
  have lt1 : ∀ x ∈ p1, x.block < W.heap.size := by obtain ⟨m, hm⟩ := k1; exact DataW.trod_lt m _ _ _ hm
  obtain ⟨n, i, b, t, pp, s, rfl, _, _, _, _, _, _, _⟩ := open_word (hval 0 42 v0 rfl rfl) h0
  obtain ⟨a, len, cap, rfl⟩ := okWide_slice Try.underlying49 (hval 1 49 v1 rfl rfl)
  obtain ⟨L, hS⟩ : ∃ L, SliceW W.heap.size W a len L := by
    obtain ⟨fuel, hf⟩ := h1
    exact came_in (by simpa [Value.cells] using hf)
  clear hA0 hval0
  refine (walk n i b t pp s a len cap L W hS).mono fun e W' ⟨he, bel⟩ => ?_
  subst he
  exact ⟨_, rfl, _, _, _, [], _, [], hW', trodAll_mk1 (shut_bool Try.underlying4 _),
    (trodAll_cons_mk (Below.trod laidOut (by kernel_rfl) (of_decide_eq_true (by kernel_rfl)) k0 bel lt0) (trodAll_cons_mk (Below.trod laidOut (by kernel_rfl) (of_decide_eq_true (by kernel_rfl)) k1 bel lt1) trodAll_mk0)), rfl, bel.frame _, fun h => by cases h⟩

theorem proved : Rows.FnExactUndersSaid :=
  OpenClaim.holds_of_wide 8 Try.f8 rfl rfl rfl rfl rfl rfl rfl ⟨rfl, rfl, rfl, rfl, rfl⟩ rfl rfl rfl rfl rfl (by kernel_rfl) Try.func8 (by kernel_rfl)
    (of_decide_eq_true (by kernel_rfl)) (by unfold Func.isWrapper; first | (rw [if_pos (by decide +kernel)]; kernel_rfl) | (rw [if_neg (by decide +kernel)]; exact ⟨rfl, rfl⟩))
    (fun os started H enc _ => lifted os started H enc)
end Go.Proofs.Ytejpeikfibaapaa.fnExactUnders

namespace Go.Proofs.Ytejpeikfibaapaa
/-- For every Word and every list of Words Unders of the program answers as the specification's, leaves the list as it was, and the law returns true. -/
theorem fnExactUnders_holds : Rows.FnExactUndersSaid := fnExactUnders.proved
#print axioms fnExactUnders_holds
end Go.Proofs.Ytejpeikfibaapaa
