/- Learn of the specification. No condition but that there are no more places than a list of the laws may have. -/
import Derived.Test.YtcokcfgagbahbaaGesJ
namespace Go.Proofs.Ytcokcfgagbahbaa
open Go.ChangeShapes Go.WideShapes Go.ChangeAt Go.RowKit Go.Maps Go.Sort Go.Shelf
set_option maxRecDepth 100000

theorem cell_of {B : Nat} {w : World} {kb o len : Nat} {L : List Int} (h : SliceN B w (some ⟨kb, o, none⟩) len L) {j : Nat} {y : Int} (hj : L[j]? = some y) : w.cell? ((⟨kb, o, none⟩ : Addr).add j) = some (.int .i64 y) := by
  have hjl := (List.getElem?_eq_some_iff.1 hj).1
  rcases h.2.2 with h0 | ⟨k, o', ha, _, hc⟩
  · rw [h.2.1] at hjl; omega
  · cases ha
    rw [Go.WideShapes.add_plain]
    exact hc j y hj

theorem field0 (m : Int) (w : World) : (Instr.field 28 (.agg #[.int .i64 m, .bool false, .int .i64 0, .int .i64 0, .int .i64 0, .int .i64 0]) 0).run Try.prog w = .ok (.int .i64 m) w := by kernel_rfl

theorem OutN.put {w : World} {q len k : Nat} {L : List Int} {x : Int} (h : OutN w q len len L) (hk : k < len) : OutN (w.setCell ⟨q, k, none⟩ (.int .i64 x)) q len len (L.set k x) := by
  have inn : (w.setCell ⟨q, k, none⟩ (.int .i64 x)).cell? ⟨q, k, none⟩ = some (.int .i64 x) := World.cell?_setCells_in q [.int .i64 x] k w (fun j hj => by
    simp at hj
    subst hj
    exact h.has k hk) 0 (by simp)
  have out : ∀ i, i ≠ k → (w.setCell ⟨q, k, none⟩ (.int .i64 x)).cell? ⟨q, i, none⟩ = w.cell? ⟨q, i, none⟩ := fun i hi =>
    World.cell?_setCells_out q [.int .i64 x] k w ⟨q, i, none⟩ (fun _ _ => by simp; omega)
  refine ⟨by rw [World.size_setCell]; exact h.lt, fun i hi => ?_, fun i hi => ?_, fun j y hj hy => ?_⟩
  · by_cases hik : i = k
    · subst hik; rw [inn]; rfl
    · rw [out i hik]; exact h.has i hi
  · have := World.frozen?_setCells (w := w) q [.int .i64 x] k ⟨q, i, none⟩
    exact this.trans (h.fr i hi)
  · by_cases hjk : j = k
    · subst hjk
      rw [List.getElem?_set_self' ] at hy
      cases e : L[j]? with
      | none => rw [e] at hy; cases hy
      | some z => rw [e] at hy; cases hy; exact inn
    · rw [out j hjk]
      rw [List.getElem?_set_ne (fun e => hjk e.symm)] at hy
      exact h.wd j y hj hy

set_option maxHeartbeats 2000000 in
theorem specLearn_any (kb o len cap : Nat) (L : List Int) (n : Int) (i : Bool) (b t p s : Int) (n2 : Int) (i2 : Bool) (b2 t2 p2 s2 : Int) (w : World) (hl : len ≤ 1048576) (hS : SliceN w.heap.size w (some ⟨kb, o, none⟩) len L) :
    Calls Try.prog 12 #[.slice (some ⟨kb, o, none⟩) len cap, .agg #[.int .i64 n, .bool i, .int .i64 b, .int .i64 t, .int .i64 p, .int .i64 s], .agg #[.int .i64 n2, .bool i2, .int .i64 b2, .int .i64 t2, .int .i64 p2, .int .i64 s2]] w fun e w' => ∃ g cp, e = .returned (.slice (some ⟨g, 0, none⟩) len cp) ∧ w.heap.size ≤ g ∧ (intF g len (lrnL L n n2)).p w' ∧ Below w.heap.size w w' := by
  have hlL := hS.2.1
  have H := hid_mk (((((Hold.new w).push (sinF w.heap.size (some ⟨kb, o, none⟩) len L) ⟨hS, Nat.le_refl _⟩).alloc (.cells #[.int .i64 n, .bool i, .int .i64 b, .int .i64 t, .int .i64 p, .int .i64 s] 28)).push (celF w.heap.size [.int .i64 n, .bool i, .int .i64 b, .int .i64 t, .int .i64 p, .int .i64 s]) (Cel.new w _ _)).alloc (.cells #[.int .i64 n2, .bool i2, .int .i64 b2, .int .i64 t2, .int .i64 p2, .int .i64 s2] 28))
  have HC := Cel.new (w.alloc (.cells #[.int .i64 n, .bool i, .int .i64 b, .int .i64 t, .int .i64 p, .int .i64 s] 28)) [.int .i64 n2, .bool i2, .int .i64 b2, .int .i64 t2, .int .i64 p2, .int .i64 s2] 28
  rw [World.size_alloc] at HC
  replace H := hid_mk (H.out.push (celF (w.heap.size + 1) [.int .i64 n2, .bool i2, .int .i64 b2, .int .i64 t2, .int .i64 p2, .int .i64 s2]) HC)
  obtain ⟨m, hm⟩ : ∃ m, m = n2 % 65536 := ⟨_, rfl⟩
  have sp := specPlain_any n2
  rw [← hm] at sp
  have SP := hid_mk sp
  have HM := hid_mk hm
  have I := hid_mk (l1In_at n 0 ((len : Int) - 1))
  have HL := hid_mk hlL
  clear hS HC hm sp
  generalize hw1 : (w.alloc (.cells #[.int .i64 n, .bool i, .int .i64 b, .int .i64 t, .int .i64 p, .int .i64 s] 28)).alloc (.cells #[.int .i64 n2, .bool i2, .int .i64 b2, .int .i64 t2, .int .i64 p2, .int .i64 s2] 28) = w1 at H
  go_enter Try.func12, Try.ntmps12
  go_upto_region 1 with fail
  clear hw1
  have hz1 := (H.out.cel (.head _)).lt
  have ES := hid_mk (own_empty w1 w1.heap.size (Nat.le_refl _) 3 1)
  have H1 := hid_mk (H.out.alloc (.cells #[] 3))
  have SC := hid_mk (H1.out.sin (.tail _ (.tail _ (.head _))))
  go_upto_region 2 with (at_builtin; refine wpList_appN rfl _ _ rfl w1.heap.size w1.heap.size 0 0 [] rfl ES.out ⟨kb, o, none⟩ len cap L rfl HL.out (fun j y hj => cell_of SC.out hj) (by omega) (by simp) ?_; intro g cp w2 hO hgw)
  rw [Nat.zero_add, List.nil_append] at hO
  have hg0 : w.heap.size ≤ g ∧ w.heap.size + 1 < g := by
    rcases hO.2 with ⟨hv, _⟩ | ⟨g', cap', cur, hv, hb2, _⟩
    · cases hv
    · cases hv; omega
  obtain ⟨hg0, hg1⟩ := hg0
  have hb2 : Below w1.heap.size (w1.alloc (.cells #[] 3)) w2 := (Below.refl _ _).grown hgw (by simp) (fun j hj => by cases hj; exact Nat.le_refl _)
  have H2 := hid_mk ((H.out.next (((Below.refl _ _).alloc (Nat.le_refl _) (.cells #[] 3)).trans hb2)).push (intF g len L) ⟨own_outN hO HL.out, HL.out⟩)
  clear hO hgw hb2 H H1 ES SC
  obtain ⟨c0, -⟩ := (H2.out.cel (.tail _ (.tail _ (.head _)))).c6
  by_cases hin : 0 ≤ n ∧ n ≤ (len : Int) - 1
  · obtain ⟨k, rfl⟩ : ∃ k : Nat, n = (k : Int) := ⟨n.toNat, by omega⟩
    have hk : k < len := by omega
    have hd : decide (0 ≤ (k : Int) ∧ (k : Int) ≤ (len : Int) - 1) = true := by simp; omega
    rw [hd] at I
    clear hd
    go_wp2_with fail
    refine (I.out _).mono ?_
    rintro e w9 ⟨rfl, rfl⟩
    go_upto_region 3 with fail
    have D0 := hid_mk H2.out.drew
    refine wp_region_held_drew (S := fun w' => Hold w w' [celF (w.heap.size + 1) [.int .i64 n2, .bool i2, .int .i64 b2, .int .i64 t2, .int .i64 p2, .int .i64 s2], celF w.heap.size [.int .i64 (k : Int), .bool i, .int .i64 b, .int .i64 t, .int .i64 p, .int .i64 s]]) (by kernel_rfl) D0.out.mid2 (fun hHeld => ?_)
    generalize w9.drew = wd at D0 hHeld ⊢
    clear H2 c0
    refine take_on (i := 0) (d := 17) (v := .slice (some ⟨g, 0, none⟩) len cp) rfl rfl (by kernel_rfl) (by kernel_rfl) (by kernel_rfl) (fun _ _ _ h => h) (by rfl) ?_ hHeld ?_
    · (intro w' hSw; go_simp)
    (try simp only [Act.put]); (try simp only [List.setIfInBounds_toArray]); (try simp only [List.set_cons_succ]); (try simp only [List.set_cons_zero]); (try simp only [List.set_cons_succ]); (try simp only [List.set_cons_zero]); (try simp only [Nat.zero_add])
    refine take_on (i := 1) (d := 18) (v := .pointer (some ⟨w.heap.size, 0, none⟩)) rfl rfl (by kernel_rfl) (by kernel_rfl) (by kernel_rfl) (fun _ _ _ h => h) (by rfl) ?_ hHeld ?_
    · (intro w' hSw; go_simp)
    (try simp only [Act.put]); (try simp only [List.setIfInBounds_toArray]); (try simp only [List.set_cons_succ]); (try simp only [List.set_cons_zero]); (try simp only [List.set_cons_succ]); (try simp only [List.set_cons_zero]); (try simp only [Nat.zero_add])
    refine take_on (i := 2) (d := 19) (v := .int .i64 (k : Int)) rfl rfl (by kernel_rfl) (by kernel_rfl) (by kernel_rfl) (fun _ _ _ h => h) (by rfl) ?_ hHeld ?_
    · (intro w' hSw; have hSx : Hold w w' [celF (w.heap.size + 1) [.int .i64 n2, .bool i2, .int .i64 b2, .int .i64 t2, .int .i64 p2, .int .i64 s2], celF w.heap.size [.int .i64 (k : Int), .bool i, .int .i64 b, .int .i64 t, .int .i64 p, .int .i64 s]] := hSw; have c0 := (hSx.cel (.tail _ (.head _))).c 0 _ rfl; go_simp)
    (try simp only [Act.put]); (try simp only [List.setIfInBounds_toArray]); (try simp only [List.set_cons_succ]); (try simp only [List.set_cons_zero]); (try simp only [List.set_cons_succ]); (try simp only [List.set_cons_zero]); (try simp only [Nat.zero_add])
    refine take_on (i := 3) (d := 20) (v := .pointer (some ⟨w.heap.size + 1, 0, none⟩)) rfl rfl (by kernel_rfl) (by kernel_rfl) (by kernel_rfl) (fun _ _ _ h => h) (by rfl) ?_ hHeld ?_
    · (intro w' hSw; go_simp)
    (try simp only [Act.put]); (try simp only [List.setIfInBounds_toArray]); (try simp only [List.set_cons_succ]); (try simp only [List.set_cons_zero]); (try simp only [List.set_cons_succ]); (try simp only [List.set_cons_zero]); (try simp only [Nat.zero_add])
    refine take_on (i := 4) (d := 21) (v := .int .i64 n2) rfl rfl (by kernel_rfl) (by kernel_rfl) (by kernel_rfl) (fun _ _ _ h => h) (by rfl) ?_ hHeld ?_
    · (intro w' hSw; have hSx : Hold w w' [celF (w.heap.size + 1) [.int .i64 n2, .bool i2, .int .i64 b2, .int .i64 t2, .int .i64 p2, .int .i64 s2], celF w.heap.size [.int .i64 (k : Int), .bool i, .int .i64 b, .int .i64 t, .int .i64 p, .int .i64 s]] := hSw; have c0 := (hSx.cel (.head _)).c 0 _ rfl; go_simp)
    (try simp only [Act.put]); (try simp only [List.setIfInBounds_toArray]); (try simp only [List.set_cons_succ]); (try simp only [List.set_cons_zero]); (try simp only [List.set_cons_succ]); (try simp only [List.set_cons_zero]); (try simp only [Nat.zero_add])
    refine wpAnyH_ready (rs := [5]) (by kernel_rfl) (by simp) ?_
    refine AllReadyH.cons rfl (fun K1 hK => ?_) AllReadyH.nil
    go_simp
    refine (SP.out _).mono ?_
    rintro e w5 ⟨rfl, hb⟩
    have J := hid_mk (D0.out.next hb)
    clear hb D0
    refine hK.out _ _ J.out.mid2 (fun hHeld => ?_)
    clear hK K1
    (try simp only [Act.put]); (try simp only [List.setIfInBounds_toArray]); (try simp only [List.set_cons_succ]); (try simp only [List.set_cons_zero]); (try simp only [List.set_cons_succ]); (try simp only [List.set_cons_zero]); (try simp only [Nat.zero_add])
    refine take_on (i := 6) (d := 23) (v := .int .i64 m) rfl rfl (by kernel_rfl) (by kernel_rfl) (by kernel_rfl) (fun _ _ _ h => h) (by rfl) ?_ hHeld ?_
    · (intro w' hSw; have e0 := field0 m w'; go_simp)
    (try simp only [Act.put]); (try simp only [List.setIfInBounds_toArray]); (try simp only [List.set_cons_succ]); (try simp only [List.set_cons_zero]); (try simp only [List.set_cons_succ]); (try simp only [List.set_cons_zero]); (try simp only [Nat.zero_add])
    refine take_on (i := 7) (d := 24) (v := .pointer (some ⟨g, k, none⟩)) rfl rfl (by kernel_rfl) (by kernel_rfl) (by kernel_rfl) (fun _ _ _ h => h) (by rfl) ?_ hHeld ?_
    · (intro w' hSw; go_simp)
    (try simp only [Act.put]); (try simp only [List.setIfInBounds_toArray]); (try simp only [List.set_cons_succ]); (try simp only [List.set_cons_zero]); (try simp only [List.set_cons_succ]); (try simp only [List.set_cons_zero]); (try simp only [Nat.zero_add])
    refine wpAnyH_ready (rs := [8]) (by kernel_rfl) (by simp) ?_
    refine AllReadyH.cons rfl (fun K1 hK => ?_) AllReadyH.nil
    have hO : OutN w5 g len len L ∧ L.length = len := J.out.at (f := intF g len L) (.head _)
    obtain ⟨v0, e0⟩ := Option.isSome_iff_exists.1 (hO.1.has k hk)
    have f0 := hO.1.fr k hk
    have HO := hid_mk hO
    clear hO
    go_simp
    have hd : ∀ f ∈ [celF (w.heap.size + 1) [.int .i64 n2, .bool i2, .int .i64 b2, .int .i64 t2, .int .i64 p2, .int .i64 s2], celF w.heap.size [.int .i64 (k : Int), .bool i, .int .i64 b, .int .i64 t, .int .i64 p, .int .i64 s]], ¬ f.S g := fun f hf hs => by
      simp only [List.mem_cons, List.not_mem_nil, or_false] at hf
      rcases hf with rfl | rfl
      · simp only [celF] at hs; omega
      · simp only [celF] at hs; omega
    have J2 := hid_mk ((J.out.mid2.put g k (.int .i64 m) (by omega) hd).push (intF g len (L.set k m)) ⟨HO.out.1.put hk, by rw [List.length_set]; exact HO.out.2⟩)
    clear hd e0 f0 J
    refine hK.out _ _ J2.out.tail (fun hHeld => ?_)
    clear hK K1
    (try simp only [Act.put]); (try simp only [List.setIfInBounds_toArray]); (try simp only [List.set_cons_succ]); (try simp only [List.set_cons_zero]); (try simp only [List.set_cons_succ]); (try simp only [List.set_cons_zero]); (try simp only [Nat.zero_add])
    refine wpAnyH_done (by kernel_rfl) ?_ _
    clear hHeld
    try dsimp only
    generalize w5.setCell ⟨g, k, none⟩ (.int .i64 m) = w6 at J2 ⊢
    go_wp2
    go_ret
    refine ⟨g, cp, rfl, hg0, ?_, J2.out.bel⟩
    have e1 : lrnL L (k : Int) n2 = L.set k m := by
      unfold lrnL
      rw [if_pos (by rw [hlL]; omega), Int.toNat_natCast, ← HM.out]
    rw [e1]
    exact J2.out.at (.head _)
  · have hd : decide (0 ≤ n ∧ n ≤ (len : Int) - 1) = false := by simp; omega
    rw [hd] at I
    clear hd
    go_wp2_with fail
    refine (I.out _).mono ?_
    rintro e w9 ⟨rfl, rfl⟩
    go_wp2
    go_ret
    refine ⟨g, cp, rfl, hg0, ?_, H2.out.bel⟩
    have e1 : lrnL L n n2 = L := by
      unfold lrnL
      rw [if_neg (by rw [hlL]; omega)]
    rw [e1]
    exact H2.out.at (.head _)
end Go.Proofs.Ytcokcfgagbahbaa
