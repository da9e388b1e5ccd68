/- Plain facts on memories as lists: what is gone is read as a bare word, swept or not. No condition. -/
import Derived.Test.YtfeoaegkhbjaeaaDoorMemR
import Derived.Test.YtfeoaegkhbjaeaaDoorWMath
namespace Go.Proofs.YtfeoaegkhbjaeaaDoor
set_option maxRecDepth 100000

theorem bare_bare (x : Wd) : bareW (bareW x) = bareW x := by simp [bareW]
theorem fil_bare (G : List Bool) (x : Wd) : filW G (bareW x) = bareW x := by simp [filW, bareW]
theorem fil_or (G : List Bool) (x : Wd) : filW G x = x ∨ filW G x = bareW x := by
  unfold filW
  cases (x.i && goneB G x.b)
  · exact .inl rfl
  · exact .inr rfl
theorem fil_fil (G : List Bool) (x : Wd) : filW G (filW G x) = filW G x := by
  cases h : (x.i && goneB G x.b) with
  | false =>
    have e : filW G x = x := by unfold filW; rw [h]; rfl
    rw [e, e]
  | true =>
    have e : filW G x = bareW x := by unfold filW; rw [h]; rfl
    rw [e, fil_bare]
theorem tak_fil (G : List Bool) (y x : Wd) : filW G (takW y (filW G x)) = filW G (takW y x) := by
  unfold takW
  cases (bits .and .i64 y.p 8 == 8) with
  | true => exact fil_fil G x
  | false =>
    show filW G (bareW (filW G x)) = filW G (bareW x)
    rcases fil_or G x with e | e
    · rw [e]
    · rw [e, bare_bare]
theorem bare_ok (x : Wd) : okW (bareW x) = true := plain_ok x.n
theorem fil_ok {G : List Bool} {x : Wd} (h : okW x = true) : okW (filW G x) = true := by
  rcases fil_or G x with e | e
  · rw [e]; exact h
  · rw [e]; exact bare_ok x
theorem mok_mk {L : List Wd} {G : List Bool} (h0 : L.length = 24) (h1 : G.length = 24) (h2 : ∀ x ∈ L, okW x = true) : mokB L G = true := by
  unfold mokB
  simp only [Bool.and_eq_true, decide_eq_true_eq]
  exact ⟨⟨h0, h1⟩, List.all_eq_true.2 h2⟩
theorem set_ok {L : List Wd} {G : List Bool} (h : mokB L G = true) (k : Nat) {x : Wd} (hx : okW x = true) : mokB (L.set k x) G = true := by
  obtain ⟨h0, h1, h2⟩ := mok_parts h
  refine mok_mk (by rw [List.length_set]; exact h0) h1 fun y hy => ?_
  rcases List.mem_or_eq_of_mem_set hy with hy | rfl
  · exact h2 y hy
  · exact hx
theorem swp_len {L : List Wd} {G : List Bool} (h : mokB L G = true) (n : Int) : (swpL L G n).length = L.length := by
  unfold swpL
  rw [h]
  cases inB n 24 <;> simp
theorem swp_ok {L : List Wd} {G : List Bool} (h : mokB L G = true) (n : Int) : mokB (swpL L G n) G = true := by
  unfold swpL
  rw [h]
  cases hn : inB n 24 with
  | false => exact h
  | true =>
    obtain ⟨h0, h1, h2⟩ := mok_parts h
    refine set_ok h _ (fil_ok ?_)
    simp only [inB, decide_eq_true_eq] at hn
    have hl : n.toNat < L.length := by omega
    rw [List.getD_eq_getElem?_getD, List.getElem?_eq_getElem hl]
    exact h2 _ (List.getElem_mem hl)
/-- What is read is the same, swept or not. -/
theorem swp_read {L : List Wd} {G : List Bool} (h : mokB L G = true) (n : Int) (y : Wd) (i : Int) : rdZ (swpL L G n) y i = rdZ L y i ∧ rdW (swpL L G n) G y i = rdW L G y i := by
  have hz : rdZ (swpL L G n) y i = rdZ L y i := by unfold rdZ; rw [swp_len h]
  refine ⟨hz, ?_⟩
  unfold rdW
  rw [hz]
  cases rdZ L y i == 0 with
  | false => rfl
  | true =>
    show filW G (takW y ((swpL L G n).getD i.toNat wd0)) = filW G (takW y (L.getD i.toNat wd0))
    obtain ⟨h0, h1, h2⟩ := mok_parts h
    unfold swpL
    rw [h]
    cases hn : inB n 24 with
    | false => rfl
    | true =>
      show filW G (takW y ((L.set n.toNat (filW G (L.getD n.toNat wd0))).getD i.toNat wd0)) = _
      simp only [inB, decide_eq_true_eq] at hn
      have hl : n.toNat < L.length := by omega
      by_cases hi : n.toNat = i.toNat
      · rw [← hi, List.getD_eq_getElem?_getD, List.getElem?_set_self hl]
        exact tak_fil G y _
      · rw [List.getD_eq_getElem?_getD, List.getElem?_set_ne hi, ← List.getD_eq_getElem?_getD]
end Go.Proofs.YtfeoaegkhbjaeaaDoor
