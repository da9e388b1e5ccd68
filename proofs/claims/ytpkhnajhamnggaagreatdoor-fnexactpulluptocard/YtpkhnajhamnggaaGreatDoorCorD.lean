/- A core of the laws as data: its slices, words, numbers are opened; what is read of it is no less than six values an entry. No condition. -/
import Derived.Test.YtpkhnajhamnggaaGreatDoorYB
import Derived.Test.YtpkhnajhamnggaaGreatDoorZJ
import Derived.Test.YtpkhnajhamnggaaGreatDoorZH
import Derived.Test.YtpkhnajhamnggaaGreatDoorIntI
namespace Go.Proofs.YtpkhnajhamnggaaGreatDoor
open Go.ChangeShapes Go.WideShapes Go.ChangeAt Go.RowKit Go.Joins Go.Deep
set_option maxRecDepth 100000

theorem bulk_one {H : Type} (d : DataW H) : 1 ≤ Rows.uptoBulk d := by
  cases d with
  | lit l => cases l <;> simp [Rows.uptoBulk]
  | nil => simp [Rows.uptoBulk]
  | ptr d => simp [Rows.uptoBulk]
  | slice elems spare => simp [Rows.uptoBulk]
  | agg parts => simp [Rows.uptoBulk]
  | iface t d => simp [Rows.uptoBulk]
  | map entries => simp [Rows.uptoBulk]
  | held h => simp [Rows.uptoBulk]
theorem bulk_part {H : Type} {d : DataW H} {l : List (DataW H)} (h : d ∈ l) : Rows.uptoBulk d ≤ Rows.uptoBulkAll l := by
  induction l with
  | nil => cases h
  | cons x r ih =>
    simp only [Rows.uptoBulkAll]
    cases List.mem_cons.1 h with
    | inl e => subst e; omega
    | inr e => have := ih e; omega
theorem bulk_len {H : Type} (l : List (DataW H)) : l.length ≤ Rows.uptoBulkAll l := by
  induction l with
  | nil => simp [Rows.uptoBulkAll]
  | cons x r ih => have := bulk_one x; simp only [Rows.uptoBulkAll, List.length_cons]; omega
theorem bulk_each {H : Type} {k : Nat} {l : List (DataW H)} (h : ∀ d ∈ l, k ≤ Rows.uptoBulk d) : l.length * k ≤ Rows.uptoBulkAll l := by
  induction l with
  | nil => simp [Rows.uptoBulkAll]
  | cons x r ih =>
    have h1 := h x (.head _)
    have h2 := ih fun d hd => h d (.tail _ hd)
    simp only [Rows.uptoBulkAll, List.length_cons, Nat.add_mul, Nat.one_mul]
    omega

theorem cellsEnL : Tryz.prog.cellsOf 140 = 40 := by kernel_rfl
theorem cellsEfL : Tryz.prog.cellsOf 138 = 22 := by kernel_rfl
theorem cellsCoL : Tryz.prog.cellsOf 60 = 19 := by kernel_rfl
theorem cellsES : Tryz.prog.cellsOf 58 = 1 := by kernel_rfl
theorem cellsIS : Tryz.prog.cellsOf 52 = 1 := by kernel_rfl

section
variable {H : Type} {enc : TypeId × Value → H} {W : World} {sp : Nat → Bool} {held : Bool}
theorem trod_five {P : Program} {base : Nat} {t : TypeId} {f0 f1 f2 f3 f4 : Field} {fuel : Nat} {cs : List Value} {x : DataW H × List MemPlace} (ht : P.underlying t = some (.struct #[f0, f1, f2, f3, f4])) (h : DataW.trod enc P W base sp held fuel t cs = some x) :
    ∃ (y0 y1 y2 y3 y4 : DataW H × List MemPlace) (n : Nat), x.1 = .agg [y0.1, y1.1, y2.1, y3.1, y4.1] ∧ cs.length = P.cellsOf t ∧
      DataW.trod enc P W base sp held n f0.type ((cs.drop f0.offset).take (P.cellsOf f0.type)) = some y0 ∧ DataW.trod enc P W base sp held n f1.type ((cs.drop f1.offset).take (P.cellsOf f1.type)) = some y1 ∧
      DataW.trod enc P W base sp held n f2.type ((cs.drop f2.offset).take (P.cellsOf f2.type)) = some y2 ∧ DataW.trod enc P W base sp held n f3.type ((cs.drop f3.offset).take (P.cellsOf f3.type)) = some y3 ∧
      DataW.trod enc P W base sp held n f4.type ((cs.drop f4.offset).take (P.cellsOf f4.type)) = some y4 := by
  obtain ⟨xs, n, _, rfl, hl, hlen, hf⟩ := DataW.trod_struct ht h
  match xs, hlen with
  | [y0, y1, y2, y3, y4], _ => exact ⟨y0, y1, y2, y3, y4, n, by simp, hl, by simpa using hf 0 f0 rfl, by simpa using hf 1 f1 rfl, by simpa using hf 2 f2 rfl, by simpa using hf 3 f3 rfl, by simpa using hf 4 f4 rfl⟩
theorem trod_seven {P : Program} {base : Nat} {t : TypeId} {f0 f1 f2 f3 f4 f5 f6 : Field} {fuel : Nat} {cs : List Value} {x : DataW H × List MemPlace} (ht : P.underlying t = some (.struct #[f0, f1, f2, f3, f4, f5, f6])) (h : DataW.trod enc P W base sp held fuel t cs = some x) :
    ∃ (y0 y1 y2 y3 y4 y5 y6 : DataW H × List MemPlace) (n : Nat), cs.length = P.cellsOf t ∧
      DataW.trod enc P W base sp held n f0.type ((cs.drop f0.offset).take (P.cellsOf f0.type)) = some y0 ∧ DataW.trod enc P W base sp held n f1.type ((cs.drop f1.offset).take (P.cellsOf f1.type)) = some y1 ∧
      DataW.trod enc P W base sp held n f2.type ((cs.drop f2.offset).take (P.cellsOf f2.type)) = some y2 ∧ DataW.trod enc P W base sp held n f3.type ((cs.drop f3.offset).take (P.cellsOf f3.type)) = some y3 ∧
      DataW.trod enc P W base sp held n f4.type ((cs.drop f4.offset).take (P.cellsOf f4.type)) = some y4 ∧ DataW.trod enc P W base sp held n f5.type ((cs.drop f5.offset).take (P.cellsOf f5.type)) = some y5 ∧
      DataW.trod enc P W base sp held n f6.type ((cs.drop f6.offset).take (P.cellsOf f6.type)) = some y6 := by
  obtain ⟨xs, n, _, rfl, hl, hlen, hf⟩ := DataW.trod_struct ht h
  match xs, hlen with
  | [y0, y1, y2, y3, y4, y5, y6], _ => exact ⟨y0, y1, y2, y3, y4, y5, y6, n, hl, by simpa using hf 0 f0 rfl, by simpa using hf 1 f1 rfl, by simpa using hf 2 f2 rfl, by simpa using hf 3 f3 rfl, by simpa using hf 4 f4 rfl, by simpa using hf 5 f5 rfl, by simpa using hf 6 f6 rfl⟩

/-- An effect's cells, opened. -/
theorem eff_in {base fuel : Nat} {cs : List Value} {x : DataW H × List MemPlace} (h : DataW.trod enc Tryz.prog W base sp held fuel 138 cs = some x) : ∃ e : Eff, cs = effl e := by
  obtain ⟨y0, y1, y2, y3, y4, y5, y6, n, hl, h0, h1, h2, h3, h4, h5, h6⟩ := trod_seven Tryz.underlying138 h
  rw [cellsEfL] at hl
  match cs, hl with
  | [v0, v1, v2, v3, v4, v5, v6, v7, v8, v9, v10, v11, v12, v13, v14, v15, v16, v17, v18, v19, v20, v21], _ =>
    simp only [cellsW, cellsWI, List.drop, List.take] at h0 h1 h2 h3 h4 h5 h6
    obtain ⟨t, e0, _⟩ := DataW.trod_int Tryz.underlying3 h0
    obtain ⟨r, e1, _⟩ := DataW.trod_int Tryz.underlying3 h1
    obtain ⟨n2, i2, b2, t2, p2, s2, e2, _⟩ := open_word6 h2
    obtain ⟨n3, i3, b3, t3, p3, s3, e3, _⟩ := open_word6 h3
    obtain ⟨a4, e4, _⟩ := DataW.trod_int Tryz.underlying3 h4
    obtain ⟨n5, i5, b5, t5, p5, s5, e5, _⟩ := open_word6 h5
    obtain ⟨d6, e6, _⟩ := DataW.trod_int Tryz.underlying3 h6
    simp at e0 e1 e2 e3 e4 e5 e6
    obtain ⟨rfl, rfl, rfl, rfl, rfl, rfl⟩ := e2
    obtain ⟨rfl, rfl, rfl, rfl, rfl, rfl⟩ := e3
    obtain ⟨rfl, rfl, rfl, rfl, rfl, rfl⟩ := e5
    subst e0 e1 e4 e6
    exact ⟨⟨t, r, ⟨n2, i2, b2, t2, p2, s2⟩, ⟨n3, i3, b3, t3, p3, s3⟩, a4, ⟨n5, i5, b5, t5, p5, s5⟩, d6⟩, rfl⟩
/-- An entry's cells, opened. -/
theorem ent_in {base fuel : Nat} {cs : List Value} {x : DataW H × List MemPlace} (h : DataW.trod enc Tryz.prog W base sp held fuel 140 cs = some x) : (∃ y : En, cs = enl y) ∧ 6 ≤ Rows.uptoBulk x.1 := by
  obtain ⟨y0, y1, y2, y3, y4, n, hx, hl, h0, h1, h2, h3, h4⟩ := trod_five Tryz.underlying140 h
  refine ⟨?_, ?_⟩
  · rw [cellsEnL] at hl
    match cs, hl with
    | v0 :: v1 :: v2 :: v3 :: v4 :: v5 :: v6 :: v7 :: v8 :: v9 :: v10 :: v11 :: v12 :: v13 :: v14 :: v15 :: v16 :: v17 :: v18 :: v19 :: v20 :: v21 :: v22 :: v23 :: v24 :: v25 :: v26 :: v27 :: v28 :: v29 :: v30 :: v31 :: v32 :: v33 :: v34 :: v35 :: v36 :: v37 :: v38 :: v39 :: [], _ =>
      simp only [cellsW, cellsIns, cellsWB, cellsEfL, List.drop, List.take] at h0 h1 h2 h3 h4
      obtain ⟨n0, i0, b0, t0, p0, s0, e0, _⟩ := open_word6 h0
      obtain ⟨o1, r1, a1, b1, n1, e1⟩ := open_ins5 h1
      obtain ⟨d2, e2, _⟩ := DataW.trod_bool Tryz.underlying4 h2
      obtain ⟨e, e3⟩ := eff_in h3
      obtain ⟨n4, i4, b4, t4, p4, s4, e4, _⟩ := open_word6 h4
      simp at e0 e1 e2 e3 e4
      obtain ⟨rfl, rfl, rfl, rfl, rfl, rfl⟩ := e0
      obtain ⟨rfl, rfl, rfl, rfl, rfl⟩ := e1
      obtain ⟨rfl, rfl, rfl, rfl, rfl, rfl, rfl, rfl, rfl, rfl, rfl, rfl, rfl, rfl, rfl, rfl, rfl, rfl, rfl, rfl, rfl, rfl⟩ := e3
      obtain ⟨rfl, rfl, rfl, rfl, rfl, rfl⟩ := e4
      subst e2
      exact ⟨⟨⟨n0, i0, b0, t0, p0, s0⟩, ⟨o1, r1, a1, b1, n1⟩, d2, e, ⟨n4, i4, b4, t4, p4, s4⟩⟩, rfl⟩
  · rw [hx]
    have h1 := bulk_len [y0.1, y1.1, y2.1, y3.1, y4.1]
    simp only [Rows.uptoBulk, List.length_cons, List.length_nil] at h1 ⊢
    omega
/-- A slice of entries that came in. -/
theorem ents_in {fuel : Nat} {cs : List Value} {x : DataW H × List MemPlace}
    (hf : DataW.trod enc Tryz.prog W 0 sp held fuel 58 cs = some x) : ∃ a len cap L, cs = [.slice a len cap] ∧ SliceV 40 enl W.heap.size W a len L ∧ len * 6 ≤ Rows.uptoBulk x.1 := by
  rcases open_slice Tryz.underlying58 hf with ⟨hcs, _⟩ | ⟨ad, len, cap, m, k, D, Pl, hcs, _, hl, hm, hmm, hx, hel⟩
  · exact ⟨none, 0, 0, [], hcs, SliceV.nil _ _, by omega⟩
  · have hlm : len ≤ m := by rw [hmm]; split <;> omega
    have each : ∀ j, j < len → ∃ y : En, ∀ i v, (enl y)[i]? = some v → W.cell? (ad.add (j * 40 + i)) = some v := by
      intro j hj
      obtain ⟨cs, hc, ht⟩ := hel j (by omega)
      obtain ⟨⟨y, rfl⟩, _⟩ := ent_in ht
      rw [cellsEnL] at hc
      obtain ⟨_, _, hcell⟩ := World.cells?_some hc
      refine ⟨y, fun i' v hv => ?_⟩
      have h6 : i' < 40 := (List.getElem?_eq_some_iff.1 hv).1
      have := hcell i' h6
      rw [add_add] at this
      rw [this]
      exact hv
    haveI : Inhabited En := ⟨⟨⟨0, false, 0, 0, 0, 0⟩, ⟨0, 0, 0, 0, 0⟩, false, ⟨0, 0, ⟨0, false, 0, 0, 0, 0⟩, ⟨0, false, 0, 0, 0, 0⟩, 0, ⟨0, false, 0, 0, 0, 0⟩, 0⟩, ⟨0, false, 0, 0, 0, 0⟩⟩⟩
    obtain ⟨f, hfn⟩ := choose_lt each
    refine ⟨some ad, len, cap, (List.range len).map f, hcs, ⟨by omega, by simp, ?_⟩, ?_⟩
    · by_cases h0 : len = 0
      · exact .inl h0
      · right
        obtain ⟨b, off, spot⟩ := ad
        have hc0 := hfn 0 (by omega) 0 _ rfl
        have hspot : spot = none := by simpa [Addr.add] using World.cell?_spot hc0
        subst hspot
        refine ⟨b, off, rfl, ?_, fun j y hj => ?_⟩
        · have := World.block_lt_of_cell? _ _ hc0
          simpa [Addr.add] using this
        · simp only [List.getElem?_map, Option.map_eq_some_iff] at hj
          obtain ⟨j', hj', rfl⟩ := hj
          obtain ⟨hjl, hje⟩ := List.getElem?_eq_some_iff.1 hj'
          simp at hjl hje
          subst hje
          intro i v hv
          have := hfn j hjl i v hv
          rw [Go.WideShapes.add_plain] at this
          rw [Nat.add_assoc]
          exact this
    · rw [hx]
      have h1 := bulk_each (k := 6) (l := (List.range len).map D) fun d hd => by
        obtain ⟨j, hj, rfl⟩ := List.mem_map.1 hd
        obtain ⟨cs, hc, ht⟩ := hel j (by have := List.mem_range.1 hj; omega)
        exact (ent_in ht).2
      rw [List.length_map, List.length_range] at h1
      simp only [Rows.uptoBulk]
      omega
/-- A slice of ints that came in: its one cell, opened. -/
theorem intS_in {fuel : Nat} {cs : List Value} {x : DataW H × List MemPlace}
    (hf : DataW.trod enc Tryz.prog W 0 sp held fuel 52 cs = some x) : ∃ a len cap L, cs = [.slice a len cap] ∧ SliceN W.heap.size W a len L := by
  rcases open_slice Tryz.underlying52 hf with ⟨hcs, _⟩ | ⟨ad, len, cap, m, k, D, Pl, hcs, _⟩
  · subst hcs
    obtain ⟨L, hL⟩ := ints_in hf
    exact ⟨_, _, _, L, rfl, hL⟩
  · subst hcs
    obtain ⟨L, hL⟩ := ints_in hf
    exact ⟨_, _, _, L, rfl, hL⟩
/-- A state's ten cells, opened. -/
theorem state_in {fuel : Nat} {cs : List Value} {x : DataW H × List MemPlace} (hf : DataW.trod enc Tryz.prog W 0 sp held fuel 32 cs = some x) :
    ∃ a n c x a1 n1 c1 a2 n2 c2 t R L G, cs = stl a n c x a1 n1 c1 a2 n2 c2 t ∧ StS W a n a1 n1 a2 n2 R L G := by
  obtain ⟨y0, y1, y2, y3, n, _, hl, h0, h1, h2, h3⟩ := trod_struct4 Tryz.underlying32 hf
  rw [cellsSt] at hl
  match cs, hl with
  | [v0, v1, v2, v3, v4, v5, v6, v7, v8, v9], _ =>
    simp only [cellsWS, cellsW, cellsMem, cellsWI, List.drop, List.take] at h0 h1 h2 h3
    obtain ⟨a, k, c, R, e0, hR⟩ := words_in h0
    obtain ⟨n, i, b, t, q, s, e1, _⟩ := open_word6 h1
    obtain ⟨a1, n1, c1, a2, n2, c2, L, G, e2, hM⟩ := mem_in h2
    obtain ⟨tr, e3, _⟩ := DataW.trod_int Tryz.underlying3 h3
    simp at e0 e1 e2 e3
    obtain ⟨rfl, rfl, rfl, rfl, rfl, rfl⟩ := e1
    obtain ⟨rfl, rfl⟩ := e2
    subst e0 e3
    exact ⟨a, k, c, ⟨n, i, b, t, q, s⟩, a1, n1, c1, a2, n2, c2, tr, R, L, G, rfl, hR, hM⟩
/-- A core by value, opened. -/
theorem open_core {r : Reach} {b0 : Nat} {v : Value} {d : DataW H} {p : List MemPlace} (hv : Value.okWide Tryz.prog W r b0 60 v) (h : DataW.Trod enc Tryz.prog W 0 sp held 60 v d p) :
    ∃ cv ca cr, v = .agg (col cv ca).toArray ∧ CoS W cv ca cr ∧ cv.en * 6 ≤ Rows.uptoBulk d := by
  obtain ⟨cs, rfl, hsz⟩ := okWide_struct Tryz.underlying60 hv
  obtain ⟨fuel, hf⟩ := h
  obtain ⟨y0, y1, y2, y3, y4, n, hx, hl, h0, h1, h2, h3, h4⟩ := trod_five Tryz.underlying60 hf
  rw [cellsCoL] at hl
  obtain ⟨l⟩ := cs
  simp only [Value.cells] at hl h0 h1 h2 h3 h4
  match l, hl with
  | [v0, v1, v2, v3, v4, v5, v6, v7, v8, v9, v10, v11, v12, v13, v14, v15, v16, v17, v18], _ =>
    simp only [cellsSt, cellsES, cellsW, cellsWB, cellsIS, List.drop, List.take] at h0 h1 h2 h3 h4
    obtain ⟨ra, rn, rc, px, wa, wn, wc, ga, gn, gc, t, R, L, G, e0, hS⟩ := state_in h0
    obtain ⟨ea, en, ec, E, e1, hE, hb⟩ := ents_in h1
    obtain ⟨n2, i2, b2, t2, p2, s2, e2, _⟩ := open_word6 h2
    obtain ⟨st, e3, _⟩ := DataW.trod_bool Tryz.underlying4 h3
    obtain ⟨ja, jn, jc, J, e4, hJ⟩ := intS_in h4
    simp at e0 e1 e2 e3 e4
    obtain ⟨rfl, rfl, rfl, rfl, rfl, rfl, rfl, rfl, rfl, rfl⟩ := e0
    obtain ⟨rfl, rfl, rfl, rfl, rfl, rfl⟩ := e2
    subst e1 e3 e4
    refine ⟨⟨rn, px, wn, gn, t, en, ⟨n2, i2, b2, t2, p2, s2⟩, st, jn⟩, ⟨ra, rc, wa, wc, ga, gc, ea, ec, ja, jc⟩, ⟨R, L, G, E, J⟩, rfl, ⟨hS, hE, hJ⟩, ?_⟩
    have hx' : d = .agg [y0.1, y1.1, y2.1, y3.1, y4.1] := hx
    rw [hx']
    have h5 := bulk_part (d := y1.1) (l := [y0.1, y1.1, y2.1, y3.1, y4.1]) (by simp)
    simp only [Rows.uptoBulk]
    show en * 6 ≤ _
    omega
end
end Go.Proofs.YtpkhnajhamnggaaGreatDoor
