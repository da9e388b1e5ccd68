/- insOfLine of the program at all lines: the place that is read, or that it panics with the program's own error. The tables and errors hold what the texts lay. -/
import Derived.Test.YtdcghcbliajcpaaDoorTxtR
import Derived.RegionDies
namespace Go.Proofs.YtdcghcbliajcpaaDoor
open Go.ChangeShapes Go.WideShapes Go.ChangeAt Go.RowKit
set_option maxRecDepth 100000

theorem own_row7 {w : World} {base : Nat} {v : Value} {P : List (List UInt8)} (h : w.ownsRow base 9 1 v P.length (strs P)) (hP : 0 < P.length) :
    ∃ g cap, v = .slice (some ⟨g, 0, none⟩) P.length cap ∧ base ≤ g ∧ g < w.heap.size ∧ ∀ j p, P[j]? = some p → w.cell? ⟨g, j, none⟩ = some (.string (bs p)) := by
  rcases h.2 with ⟨_, h0⟩ | ⟨g, cap, cur, hv, hb, hg, hn, hm, hs, ht⟩
  · omega
  · refine ⟨g, cap, hv, hb, (Array.getElem?_eq_some_iff.1 hg).1, fun j p hj => ?_⟩
    have hc := h.cells (g := g) (by rw [hv]; rfl) j (.string (bs p)) (by simp [strs, hj])
    rw [Go.WideShapes.add_plain, Nat.zero_add] at hc
    exact hc

theorem Itr.keep {w0 w w' : World} {k pos q : Nat} {s : ByteArray} (h : Itr w0 k s pos w) (g : KeepBut q w w') (hq : k ≠ q) (h0 : w0.heap.size ≤ q) : Itr w0 k s pos w' := ⟨(g.block k h.lt hq).trans h.it, h.new, h.bel.trans (g.below h0 h.bel.size)⟩
theorem idx_facts (pos n : Nat) (h : pos < n) (hn : n ≤ 4) : IntKind.i64.wrap (1 + (pos : Int)) = 1 + (pos : Int) ∧ wrap64 (1 + (pos : Int)) = 1 + (pos : Int) ∧ (0 : Int) ≤ 1 + (pos : Int) ∧ 1 + (pos : Int) < (n : Int) + 1 ∧ (1 + (pos : Int)).toNat = pos + 1 :=
  ⟨IntWalk.i64_in _ ⟨by omega, by omega⟩, IntWalk.wrap64_in _ ⟨by omega, by omega⟩, by omega, by omega, by omega⟩
set_option maxHeartbeats 8000000 in
theorem insOfLine_any (l : List UInt8) (hl : l.length ≤ 1048576) (ae : Addr) (w : World) (hL : LayE ae w) :
    Calls Tryd.prog 41 #[.string (bs l)] w fun e w' => e = endI ae insV (readL l) ∧ Below w.heap.size w w' := by
  obtain ⟨z, Z⟩ : ∃ z, Hid (z = endI ae insV (readL l)) := ⟨_, rfl⟩
  rw [← Z.out]
  have L0 := hid_mk hL
  have R0 : Hid (Five (w.alloc (.cells #[.int .i64 0, .int .i64 0, .int .i64 0, .int .i64 0, .int .i64 0] 25)) w.heap.size 0 0 0 0 0) := Five.new _ _ _ _ _ _ _
  have B0 : Hid (Below w.heap.size w (w.alloc (.cells #[.int .i64 0, .int .i64 0, .int .i64 0, .int .i64 0, .int .i64 0] 25))) := (Below.refl _ _).alloc (Nat.le_refl _) _
  have zB0 : (w.alloc (.cells #[.int .i64 0, .int .i64 0, .int .i64 0, .int .i64 0, .int .i64 0] 25)).heap.size = w.heap.size + 1 := by simp
  have s0 := partsOf_any 32 (by decide) 5 (by decide) (by decide) l hl ae _ (hL.below B0.out)
  clear hL
  by_cases h5 : 5 ≤ l.count 32
  · have e5 : partsZ 32 5 l = none := by rw [partsZ, if_pos h5]
    simp only [e5] at s0
    have S0 : Hid (Calls Tryd.prog 59 #[.string (bs l), .int .i32 32, .int .i64 5] (w.alloc (.cells #[.int .i64 0, .int .i64 0, .int .i64 0, .int .i64 0, .int .i64 0] 25)) _) := s0
    have hz : z = .panicked [{ v := .iface 138 (.pointer (some ae)), recovered := false }] := by
      rw [Z.out, readL, if_pos h5]; rfl
    subst hz
    clear s0 h5 e5 zB0
    go_enter Tryd.func41, Tryd.ntmps41
    go_wp2_with (go_at_call 59; refine S0.out.mono ?_; rintro e w1 ⟨rfl, hb⟩)
    go_wp2
    exact ⟨rfl, rfl, B0.out.trans (hb.mono B0.out.size)⟩
  have e5 : partsZ 32 5 l = some (splitL 32 l) := by rw [partsZ, if_neg h5]
  simp only [e5] at s0
  have S0 : Hid (Calls Tryd.prog 59 #[.string (bs l), .int .i32 32, .int .i64 5] (w.alloc (.cells #[.int .i64 0, .int .i64 0, .int .i64 0, .int .i64 0, .int .i64 0] 25)) _) := s0
  obtain ⟨nm, ps, hP⟩ : ∃ nm ps, splitL 32 l = nm :: ps := by
    cases h : splitL 32 l with
    | nil => exact absurd h (splitL_ne 32 l)
    | cons a b => exact ⟨a, b, rfl⟩
  have HPL : Hid (∀ p ∈ nm :: ps, p.length ≤ 281474976710656) := fun p hp => by
    have := part_len (c := 32) (l := l) (p := p) (by rw [hP]; exact hp)
    omega
  have RL : Hid (readL l = (opL nm).bind fun o => if (nm :: ps).length ≠ 1 + (flL o).length then none else (foldL (flL o) ps ⟨o, 0, 0, 0, 0⟩).bind fun x => if inL x = l then some x else none) := by
    unfold readL
    rw [if_neg h5, hP]
    rfl
  rw [hP] at S0
  have hps : ps.length ≤ 1048576 := by
    have h := splitL_length 32 l
    rw [hP] at h
    simp at h
    omega
  clear s0 h5 e5
  have HNE : Hid (l ≠ [] ∨ nm = []) := by
    by_cases h : l = []
    · subst h
      right
      rw [split_nil] at hP
      exact (List.cons.inj hP).1.symm
    · exact .inl h
  clear hP
  go_enter Tryd.func41, Tryd.ntmps41
  go_wp2_with (go_at_call 59; refine S0.out.mono ?_; rintro e w1 ⟨⟨v, rfl, own⟩, hb⟩; refine Hid.out ?_)
  refine Lib.hid ?_
  obtain ⟨g, cap, rfl, hg0, hg1, hrow⟩ := own_row7 own (by simp)
  have R1 := hid_mk (R0.out.below hb)
  have B1 := hid_mk (B0.out.trans (hb.mono B0.out.size))
  have hgn : w.heap.size < g := by omega
  have HR := hid_mk hrow
  have L1 := hid_mk (L0.out.below B1.out)
  have c0 := HR.out 0 nm rfl
  clear hb own hrow R0 B0 zB0
  have s1 := opNamed_any nm ae w1 L1.out
  cases ho : opL nm with
  | none =>
    simp only [ho, endI_none] at s1
    have S1 := hid_mk s1
    have hz : z = .panicked [{ v := .iface 138 (.pointer (some ae)), recovered := false }] := by
      rw [Z.out, RL.out, ho]; rfl
    subst hz
    clear s1 ho
    go_wp2_with (go_at_call 60; refine S1.out.mono ?_; rintro e w2 ⟨rfl, hb⟩)
    go_wp2
    exact ⟨rfl, rfl, B1.out.trans (hb.mono B1.out.size)⟩
  | some o =>
    simp only [ho, endI_some] at s1
    have S1 := hid_mk s1
    have hor := (opL_some ho).1
    obtain ⟨o0, o1⟩ := hor
    have HN2 : Hid (l ≠ []) := by
      rcases HNE.out with h | h
      · exact h
      · rw [h, opL_nil] at ho
        cases ho
    have RL2 : Hid (readL l = if (nm :: ps).length ≠ 1 + (flL o).length then none else (foldL (flL o) ps ⟨o, 0, 0, 0, 0⟩).bind fun x => if inL x = l then some x else none) := by
      rw [RL.out, ho]; rfl
    have S2 := hid_mk (fieldsOf_any o 0 0 0 0 ⟨o0, o1⟩)
    have HF : Hid (∀ c ∈ flL o, (c = 82 ∨ c = 65 ∨ c = 66 ∨ c = 78) ∧ c.toNat < 128) := fun c hc => ⟨fl_four hc, fl_ascii o c hc⟩
    have hfl := fl_length o
    generalize flL o = fl at S2 HF hfl RL2
    clear s1 ho HNE RL
    go_wp2_with (go_at_call 60; refine S1.out.mono ?_; rintro e w2 ⟨rfl, hb⟩; refine Hid.out ?_)
    refine Lib.hid ?_
    have M2 : Hid (Rl w g w2.heap.size (nm :: ps) ⟨o, 0, 0, 0, 0⟩ (w2.alloc (.cells #[.int .i64 o, .int .i64 0, .int .i64 0, .int .i64 0, .int .i64 0] 25))) := by
      have hs := hb.size
      have hr := (R1.out.below hb)
      exact ⟨hr.alloc _, Five.new _ _ _ _ _ _ _, fun j p hj => by
        have h1 := HR.out j p hj
        have h2 := (hb.cell (World.block_lt_of_cell? _ _ h1)).trans h1
        rw [World.cell?_alloc_lt _ _ _ (World.block_lt_of_cell? _ _ h2)]
        exact h2, by simp; omega, by have := hr.lt; omega, by omega, by have := hr.lt; omega, by omega, (B1.out.trans (hb.mono B1.out.size)).alloc (by have := hr.lt; omega) _⟩
    clear c0 R1 B1 HR L1 hb
    obtain ⟨d0, d1, d2, d3, d4⟩ : _ ∧ _ ∧ _ ∧ _ ∧ _ := ⟨M2.out.fx.c0, M2.out.fx.c1, M2.out.fx.c2, M2.out.fx.c3, M2.out.fx.c4⟩
    go_wp2_with (go_at_call 32; refine (S2.out _).mono ?_; rintro e w3 ⟨rfl, hb⟩; refine Hid.out ?_)
    refine Lib.hid ?_
    have M3 := hid_mk (M2.out.next hb)
    clear d0 d1 d2 d3 d4 hb M2
    generalize w2.heap.size = kx at M3 ⊢
    have hbl := bs_size fl
    by_cases hlen : ps.length = fl.length
    · have hcmp : ((ps.length : Int) + 1 != 1 + (fl.length : Int)) = false := by simp; omega
      have RL3 : Hid (readL l = (foldL fl ps ⟨o, 0, 0, 0, 0⟩).bind fun x => if inL x = l then some x else none) := by
        exact RL2.out.trans (if_neg (by simp; omega))
      clear RL2
      obtain ⟨y, Y⟩ : ∃ y, Hid (y = foldL fl ps ⟨o, 0, 0, 0, 0⟩) := ⟨_, rfl⟩
      rw [← Y.out] at RL3
      have HL := hid_mk hlen
      clear hlen
      go_wp2
      have I0 := hid_mk (Itr.new_iter w w3 (bs fl) M3.out.bel)
      have M4 : Hid (Rl w g kx (nm :: ps) ⟨o, 0, 0, 0, 0⟩ (w3.iter (bs fl) 0)) := M3.out.next ((Below.refl _ _).alloc (Nat.le_refl _) _)
      have hk1 : w.heap.size < w3.heap.size := M3.out.res.lt
      have hk2 : kx < w3.heap.size := M3.out.fx.lt
      have hk3 : g < w3.heap.size := M3.out.lg
      generalize w3.heap.size = ki at I0 hk1 hk2 hk3 ⊢
      generalize w3.iter (bs fl) 0 = w4 at I0 M4 ⊢
      clear M3 hcmp
      go_loopw [6] (fun _ wr => ∃ (pos : Nat) (x : In), pos ≤ fl.length ∧ Hid (y = foldL (fl.drop pos) (ps.drop pos) x) ∧ Hid (Itr w ki (bs fl) pos wr) ∧ Hid (Rl w g kx (nm :: ps) x wr)) (fun _ wr => fl.length - wr.iterPos ki)
      case atStart => exact ⟨0, ⟨o, 0, 0, 0, 0⟩, Nat.zero_le _, Y.out, I0.out, M4.out⟩
      case round =>
        clear I0 M4
        obtain ⟨pos, x, hpl, YY, I, M⟩ := hrel
        have hpos := I.out.stands
        by_cases hp : pos < fl.length
        · obtain ⟨c, hc⟩ : ∃ c, fl[pos]? = some c := ⟨fl[pos], List.getElem?_eq_getElem hp⟩
          obtain ⟨p, hpp⟩ : ∃ p, ps[pos]? = some p := ⟨ps[pos]'(by have := HL.out; omega), List.getElem?_eq_getElem (by have := HL.out; omega)⟩
          have hcm := HF.out c (List.mem_of_getElem? hc)
          have hcg : fl.getD pos 0 = c := by simp [List.getD, hc]
          have hnx := fun ty => next_hit hcm.2 hp I.out.it hcg ty
          have YS := YY.out
          rw [foldL_step hc hpp] at YS
          have hplen := HPL.out p (List.mem_cons_of_mem _ (List.mem_of_getElem? hpp))
          have I2 := hid_mk (I.out.step (pos + 1))
          have M2 := hid_mk (M.out.keep (keep_iterAt wr ki (bs fl) (pos + 1)) (Nat.ne_of_lt hk1) (Nat.ne_of_lt hk2) (Nat.ne_of_lt hk3) (Nat.le_of_lt hk1))
          generalize wr.iterAt ki (bs fl) (pos + 1) = w5 at hnx I2 M2
          have hcell := M2.out.row (pos + 1) p (by simpa using hpp)
          have s5 := withField_any x.o x.r x.a x.b x.n c hcm.1 p hplen ae w5.drew (L0.out.below M2.out.drew.bel)
          have Y5 := hid_mk YS
          obtain ⟨hwr, hwr2, hi0, hi1, hi2⟩ := idx_facts pos ps.length (by have := HL.out; omega) (by have := HL.out; omega)
          clear YS YY hcm hcg hc hpp hplen
          generalize (c.toNat : Int) = m at hnx s5
          obtain ⟨d0, d1, d2, d3, d4⟩ : _ ∧ _ ∧ _ ∧ _ ∧ _ := ⟨M2.out.fx.c0, M2.out.fx.c1, M2.out.fx.c2, M2.out.fx.c3, M2.out.fx.c4⟩
          obtain ⟨f0, f1, f2, f3, f4⟩ : _ ∧ _ ∧ _ ∧ _ ∧ _ := ⟨M2.out.fx.f0, M2.out.fx.f1, M2.out.fx.f2, M2.out.fx.f3, M2.out.fx.f4⟩
          cases hw : withL ⟨x.o, x.r, x.a, x.b, x.n⟩ c p with
          | none =>
            simp only [hw, endI_none] at s5
            have S5 := hid_mk s5
            have hz : z = .panicked [{ v := .iface 138 (.pointer (some ae)), recovered := false }] := by
              rw [Z.out, RL3.out, Y5.out, show withL x c p = none from hw]; rfl
            subst hz
            clear s5 hw Y5 RL3
            go_wp2_with fail
            go_region_dies
            all_goals
              go_wp2_with (go_at_call 61; refine S5.out.mono ?_; rintro e w6 ⟨rfl, hb⟩)
              exact ⟨rfl, rfl, (M2.out.drew.next hb).bel⟩
          | some x' =>
            simp only [hw, endI_some, insV] at s5
            have S5 := hid_mk s5
            have Y6 : Hid (y = foldL (fl.drop (pos + 1)) (ps.drop (pos + 1)) x') := by
              rw [Y5.out, show withL x c p = some x' from hw]; rfl
            clear s5 hw Y5
            go_wp2_with fail
            go_region_with (first | (go_at_call 61; refine S5.out.mono ?_; rintro e w6 ⟨rfl, hb⟩; have I6 := hid_mk ((I2.out.next (Below.refl _ _).drew).next hb); have M6 := hid_mk (M2.out.drew.next hb); clear hb d0 d1 d2 d3 d4 f0 f1 f2 f3 f4; obtain ⟨d0, d1, d2, d3, d4⟩ : _ ∧ _ ∧ _ ∧ _ ∧ _ := ⟨M6.out.fx.c0, M6.out.fx.c1, M6.out.fx.c2, M6.out.fx.c3, M6.out.fx.c4⟩; obtain ⟨f0, f1, f2, f3, f4⟩ : _ ∧ _ ∧ _ ∧ _ ∧ _ := ⟨M6.out.fx.f0, M6.out.fx.f1, M6.out.fx.f2, M6.out.fx.f3, M6.out.fx.f4⟩))
            all_goals
              have I7 := hid_mk (I6.out.keep (keep_put5 w6 kx x') (Nat.ne_of_gt hk2) M6.out.n0)
              have M7 := hid_mk (M6.out.set x')
              have hpos7 := I7.out.stands
              rw [put5] at I7 M7 hpos7
              go_wp2_with fail
              go_roundw
              case rel => exact ⟨pos + 1, x', hp, Y6.out, I7.out, M7.out⟩
              case measure => (rw [hpos7, hpos]; exact Nat.sub_lt_sub_left hp (Nat.lt_succ_self pos))
        · have hnx : ∀ ty, (Instr.next (.pointer (some ⟨ki, 0, none⟩)) true ty).run Tryd.prog wr = .ok (.tuple #[.bool false]) wr := fun ty => Lib.run_next_end_at wr ki (bs fl) pos ty I.out.it (by rw [bs_size]; exact hp)
          have hy : y = some x := by
            have h := YY.out
            have hl2 := HL.out
            rw [List.drop_eq_nil_of_le (by omega), List.drop_eq_nil_of_le (by omega)] at h
            exact h
          subst hy
          have T0 := hid_mk (implInsText_any x.o x.r x.a x.b x.n wr (L0.out.below M.out.bel).lay)
          have RL4 : Hid (readL l = if inL x = l then some x else none) := RL3.out
          obtain ⟨t, T⟩ : ∃ t, Hid (t = inL x) := ⟨_, rfl⟩
          have T1 : Hid (Calls Tryd.prog 10 #[.agg #[.int .i64 x.o, .int .i64 x.r, .int .i64 x.a, .int .i64 x.b, .int .i64 x.n]] wr fun e w' => e = .returned (.string (bs t)) ∧ Below wr.heap.size wr w') := by rw [T.out]; exact T0.out
          rw [← T.out] at RL4
          obtain ⟨d0, d1, d2, d3, d4⟩ : _ ∧ _ ∧ _ ∧ _ ∧ _ := ⟨M.out.fx.c0, M.out.fx.c1, M.out.fx.c2, M.out.fx.c3, M.out.fx.c4⟩
          clear T0 RL3 YY I
          go_wp2_with (go_at_call 10; refine T1.out.mono ?_; rintro e w6 ⟨rfl, hb⟩; refine Hid.out ?_)
          refine Lib.hid ?_
          have M6 := hid_mk (M.out.next hb)
          clear hb d0 d1 d2 d3 d4
          by_cases htl : t = l
          · have hcq : ((bs t).toList == (bs l).toList) = true := by rw [htl]; simp
            have hz : z = .returned (insV x) := by rw [Z.out, RL4.out, if_pos htl]; rfl
            subst hz
            clear RL4 htl T
            obtain ⟨d0, d1, d2, d3, d4⟩ : _ ∧ _ ∧ _ ∧ _ ∧ _ := ⟨M6.out.fx.c0, M6.out.fx.c1, M6.out.fx.c2, M6.out.fx.c3, M6.out.fx.c4⟩
            obtain ⟨l0, c0, c1, c2, c3, c4, f0, f1, f2, f3, f4⟩ := M6.out.res
            have hne := M6.out.n1
            go_wp2
            refine bodyPost_ret (v := .agg #[.int .i64 x.o, .int .i64 x.r, .int .i64 x.a, .int .i64 x.b, .int .i64 x.n]) (by simp [results, Tryd.results41, go_sem, c0, c1, c2, c3, c4]) rfl ⟨rfl, ?_⟩
            exact Below.setCell (Below.setCell (Below.setCell (Below.setCell (Below.setCell M6.out.bel (Nat.le_refl _) _) (Nat.le_refl _) _) (Nat.le_refl _) _) (Nat.le_refl _) _) (Nat.le_refl _) _
          · have hcq : ((bs t).toList == (bs l).toList) = false := ne_bs htl
            have hz : z = .panicked [{ v := .iface 138 (.pointer (some ae)), recovered := false }] := by
              rw [Z.out, RL4.out, if_neg htl]; rfl
            subst hz
            clear RL4 htl T
            have hge := (L0.out.below M6.out.bel).err
            go_wp2
            exact ⟨rfl, rfl, M6.out.bel⟩
    · have hcmp : ((ps.length : Int) + 1 == 1 + (fl.length : Int)) = false := by simp; omega
      have hz : z = .panicked [{ v := .iface 138 (.pointer (some ae)), recovered := false }] := by
        rw [Z.out, RL2.out, if_pos (by simp; omega)]; rfl
      subst hz
      have hge := (L0.out.below M3.out.bel).err
      go_wp2
      exact ⟨rfl, rfl, M3.out.bel⟩
end Go.Proofs.YtdcghcbliajcpaaDoor
