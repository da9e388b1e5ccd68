/- CodeRead of the specification at all texts: the places that are read and true, or none and false. No condition. -/
import Derived.Test.YtdcghcbliajcpaaDoorTxtY
import Derived.Test.YtdcghcbliajcpaaDoorTxtG
import Derived.Test.YtdcghcbliajcpaaDoorTxtH
namespace Go.Proofs.YtdcghcbliajcpaaDoor
open Go.ChangeShapes Go.WideShapes Go.ChangeAt Go.RowKit
set_option maxRecDepth 100000

/-- A row of places being filled. -/
structure CO (w0 : World) (v : Value) (L : List In) (w : World) : Prop where
  own : w.ownsRow w0.heap.size 25 5 v L.length (L.flatMap In.vs)
  bel : Below w0.heap.size w0 w
theorem CO.new (w : World) : CO w (.slice (some ⟨w.heap.size, 0, none⟩) 0 0) [] (w.alloc (.cells #[] 25)) :=
  ⟨World.ownsRow_made w #[] 0 (Nat.le_refl _) (Nat.zero_le _) rfl, (Below.refl _ _).alloc (Nat.le_refl _) _⟩
theorem CO.alloc {w0 w : World} {v : Value} {L : List In} (h : CO w0 v L w) (o : Obj) : CO w0 v L (w.alloc o) := ⟨h.own.alloc o, h.bel.alloc h.bel.size _⟩
theorem CO.next {w0 w w' : World} {v : Value} {L : List In} (h : CO w0 v L w) (hb : Below w.heap.size w w') : CO w0 v L w' := by
  refine ⟨h.own.kept (KeepBut.ofBelow (q := w.heap.size) hb).grownI ?_, h.bel.trans (hb.mono h.bel.size)⟩
  cases hv : v.ownBlock with
  | none => exact .inl rfl
  | some k => exact .inr (fun he => by have := (h.own.lt k hv).2; have := Option.some.inj he; omega)
theorem CO.appended {w0 w w' : World} {v v' : Value} {L : List In} {x : In} (h : CO w0 v L w) (o : w'.ownsRow w0.heap.size 25 5 v' (L.length + 1) (L.flatMap In.vs ++ List.flatMap In.vs [x])) (g : w.grownBy w' v.ownBlock) : CO w0 v' (L ++ [x]) w' := by
  have hb : Below w0.heap.size w w' := grown_belowI g h.bel.size (fun k hk => (h.own.lt k hk).1)
  refine ⟨?_, h.bel.trans hb⟩
  have e : (L ++ [x]).flatMap In.vs = L.flatMap In.vs ++ List.flatMap In.vs [x] := by simp
  rw [e, List.length_append]
  exact o

/-- The answer. -/
def SQ (l : List UInt8) (w : World) (e : Ending) (w' : World) : Prop :=
  ∃ ad cap, e = .returned (.tuple #[.slice ad ((readC l).getD []).length cap, .bool (readC l).isSome]) ∧ SliceI w'.heap.size w' ad ((readC l).getD []).length ((readC l).getD []) ∧ Below w.heap.size w w'
theorem SQ.bad {l : List UInt8} {w w' : World} {ad : Option Addr} {cap : Nat} (h : readC l = none) (hb : Below w.heap.size w w') : SQ l w (.returned (.tuple #[.slice ad 0 cap, .bool false])) w' := by
  unfold SQ
  rw [h]
  exact ⟨ad, cap, rfl, ⟨by unfold maxLen; simp, rfl, .inl rfl⟩, hb⟩
theorem SQ.good {l : List UInt8} {w w' : World} {v : Value} {L : List In} (h : readC l = some L) (hC : CO w v L w') : SQ l w (.returned (.tuple #[v, .bool true])) w' := by
  unfold SQ
  rw [h]
  obtain ⟨ad, cap, hv, hs⟩ := owns_sliceI hC.own
  exact ⟨ad, cap, by rw [hv]; rfl, hs, hC.bel⟩

/-- Where the loop stands. -/
def CAt (l : List UInt8) (i start : Nat) (L : List In) : Prop :=
  ∃ P, (10 : UInt8) ∉ (l.drop start).take (i - start) ∧ splitL 10 l = P ++ splitL 10 (l.drop start) ∧ mapR P = some L
theorem CAt.zero (l : List UInt8) : CAt l 0 0 [] := ⟨[], by simp, by simp, rfl⟩
theorem CAt.miss {l : List UInt8} {i start : Nat} {L : List In} (h : CAt l i start L) (h1 : start ≤ i) (h2 : i < l.length) (hc : l.getD i 0 ≠ 10) : CAt l (i + 1) start L := by
  obtain ⟨P, a, b, c⟩ := h
  refine ⟨P, not_mem_take a h1 h2 (fun j h1 h2 => ?_), b, c⟩
  obtain rfl : j = i := by omega
  exact hc
theorem CAt.hit {l : List UInt8} {i start : Nat} {L : List In} {x : In} (h : CAt l i start L) (h1 : start ≤ i) (h2 : i < l.length) (hc : l.getD i 0 = 10) (hr : readL ((l.drop start).take (i - start)) = some x) : CAt l (i + 1) (i + 1) (L ++ [x]) := by
  obtain ⟨P, a, b, c⟩ := h
  refine ⟨P ++ [(l.drop start).take (i - start)], by simp, ?_, ?_⟩
  · rw [b, cut_at h1 h2 hc a]; simp
  · rw [mapR_append, c, mapR_one, hr]; rfl
theorem CAt.bad {l : List UInt8} {i start : Nat} {L : List In} (h : CAt l i start L) (h1 : start ≤ i) (h2 : i < l.length) (hc : l.getD i 0 = 10) (hr : readL ((l.drop start).take (i - start)) = none) : readC l = none := by
  obtain ⟨P, a, b, c⟩ := h
  unfold readC
  rw [b, cut_at h1 h2 hc a, List.dropLast_append_of_ne_nil (by simp), List.dropLast_cons_of_ne_nil (splitL_ne _ _), mapR_append, c]
  simp [mapR, hr]
theorem CAt.done {l : List UInt8} {start : Nat} {L : List In} (h : CAt l l.length start L) : readC l = if l = [] ∨ codeL L ≠ l then none else some L := by
  obtain ⟨P, a, b, c⟩ := h
  unfold readC
  rw [b, cut_end a, List.dropLast_concat, c]
  rfl

set_option maxHeartbeats 8000000 in
theorem specCodeRead_any (l : List UInt8) (hl : l.length ≤ 1048576) (w : World) :
    Calls Tryd.prog 23 #[.string (bs l)] w fun e w' => SQ l w e w' := by
  obtain ⟨Q, HQ⟩ : ∃ Q : Ending → World → Prop, Hid (∀ e w', SQ l w e w' → Q e w') ∧ (∀ e w', Q e w' → SQ l w e w') := ⟨SQ l w, fun _ _ h => h, fun _ _ h => h⟩
  refine Calls.mono (R := Q) ?_ HQ.2
  have HQ := HQ.1
  have c0 : (ByteArray.mk #[]) = bs [] := rfl
  obtain ⟨i0, hi, hz0, hz1, hz2⟩ := info_parts infoI
  have HI := hid_mk hi
  have HZ0 := hid_mk hz0
  have HZ1 := hid_mk hz1
  have HZ2 := hid_mk hz2
  clear hi hz0 hz1 hz2
  have hbl := bs_size l
  go_enter Tryd.func23, Tryd.ntmps23
  go_wp2
  have I0 := hid_mk (CO.new w)
  generalize w.alloc (.cells #[] 25) = w1 at I0
  go_loopw [4, 5, 6] (fun v st ii wr => ∃ (i start : Nat) (L : List In), i ≤ l.length ∧ start ≤ i ∧ L.length ≤ start ∧ st = .int .i64 (start : Int) ∧ ii = .int .i64 (i : Int) ∧ Hid (CAt l i start L) ∧ Hid (CO w v L wr)) (fun _ _ ii _ => l.length - (intOf ii).toNat)
  case atStart => exact ⟨0, 0, [], Nat.zero_le _, Nat.le_refl _, Nat.le_refl _, rfl, rfl, CAt.zero l, I0.out⟩
  case round =>
    clear I0
    obtain ⟨i, start, L, h1, h2, h3, rfl, rfl, A, I⟩ := hrel
    have hmi : (i : Int) ≤ 1048576 := by omega
    by_cases hi : i < l.length
    · have hii : (i : Int) < (l.length : Int) := by omega
      have hsi : (start : Int) ≤ (i : Int) := by omega
      have hil : (i : Int) ≤ (l.length : Int) := by omega
      have hx : (bs l).extract start i = bs ((l.drop start).take (i - start)) := bs_extract l start i
      by_cases he : l.getD i 0 = 10
      · have hg : ∀ h : i < (bs l).size, (bs l)[i]'h = 10 := fun h => by rw [bs_at l i hi h, he]
        have hyl : ((l.drop start).take (i - start)).length ≤ 1048576 := by rw [List.length_take, List.length_drop]; omega
        have s5 := fun w => specInsRead_any ((l.drop start).take (i - start)) hyl w
        have AH := hid_mk (fun x => A.out.hit (x := x) h2 hi he)
        have AB := hid_mk (A.out.bad h2 hi he)
        generalize (l.drop start).take (i - start) = y at hx hyl s5 AH AB
        cases hr : readL y with
        | none =>
          simp only [hr, Option.getD_none, Option.isSome_none, insV] at s5
          have S5 := hid_mk s5
          have hN := AB.out hr
          have NN := hid_mk hN
          clear s5 hr AH AB A hN he
          go_wp2_with (go_at_call 15; refine (S5.out _).mono ?_; rintro e w6 ⟨rfl, hb⟩; refine Hid.out ?_)
          refine Lib.hid ?_
          have B6 : Hid (Below w.heap.size w w6) := I.out.bel.trans (hb.mono I.out.bel.size)
          have zB := B6.out.size
          clear hb
          go_wp2
          exact HQ.out _ _ (SQ.bad NN.out ((B6.out.alloc zB _).alloc (by rw [World.size_alloc]; omega) _))
        | some x =>
          simp only [hr, Option.getD_some, Option.isSome_some, insV] at s5
          have S5 := hid_mk s5
          have A2 := hid_mk (AH.out x hr)
          clear s5 hr AH AB A he
          go_wp2_with (first
            | (go_at_call 15; refine (S5.out _).mono ?_; rintro e w6 ⟨rfl, hb⟩; refine Hid.out ?_))
          refine Lib.hid ?_
          have I6 := hid_mk (I.out.next hb)
          have I7 := hid_mk (I6.out.alloc (.cells #[.int .i64 x.o, .int .i64 x.r, .int .i64 x.a, .int .i64 x.b, .int .i64 x.n] 25))
          have X7 := hid_mk (Five.new w6 x.o x.r x.a x.b x.n 25)
          clear hb I I6
          go_upto_region 10 with fail
          generalize w6.heap.size = kx at X7 ⊢
          generalize w6.alloc (.cells #[.int .i64 x.o, .int .i64 x.r, .int .i64 x.a, .int .i64 x.b, .int .i64 x.n] 25) = w7 at I7 X7 ⊢
          obtain ⟨_, d0, d1, d2, d3, d4, _⟩ := X7.out
          have la := hid_mk (I7.out.alloc (.cells #[.int .i64 x.o, .int .i64 x.r, .int .i64 x.a, .int .i64 x.b, .int .i64 x.n] 25))
          go_wp2_with (first
            | (at_builtin; refine wpList_append_own _ rfl _ _ 32 rfl w.heap.size 25 i0 _ 5 40 Tryd.underlying32 HI.out HZ0.out HZ1.out HZ2.out rfl (by decide) _ _ _ rfl la.out.own ⟨w7.heap.size, 0, none⟩ 1 1 (List.flatMap In.vs [x]) rfl (flat_lenI _) ?c1 (flat_one _) ?c3 ?c4 ?c5 ?_))
          case c1 => exact fun j u hj => new_cells _ _ _ j u hj
          case c3 => unfold maxLen; omega
          case c4 => omega
          case c5 => exact la.out.bel.size
          intro v' w9 own9 grow9 _
          have l9 := hid_mk (la.out.appended own9 grow9)
          clear own9 grow9 la hx d0 d1 d2 d3 d4 X7
          go_wp2
          go_roundw
          case rel => exact ⟨i + 1, i + 1, L ++ [x], hi, Nat.le_refl _, by simp; omega, by go_num, by go_num, A2.out, l9.out⟩
          case measure => (simp [intOf]; omega)
      · obtain ⟨c, hc⟩ : ∃ c, l.getD i 0 = c := ⟨_, rfl⟩
        have hcn : c ≠ 10 := fun h => he (hc.trans h)
        have hg : ∀ h : i < (bs l).size, (bs l)[i]'h = c := fun h => by rw [bs_at l i hi h, hc]
        have hcb : ((c.toNat : Int) == 10) = false := by
          have : c.toNat ≠ 10 := fun h => hcn (UInt8.toNat_inj.1 h)
          simp; omega
        have A2 := hid_mk (A.out.miss h2 hi he)
        clear he hc hcn hx
        go_wp2
        go_roundw
        case rel => exact ⟨i + 1, start, L, hi, by omega, h3, rfl, by go_num, A2.out, I.out⟩
        case measure => (simp [intOf]; omega)
    · obtain rfl : i = l.length := by omega
      have RC := hid_mk A.out.done
      clear A
      by_cases hl0 : l = []
      · have hN : readC l = none := by rw [RC.out, if_pos (.inl hl0)]
        have hq : ∀ w', Below w.heap.size w w' → ∀ ad cap, Q (.returned (.tuple #[.slice ad 0 cap, .bool false])) w' := fun w' hb ad cap => HQ.out _ _ (SQ.bad hN hb)
        have HH := hid_mk hq
        have hcm : ((bs l).toList == (bs []).toList) = true := by rw [hl0]; simp
        have zB := I.out.bel.size
        clear hq hN RC hl0
        go_wp2
        exact HH.out _ (I.out.bel.alloc zB _) _ _
      · have hcm : ((bs l).toList == (bs []).toList) = false := ne_bs hl0
        obtain ⟨ad, cap, rfl, hs⟩ := owns_sliceI I.out.own
        have s6 := specCodeText_any ad L.length cap L wr hs
        obtain ⟨t, T⟩ : ∃ t, Hid (t = codeL L) := ⟨_, rfl⟩
        rw [← T.out] at s6
        have S6 := hid_mk s6
        clear hs s6
        go_wp2_with (go_at_call 18; refine S6.out.mono ?_; rintro e w7 ⟨rfl, hb⟩; refine Hid.out ?_)
        refine Lib.hid ?_
        have I7 := hid_mk (I.out.next hb)
        clear hb
        by_cases htl : t = l
        · have hcq : ((bs t).toList == (bs l).toList) = true := by rw [htl]; simp
          have hN : readC l = some L := by
            rw [RC.out, if_neg]
            rintro (h | h)
            · exact hl0 h
            · exact h (by rw [← T.out]; exact htl)
          have hq : Q (.returned (.tuple #[.slice ad L.length cap, .bool true])) w7 := HQ.out _ _ (SQ.good hN I7.out)
          clear htl hN hl0
          go_wp2
          exact hq
        · have hcq : ((bs t).toList == (bs l).toList) = false := ne_bs htl
          have hN : readC l = none := by rw [RC.out, if_pos (.inr (by rw [← T.out]; exact htl))]
          have hq : ∀ w', Below w.heap.size w w' → ∀ ad cap, Q (.returned (.tuple #[.slice ad 0 cap, .bool false])) w' := fun w' hb ad cap => HQ.out _ _ (SQ.bad hN hb)
          have HH := hid_mk hq
          have zB := I7.out.bel.size
          clear hq hN RC hl0 htl
          go_wp2
          exact HH.out _ (I7.out.bel.alloc zB _) _ _
end Go.Proofs.YtdcghcbliajcpaaDoor
