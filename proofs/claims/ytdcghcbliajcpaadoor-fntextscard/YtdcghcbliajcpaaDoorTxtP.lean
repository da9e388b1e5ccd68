/- partsOf of the program at all texts: the parts, or that it panics with the program's own error where there are too many. The tables and errors hold what the texts lay. -/
import Derived.Test.YtdcghcbliajcpaaDoorTxtN
import Derived.Test.YtdcghcbliajcpaaDoorTxtT
import Derived.Test.YtdcghcbliajcpaaDoorInsW
import Derived.Lib.DecodeN
import Derived.Lib.TrimUEq
namespace Go.Proofs.YtdcghcbliajcpaaDoor
open Go.ChangeShapes Go.WideShapes Go.ChangeAt Go.RowKit
set_option maxRecDepth 100000

theorem infoS : (Tryd.prog.info? 9).map (fun i => (i.zero, i.size, i.bytes)) = some (some (.string ⟨#[]⟩), 1, 16) := by kernel_rfl

/-- Texts as values. -/
def strs (L : List (List UInt8)) : List Value := L.map fun l => .string (bs l)
theorem strs_len (L : List (List UInt8)) : (strs L).length = L.length := by simp [strs]
theorem strs_one (L : List (List UInt8)) : ∀ u ∈ strs L, u.oneCell' = true := by
  intro u hu
  obtain ⟨l, _, rfl⟩ := List.mem_map.1 hu
  rfl

/-- A text being gone through, its parts in a row of the call's own. -/
structure PO (w0 : World) (s : ByteArray) (pos : Nat) (v : Value) (L : List (List UInt8)) (w : World) : Prop where
  own : w.ownsRow (w0.heap.size + 1) 9 1 v L.length (strs L)
  itr : Itr w0 w0.heap.size s pos w
theorem PO.step {w0 w : World} {s : ByteArray} {pos : Nat} {v : Value} {L : List (List UInt8)} (h : PO w0 s pos v L w) (p : Nat) : PO w0 s p v L (w.iterAt w0.heap.size s p) :=
  ⟨h.own.kept (keep_iterAt w w0.heap.size s p).grownI (owns_neI h.own (Nat.lt_succ_self _)), h.itr.step p⟩
theorem PO.alloc {w0 w : World} {s : ByteArray} {pos : Nat} {v : Value} {L : List (List UInt8)} (h : PO w0 s pos v L w) (o : Obj) : PO w0 s pos v L (w.alloc o) :=
  ⟨h.own.alloc o, h.itr.next ((Below.refl _ _).alloc (Nat.le_refl _) _)⟩
theorem PO.appended {w0 w w' : World} {s : ByteArray} {pos : Nat} {v v' : Value} {L : List (List UInt8)} {x : List UInt8} (h : PO w0 s pos v L w) (o : w'.ownsRow (w0.heap.size + 1) 9 1 v' (L.length + 1) (strs L ++ strs [x])) (g : w.grownBy w' v.ownBlock) : PO w0 s pos v' (L ++ [x]) w' := by
  have hb : Below (w0.heap.size + 1) w w' := grown_belowI g h.itr.lt (fun k hk => (h.own.lt k hk).1)
  refine ⟨?_, ⟨(hb.block _ (Nat.lt_succ_self _)).trans h.itr.it, h.itr.new, h.itr.bel.trans (hb.mono (Nat.le_succ _))⟩⟩
  have e : strs (L ++ [x]) = strs L ++ strs [x] := by simp [strs]
  rw [e, List.length_append]
  exact o

theorem dec_high (l : List UInt8) (pos : Nat) (h : pos < l.length) (hh : 128 ≤ l[pos].toNat) :
    1 ≤ (Utf8.decode (bs l) pos).2 ∧ pos + (Utf8.decode (bs l) pos).2 ≤ l.length ∧ 128 ≤ (Utf8.decode (bs l) pos).1 ∧ ∀ j, pos ≤ j → j < pos + (Utf8.decode (bs l) pos).2 → 128 ≤ (l.getD j 0).toNat := by
  have e0 : l.getD pos 0 = l[pos] := by simp [List.getD, h]
  rw [Lib.decode_N, bs_list, e0]
  generalize l[pos] = b0 at hh e0
  have hg : ∀ j, pos ≤ j → j < pos + 4 → l.getD j 0 = if j = pos then b0 else if j = pos + 1 then l.getD (pos + 1) 0 else if j = pos + 2 then l.getD (pos + 2) 0 else l.getD (pos + 3) 0 := by
    intro j h1 h2
    have : j = pos ∨ j = pos + 1 ∨ j = pos + 2 ∨ j = pos + 3 := by omega
    rcases this with rfl | rfl | rfl | rfl
    · rw [if_pos rfl]; exact e0
    · simp
    · simp
    · simp
  generalize l.getD (pos + 1) 0 = b1 at hg ⊢
  generalize l.getD (pos + 2) 0 = b2 at hg ⊢
  generalize l.getD (pos + 3) 0 = b3 at hg ⊢
  unfold Lib.decodeN
  rw [if_neg (by omega)]
  repeat' split
  all_goals
    refine ⟨by simp, by simp; omega, by simp; try omega, fun j h1 h2 => ?_⟩
    simp only at h2
    rw [hg j h1 (by omega)]
    repeat' split
    all_goals omega

theorem not_mem_take {c : UInt8} {l : List UInt8} {i p q : Nat} (h : c ∉ (l.drop i).take (p - i)) (hi : i ≤ p) (hq : q ≤ l.length) (hn : ∀ j, p ≤ j → j < q → l.getD j 0 ≠ c) : c ∉ (l.drop i).take (q - i) := by
  intro hm
  obtain ⟨m, hm1, hm2⟩ := List.getElem_of_mem hm
  rw [List.length_take, List.length_drop] at hm1
  rw [List.getElem_take, List.getElem_drop] at hm2
  by_cases h1 : i + m < p
  · apply h
    rw [← hm2]
    refine List.mem_iff_getElem.2 ⟨m, by rw [List.length_take, List.length_drop]; omega, ?_⟩
    rw [List.getElem_take, List.getElem_drop]
  · apply hn (i + m) (by omega) (by omega)
    rw [← hm2]
    simp [List.getD, show i + m < l.length by omega]

/-- What partsOf answers. -/
def partsZ (c : UInt8) (most : Nat) (l : List UInt8) : Option (List (List UInt8)) := if most ≤ l.count c then none else some (splitL c l)

theorem getD_at (l : List UInt8) (i : Nat) (h : i < l.length) : l.getD i 0 = l[i] := by simp [List.getD, h]
theorem cut_at {c : UInt8} {l : List UInt8} {i p : Nat} (hi : i ≤ p) (hp : p < l.length) (he : l.getD p 0 = c) (hn : c ∉ (l.drop i).take (p - i)) : splitL c (l.drop i) = (l.drop i).take (p - i) :: splitL c (l.drop (p + 1)) := by
  have e : l.drop i = (l.drop i).take (p - i) ++ c :: l.drop (p + 1) := by
    have h1 := (List.take_append_drop (p - i) (l.drop i)).symm
    rw [List.drop_drop, show i + (p - i) = p by omega, List.drop_eq_getElem_cons hp, ← getD_at l p hp, he] at h1
    exact h1
  rw [e, splitL_cut _ hn, ← e]
theorem cut_end {c : UInt8} {l : List UInt8} {i : Nat} (hn : c ∉ (l.drop i).take (l.length - i)) : splitL c (l.drop i) = [l.drop i] := by
  rw [List.take_of_length_le (by rw [List.length_drop]; omega)] at hn
  exact splitL_plain hn
theorem bs_at (l : List UInt8) (i : Nat) (h : i < l.length) (h' : i < (bs l).size) : (bs l)[i]'h' = l.getD i 0 := by
  rw [getD_at l i h]
  unfold bs
  rfl
theorem next_hit {c : UInt8} {l : List UInt8} {pos k : Nat} {w : World} (hc : c.toNat < 128) (hp : pos < l.length) (hit : w.heap[k]? = some (.stringIter (bs l) pos)) (he : l.getD pos 0 = c) (ty : TypeId) :
    (Instr.next (.pointer (some ⟨k, 0, none⟩)) true ty).run Tryd.prog w = .ok (.tuple #[.bool true, .int .i64 pos, .int .i32 (c.toNat : Int)]) (w.iterAt k (bs l) (pos + 1)) := by
  have hsz : pos < (bs l).size := by rw [bs_size]; exact hp
  have hg : (bs l)[pos]'hsz = c := by rw [bs_at l pos hp hsz, he]
  rw [Lib.run_next_ascii_at w k (bs l) pos ty hit hsz (by rw [hg]; exact hc), hg]
theorem next_miss {c : UInt8} {l : List UInt8} {pos k : Nat} {w : World} (hc : c.toNat < 128) (hp : pos < l.length) (hit : w.heap[k]? = some (.stringIter (bs l) pos)) (he : l.getD pos 0 ≠ c) :
    ∃ (r : Int) (n : Nat), r ≠ (c.toNat : Int) ∧ 1 ≤ n ∧ pos + n ≤ l.length ∧ (∀ j, pos ≤ j → j < pos + n → l.getD j 0 ≠ c) ∧
      ∀ ty, (Instr.next (.pointer (some ⟨k, 0, none⟩)) true ty).run Tryd.prog w = .ok (.tuple #[.bool true, .int .i64 pos, .int .i32 r]) (w.iterAt k (bs l) (pos + n)) := by
  have hsz : pos < (bs l).size := by rw [bs_size]; exact hp
  by_cases ha : (l.getD pos 0).toNat < 128
  · refine ⟨(l.getD pos 0).toNat, 1, fun h => he ?_, Nat.le_refl _, hp, fun j h1 h2 => ?_, fun ty => next_hit ha hp hit rfl ty⟩
    · apply UInt8.toNat_inj.1
      omega
    · obtain rfl : j = pos := by omega
      exact he
  · have hg := getD_at l pos hp
    obtain ⟨d1, d2, d3, d4⟩ := dec_high l pos hp (by rw [← hg]; omega)
    refine ⟨((Utf8.decode (bs l) pos).1 : Int), (Utf8.decode (bs l) pos).2, by omega, d1, d2, fun j h1 h2 h => ?_, fun ty => Lib.run_next_any_at w k (bs l) pos ty hit hsz⟩
    have := d4 j h1 h2
    rw [h] at this
    omega

set_option maxHeartbeats 8000000 in
theorem partsOf_any (c : UInt8) (hc : c.toNat < 128) (most : Nat) (m0 : 1 ≤ most) (m1 : most ≤ 100) (l : List UInt8) (hl : l.length ≤ 1048576) (ae : Addr) (w : World) (hL : LayE ae w) :
    Calls Tryd.prog 59 #[.string (bs l), .int .i32 (c.toNat : Int), .int .i64 (most : Int)] w fun e w' =>
      (match partsZ c most l with | none => e = .panicked [{ v := .iface 138 (.pointer (some ae)), recovered := false }] | some P => ∃ v, e = .returned v ∧ w'.ownsRow (w.heap.size + 1) 9 1 v P.length (strs P)) ∧ Below w.heap.size w w' := by
  obtain ⟨Q, HQ⟩ : ∃ Q : Ending → World → Prop, Hid (∀ e w', Q e w' ↔ ((match partsZ c most l with | none => e = .panicked [{ v := .iface 138 (.pointer (some ae)), recovered := false }] | some P => ∃ v, e = .returned v ∧ w'.ownsRow (w.heap.size + 1) 9 1 v P.length (strs P)) ∧ Below w.heap.size w w')) := ⟨_, fun _ _ => Iff.rfl⟩
  refine Calls.mono (R := Q) ?_ (fun e w' h => (HQ.out e w').1 h)
  obtain ⟨i0, hi, hz0, hz1, hz2⟩ := info_parts infoS
  have HI := hid_mk hi
  have HZ0 := hid_mk hz0
  have HZ1 := hid_mk hz1
  have HZ2 := hid_mk hz2
  have L0 := hid_mk hL
  clear hi hz0 hz1 hz2 hL
  obtain ⟨m, hm⟩ : ∃ m : Int, m = (c.toNat : Int) := ⟨_, rfl⟩
  rw [← hm]
  have HM := hid_mk hm
  clear hm
  go_enter Tryd.func59, Tryd.ntmps59
  go_wp2
  have I0 : Hid (PO w (bs l) 0 (.slice none 0 0) [] (w.iter (bs l) 0)) := ⟨World.ownsRow_nil _ _ _ _, Itr.new_iter w w (bs l) (Below.refl _ _)⟩
  generalize w.iter (bs l) 0 = w1 at I0
  go_loopw [7, 8] (fun v st wr => ∃ (pos start : Nat) (L : List (List UInt8)), start ≤ pos ∧ pos ≤ l.length ∧ st = .int .i64 (start : Int) ∧ L.length < most ∧ Hid (c ∉ (l.drop start).take (pos - start)) ∧ Hid (splitL c l = L ++ splitL c (l.drop start)) ∧ Hid (PO w (bs l) pos v L wr)) (fun _ _ wr => l.length - wr.iterPos w.heap.size)
  case atStart => exact ⟨0, 0, [], Nat.le_refl _, Nat.zero_le _, rfl, by simp; omega, by simp [Hid], by simp [Hid], I0.out⟩
  case round =>
    clear I0
    obtain ⟨pos, start, L, h1, h2, rfl, h3, N, S, I⟩ := hrel
    have hpos := I.out.itr.stands
    by_cases hp : pos < l.length
    · by_cases he : l.getD pos 0 = c
      · have hnx := fun ty => next_hit hc hp I.out.itr.it he ty
        rw [← HM.out] at hnx
        have I2 := hid_mk (I.out.step (pos + 1))
        generalize wr.iterAt w.heap.size (bs l) (pos + 1) = w2 at hnx I2
        have hx : (bs l).extract start pos = bs ((l.drop start).take (pos - start)) := bs_extract l start pos
        have S2 : Hid (splitL c l = (L ++ [(l.drop start).take (pos - start)]) ++ splitL c (l.drop (pos + 1))) := by
          refine S.out.trans ?_
          rw [cut_at h1 hp he N.out]
          exact (List.append_assoc L [_] _).symm
        generalize (l.drop start).take (pos - start) = x at hx S2
        have la := hid_mk (I2.out.alloc (.cells #[.string (bs x)] 9))
        have hpi : (pos : Int) ≤ 1048576 := by omega
        have hsi : (start : Int) ≤ (pos : Int) := by omega
        have hbl := bs_size l
        have hsl : (pos : Int) ≤ (l.length : Int) := by omega
        go_wp2_with (first
          | (at_builtin; refine wpList_append_own _ rfl _ _ 52 rfl (w.heap.size + 1) 9 i0 _ 1 16 Tryd.underlying52 HI.out HZ0.out HZ1.out HZ2.out rfl (by decide) _ _ _ rfl la.out.own ⟨w2.heap.size, 0, none⟩ 1 1 (strs [x]) rfl rfl ?c1 (strs_one _) ?c3 ?c4 ?c5 ?_))
        case c1 => exact fun j u hj => new_cells _ _ _ j u hj
        case c3 => unfold maxLen; omega
        case c4 => omega
        case c5 => exact la.out.itr.lt
        intro v' w5 own5 grow5 _
        have l9 := hid_mk (la.out.appended own5 grow5)
        clear own5 grow5 la I2 hnx hx
        have hlen : (L ++ [x]).length = L.length + 1 := by simp
        obtain ⟨g, cap, rfl⟩ : ∃ g cap, v' = .slice (some ⟨g, 0, none⟩) (L.length + 1) cap := by
          rcases l9.out.own.2 with ⟨_, h0⟩ | ⟨g, cap, _, h0, _⟩
          · omega
          · exact ⟨g, cap, by rw [h0, hlen]⟩
        have hpos9 := l9.out.itr.stands
        by_cases hmm : L.length + 1 = most
        · have hq : Q (.panicked [{ v := .iface 138 (.pointer (some ae)), recovered := false }]) w5 := by
            refine (HQ.out _ _).2 ⟨?_, l9.out.itr.bel⟩
            have hcount : most ≤ l.count c := by
              have h := congrArg List.length S2.out
              have := List.length_pos_iff.2 (splitL_ne c (l.drop (pos + 1)))
              rw [splitL_length, List.length_append, hlen] at h
              omega
            rw [partsZ, if_pos hcount]
          have hge := (L0.out.below l9.out.itr.bel).err
          have hcmp : ((L.length : Int) + 1 == (most : Int)) = true := by simp; omega
          go_wp2
          exact ⟨rfl, hq⟩
        · have hcmp : ((L.length : Int) + 1 == (most : Int)) = false := by simp; omega
          go_wp2
          go_roundw
          case rel => exact ⟨pos + 1, pos + 1, L ++ [x], Nat.le_refl _, hp, by go_num, by omega, by simp [Hid], S2.out, l9.out⟩
          case measure => omega
      · obtain ⟨r, n, r1, n1, n2, hfr, hnx⟩ := next_miss hc hp I.out.itr.it he
        rw [← HM.out] at r1
        have I2 := hid_mk (I.out.step (pos + n))
        generalize wr.iterAt w.heap.size (bs l) (pos + n) = w2 at hnx I2
        have N2 := hid_mk (not_mem_take N.out h1 n2 hfr)
        have hpos2 := I2.out.itr.stands
        have hcmp : (r == m) = false := by simp [r1]
        clear hfr N
        go_wp2
        go_roundw
        case rel => exact ⟨pos + n, start, L, by omega, n2, rfl, h3, N2.out, S.out, I2.out⟩
        case measure => omega
    · have hnx : ∀ ty, (Instr.next (.pointer (some ⟨w.heap.size, 0, none⟩)) true ty).run Tryd.prog wr = .ok (.tuple #[.bool false]) wr := fun ty => Lib.run_next_end_at wr w.heap.size (bs l) pos ty I.out.itr.it (by rw [bs_size]; exact hp)
      obtain rfl : pos = l.length := by omega
      have hx : (bs l).extract start l.length = bs (l.drop start) := by rw [bs_extract, List.take_of_length_le (by rw [List.length_drop]; omega)]
      have S2 : Hid (splitL c l = L ++ [l.drop start]) := by
        refine S.out.trans ?_
        rw [cut_end N.out]
      generalize l.drop start = x at hx S2
      have hbl := bs_size l
      have hsi : (start : Int) ≤ (l.length : Int) := by omega
      obtain ⟨w2, hw2⟩ : ∃ w2 : World, w2 = wr := ⟨_, rfl⟩
      rw [← hw2] at I hnx ⊢
      clear hw2
      have la := hid_mk (I.out.alloc (.cells #[.string (bs x)] 9))
      go_wp2_with (first
        | (at_builtin; refine wpList_append_own _ rfl _ _ 52 rfl (w.heap.size + 1) 9 i0 _ 1 16 Tryd.underlying52 HI.out HZ0.out HZ1.out HZ2.out rfl (by decide) _ _ _ rfl la.out.own ⟨w2.heap.size, 0, none⟩ 1 1 (strs [x]) rfl rfl ?c1 (strs_one _) ?c3 ?c4 ?c5 ?_))
      case c1 => exact fun j u hj => new_cells _ _ _ j u hj
      case c3 => unfold maxLen; omega
      case c4 => omega
      case c5 => exact la.out.itr.lt
      intro v' w5 own5 grow5 _
      have l9 := hid_mk (la.out.appended own5 grow5)
      clear own5 grow5 la hnx hx
      have hq : Q (.returned v') w5 := by
        refine (HQ.out _ _).2 ⟨?_, l9.out.itr.bel⟩
        have hcount : ¬ most ≤ l.count c := by
          have h := congrArg List.length S2.out
          rw [splitL_length, List.length_append] at h
          simp only [List.length_singleton] at h
          omega
        rw [partsZ, if_neg hcount, S2.out]
        exact ⟨v', rfl, l9.out.own⟩
      go_wp2
      exact hq
end Go.Proofs.YtdcghcbliajcpaaDoor
