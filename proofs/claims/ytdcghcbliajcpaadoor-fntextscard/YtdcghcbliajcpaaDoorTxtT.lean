/- The program's InsText at all places: what it answers. The tables hold what the texts lay. -/
import Derived.Test.YtdcghcbliajcpaaDoorTxtI
import Derived.Test.YtdcghcbliajcpaaDoorTxtF
import Derived.Test.YtdcghcbliajcpaaDoorInsK
namespace Go.Proofs.YtdcghcbliajcpaaDoor
open Go.ChangeShapes Go.WideShapes Go.ChangeAt Go.RowKit
set_option maxRecDepth 100000

/-- A string being gone through, beside what was there at first. -/
structure Itr (w0 : World) (k : Nat) (s : ByteArray) (pos : Nat) (w : World) : Prop where
  it : w.heap[k]? = some (.stringIter s pos)
  new : w0.heap.size ≤ k
  bel : Below w0.heap.size w0 w
section
variable {w0 w w' : World} {k pos : Nat} {s : ByteArray}
theorem Itr.lt (h : Itr w0 k s pos w) : k < w.heap.size := (Array.getElem?_eq_some_iff.1 h.it).1
theorem Itr.next (h : Itr w0 k s pos w) (hb : Below w.heap.size w w') : Itr w0 k s pos w' := ⟨(hb.block k h.lt).trans h.it, h.new, h.bel.trans (hb.mono h.bel.size)⟩
theorem Itr.step (h : Itr w0 k s pos w) (p : Nat) : Itr w0 k s p (w.iterAt k s p) := ⟨Lib.iterAt_heap w k s pos p h.it, h.new, Lib.below_iterAt h.bel h.new s p⟩
theorem keep_iterAt (w : World) (k : Nat) (s : ByteArray) (p : Nat) : KeepBut k w (w.iterAt k s p) := ⟨rfl, rfl, rfl, by rw [Lib.iterAt_size]; exact Nat.le_refl _, fun j _ hj => Lib.iterAt_other w k j s p hj⟩
theorem Itr.new_iter (w0 : World) (w : World) (s : ByteArray) (h : Below w0.heap.size w0 w) : Itr w0 w.heap.size s 0 (w.iter s 0) :=
  ⟨World.iter_heap w s 0, h.size, h.alloc h.size _⟩
theorem Itr.stands (h : Itr w0 k s pos w) : w.iterPos k = pos := by simp [World.iterPos, h.it]
end
theorem fl_ascii (o : Int) : ∀ c ∈ flL o, c.toNat < 128 := by
  unfold flL
  repeat' split
  all_goals decide

theorem bs_get (l : List UInt8) (i : Nat) (_h : i < l.length) (h' : i < (bs l).size) : (bs l)[i]'h' = l[i] := by
  unfold bs
  rfl
theorem take_next {α : Type} (l : List α) (i : Nat) (h : i < l.length) : l.take (i + 1) = l.take i ++ [l[i]] := by
  rw [List.take_add_one, List.getElem?_eq_getElem h]; rfl

set_option maxHeartbeats 4000000 in
theorem implInsText_any (o r a b n : Int) (w : World) (hL : Lay w) :
    Calls Tryd.prog 10 #[.agg #[.int .i64 o, .int .i64 r, .int .i64 a, .int .i64 b, .int .i64 n]] w fun e w' => e = .returned (.string (bs (inL ⟨o, r, a, b, n⟩))) ∧ Below w.heap.size w w' := by
  have s0 := implInsOk_any o r a b n
  have L := hid_mk hL
  have c0 : (ByteArray.mk #[]) = bs [] := rfl
  have c32 : (ByteArray.mk #[32]) = bs [32] := rfl
  clear hL
  cases hk : iokB o r a b n with
  | false =>
    rw [hk] at s0
    have S0 := hid_mk s0
    clear s0
    rw [inL_off (x := ⟨o, r, a, b, n⟩) hk]
    clear hk
    go_enter Tryd.func10, Tryd.ntmps10
    go_wp2_with (go_at_call 12; refine (S0.out _).mono ?_; rintro e w1 ⟨rfl, hb⟩)
    go_wp2
    go_ret
    exact ⟨rfl, ((Below.refl _ _).alloc (Nat.le_refl _) _).trans (hb.mono (by simp))⟩
  | true =>
    rw [hk] at s0
    have S0 := hid_mk s0
    have hx : okI ⟨o, r, a, b, n⟩ = true := hk
    obtain ⟨o0, o1, _⟩ := ok_range hx
    simp only at o0 o1
    have S1 := hid_mk (fieldsOf_any o r a b n ⟨o0, o1⟩)
    have Q0 := hid_mk (inL_on hx)
    have hf := fl_ascii o
    have hfl := fl_length o
    obtain ⟨t0, T0⟩ : ∃ t0, Hid (t0 = nmL o) := ⟨_, rfl⟩
    have hn : t0.length ≤ 5 := by
      rw [T0.out]
      rcases op_cases ⟨o0, o1⟩ with rfl | rfl | rfl | rfl | rfl | rfl | rfl | rfl | rfl | rfl | rfl | rfl | rfl | rfl | rfl <;> decide
    have N0 : Hid (∀ w, Lay w → w.cell? ⟨0, o.toNat, none⟩ = some (.string (bs t0))) := fun w h => by rw [T0.out]; exact h.name (by omega) (by omega)
    have X := hid_mk hx
    obtain ⟨z, Z⟩ : ∃ z, Hid (z = inL ⟨o, r, a, b, n⟩) := ⟨_, rfl⟩
    rw [← Z.out]
    have Q : Hid (z = t0 ++ partsL 32 ((flL o).map (fdL ⟨o, r, a, b, n⟩))) := by rw [Z.out, T0.out]; exact Q0.out
    generalize flL o = fl at S1 hf hfl Q
    have HF := hid_mk hf
    clear s0 hk hx hf Q0 Z T0
    go_enter Tryd.func10, Tryd.ntmps10
    go_wp2_with (go_at_call 12; refine (S0.out _).mono ?_; rintro e w1 ⟨rfl, hb⟩; refine Hid.out ?_)
    refine Lib.hid ?_
    have P1 := hid_mk ((Pl.new w o r a b n 25).next hb)
    have L1 := hid_mk (L.out.below P1.out.bel)
    obtain ⟨d0, d1, d2, d3, d4⟩ := P1.out.all
    have n0 := N0.out w1 L1.out
    clear hb
    go_wp2_with (go_at_call 32; refine (S1.out _).mono ?_; rintro e w2 ⟨rfl, hb⟩; refine Hid.out ?_)
    refine Lib.hid ?_
    have P2 := hid_mk (P1.out.next hb)
    clear hb d0 d1 d2 d3 d4 n0 P1 L1
    go_wp2
    have I0 := hid_mk (Itr.new_iter w w2 (bs fl) P2.out.bel)
    have P3 : Hid (Pl w w.heap.size o r a b n (w2.iter (bs fl) 0)) := P2.out.alloc (.stringIter (bs fl) 0)
    have hne : ¬ w.heap.size = w2.heap.size := Nat.ne_of_lt P2.out.five.lt
    generalize w2.heap.size = ki at I0 hne ⊢
    generalize w2.iter (bs fl) 0 = w3 at I0 P3 ⊢
    clear P2
    go_loopw [3] (fun c wr => ∃ (pos : Nat) (t : List UInt8), c = .string (bs t) ∧ Hid (pos ≤ fl.length ∧ t.length ≤ 6 * pos + 5 ∧ t = t0 ++ partsL 32 ((fl.take pos).map (fdL ⟨o, r, a, b, n⟩))) ∧ Hid (Itr w ki (bs fl) pos wr) ∧ Hid (Pl w w.heap.size o r a b n wr)) (fun _ wr => fl.length - wr.iterPos ki)
    case atStart => exact ⟨0, t0, rfl, ⟨Nat.zero_le _, by omega, by simp [partsL]⟩, I0.out, P3.out⟩
    case round =>
      obtain ⟨pos, t, rfl, ht, I, P⟩ := hrel
      obtain ⟨h1, h2, h3⟩ := ht.out
      have H3 := hid_mk h3
      clear h3 ht
      have hpos := I.out.stands
      by_cases hp : pos < fl.length
      · have hsz : pos < (bs fl).size := by rw [bs_size]; exact hp
        have hget : (bs fl)[pos]'hsz = fl[pos] := bs_get fl pos hp hsz
        have hm : fl[pos] ∈ fl := List.getElem_mem hp
        have has : fl[pos].toNat < 128 := HF.out _ hm
        have hnx : ∀ ty, (Instr.next (.pointer (some ⟨ki, 0, none⟩)) true ty).run Tryd.prog wr = .ok (.tuple #[.bool true, .int .i64 pos, .int .i32 (fl[pos].toNat : Int)]) (wr.iterAt ki (bs fl) (pos + 1)) := fun ty => by
          rw [Lib.run_next_ascii_at wr ki (bs fl) pos ty I.out.it hsz (by rw [hget]; exact has), hget]
        have I2 := hid_mk (I.out.step (pos + 1))
        have P2 : Hid (Pl w w.heap.size o r a b n (wr.iterAt ki (bs fl) (pos + 1))) := ⟨P.out.five.keep (keep_iterAt _ _ _ _) hne, I2.out.bel⟩
        have M := hid_mk (take_next fl pos hp)
        generalize fl[pos] = c at hnx hget hm has M
        generalize wr.iterAt ki (bs fl) (pos + 1) = w4 at hnx I2 P2
        have hfd := (fd_fine X.out c).2.2
        have q1 := hid_mk (fun w => add_bs (P := Tryd.prog) [32] (fdL ⟨o, r, a, b, n⟩ c) w (by simp; omega))
        have q2 := hid_mk (fun w => add_bs (P := Tryd.prog) t (32 :: fdL ⟨o, r, a, b, n⟩ c) w (by simp; omega))
        obtain ⟨d0, d1, d2, d3, d4⟩ := P2.out.all
        have F1 := hid_mk (fieldText_any o r a b n c X.out w4 (L.out.below P2.out.bel))
        clear hget hm has hsz
        go_wp2_with (go_at_call 33; refine F1.out.mono ?_; rintro e w5 ⟨rfl, hb⟩; refine Hid.out ?_)
        refine Lib.hid ?_
        have I3 := hid_mk (I2.out.next hb)
        have P4 := hid_mk (P2.out.next hb)
        have hpos3 := I3.out.stands
        clear hb d0 d1 d2 d3 d4 hnx
        have q1 := q1.out
        have q2 := q2.out
        go_wp2
        go_roundw
        case rel =>
          refine ⟨pos + 1, t ++ (32 :: fdL ⟨o, r, a, b, n⟩ c), rfl, ⟨by omega, by simp; omega, ?_⟩, I3.out, P4.out⟩
          rw [M.out, H3.out]
          simp [partsL, List.append_assoc]
        case measure => omega
      · have hnx : ∀ ty, (Instr.next (.pointer (some ⟨ki, 0, none⟩)) true ty).run Tryd.prog wr = .ok (.tuple #[.bool false]) wr := fun ty => Lib.run_next_end_at wr ki (bs fl) pos ty I.out.it (by rw [bs_size]; exact hp)
        have hz : z = t := by
          rw [Q.out, H3.out, List.take_of_length_le (by omega)]
        subst hz
        go_wp2
        go_ret
        exact ⟨rfl, I.out.bel⟩
end Go.Proofs.YtdcghcbliajcpaaDoor
