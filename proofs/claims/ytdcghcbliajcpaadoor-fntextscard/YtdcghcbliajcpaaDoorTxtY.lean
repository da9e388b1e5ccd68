/- InsRead of the specification at all lines: the place that is read and true, or the empty place and false. No condition. -/
import Derived.Test.YtdcghcbliajcpaaDoorTxtX
namespace Go.Proofs.YtdcghcbliajcpaaDoor
open Go.ChangeShapes Go.WideShapes Go.ChangeAt Go.RowKit
set_option maxRecDepth 100000

def cand3 (o a b c : Int) (ps : List (List UInt8)) : In := ⟨o, a, b, c, (fldC (bitB o 8) ps).1⟩
def cand2 (o a b : Int) (ps : List (List UInt8)) : In := cand3 o a b (fldC (bitB o 4) ps).1 (fldC (bitB o 4) ps).2
def cand1 (o a : Int) (ps : List (List UInt8)) : In := cand2 o a (fldC (bitB o 2) ps).1 (fldC (bitB o 2) ps).2
def cand0 (o : Int) (ps : List (List UInt8)) : In := cand1 o (fldC (bitB o 1) ps).1 (fldC (bitB o 1) ps).2
/-- Where the loop over the fields stands. -/
def St (o : Int) (ps : List (List UInt8)) (y : In) (k n : Nat) (a b c d : Int) : Prop :=
  (k = 0 ∧ n = 1 ∧ a = 0 ∧ b = 0 ∧ c = 0 ∧ d = 0 ∧ y = cand0 o ps) ∨ (k = 1 ∧ b = 0 ∧ c = 0 ∧ d = 0 ∧ y = cand1 o a (ps.drop (n - 1))) ∨ (k = 2 ∧ c = 0 ∧ d = 0 ∧ y = cand2 o a b (ps.drop (n - 1))) ∨ (k = 3 ∧ d = 0 ∧ y = cand3 o a b c (ps.drop (n - 1))) ∨ (k = 4 ∧ y = ⟨o, a, b, c, d⟩)
theorem fld_off (ps : List (List UInt8)) : fldC false ps = (0, ps) := by cases ps <;> rfl
theorem fld_out {b : Bool} {ps : List (List UInt8)} {n : Nat} (h : ps.length ≤ n) : fldC b (ps.drop n) = (0, ps.drop n) := by
  rw [List.drop_eq_nil_of_le h]
  cases b <;> rfl
theorem fld_on {ps : List (List UInt8)} {n : Nat} {p : List UInt8} (h : ps[n]? = some p) : fldC true (ps.drop n) = (numL p, ps.drop (n + 1)) := by
  obtain ⟨h1, h2⟩ := List.getElem?_eq_some_iff.1 h
  rw [List.drop_eq_getElem_cons h1, h2]
  rfl
theorem bit_by {o : Int} (h0 : 0 ≤ o) (h1 : o ≤ 15) : (bits .and .i64 (hasZ o) 1 != 0) = bitB o 1 ∧ (bits .and .i64 (hasZ o / 2) 1 != 0) = bitB o 2 ∧ (bits .and .i64 (hasZ o / 4) 1 != 0) = bitB o 4 ∧ (bits .and .i64 (hasZ o / 8) 1 != 0) = bitB o 8 := by
  by_cases h : o = 0
  · subst h; decide
  · rcases op_cases ⟨by omega, h1⟩ with rfl | rfl | rfl | rfl | rfl | rfl | rfl | rfl | rfl | rfl | rfl | rfl | rfl | rfl | rfl <;> decide
theorem zero_of {x : Int} (h : (x != 0) = false) : x = 0 := by simpa using h
theorem nonz_of {x : Int} (h : (x != 0) = true) : ¬ x = 0 := by simpa using h
section
variable {o : Int} {ps : List (List UInt8)} {y : In} {n : Nat} {a b c d : Int}
theorem st_at0 (h : St o ps y 0 n a b c d) : a = 0 ∧ b = 0 ∧ c = 0 ∧ d = 0 ∧ y = cand0 o (ps.drop (n - 1)) := by
  rcases h with h | h | h | h | h
  · obtain ⟨_, rfl, h⟩ := h
    exact h
  all_goals omega
theorem st_at1 (h : St o ps y 1 n a b c d) : b = 0 ∧ c = 0 ∧ d = 0 ∧ y = cand1 o a (ps.drop (n - 1)) := by
  rcases h with h | h | h | h | h
  · omega
  · exact h.2
  all_goals omega
theorem st_at2 (h : St o ps y 2 n a b c d) : c = 0 ∧ d = 0 ∧ y = cand2 o a b (ps.drop (n - 1)) := by
  rcases h with h | h | h | h | h
  · omega
  · omega
  · exact h.2
  all_goals omega
theorem st_at3 (h : St o ps y 3 n a b c d) : d = 0 ∧ y = cand3 o a b c (ps.drop (n - 1)) := by
  rcases h with h | h | h | h | h
  · omega
  · omega
  · omega
  · exact h.2
  · omega
theorem st_at4 (h : St o ps y 4 n a b c d) : y = ⟨o, a, b, c, d⟩ := by
  rcases h with h | h | h | h | h
  · omega
  · omega
  · omega
  · omega
  · exact h.2
end
theorem at_in {ps : List (List UInt8)} (nm : List UInt8) {n : Nat} (h1 : 1 ≤ n) (h : n < ps.length + 1) : ∃ p, ps[n - 1]? = some p ∧ (nm :: ps)[n]? = some p ∧ (n : Int) < (ps.length : Int) + 1 ∧ n - 1 + 1 = n + 1 - 1 := by
  obtain ⟨m, rfl⟩ : ∃ m, n = m + 1 := ⟨n - 1, by omega⟩
  have hm : m < ps.length := by omega
  exact ⟨ps[m], by simp [hm], by simp [hm], by omega, by omega⟩
theorem at_out {ps : List (List UInt8)} {n : Nat} (h1 : 1 ≤ n) (h : ¬ n < ps.length + 1) : ¬ (n : Int) < (ps.length : Int) + 1 ∧ ps.length ≤ n - 1 := ⟨by omega, by omega⟩
theorem at_small {n k : Nat} (h0 : n ≤ k + 1) (h1 : 1 ≤ n) (h4 : k ≤ 4) : (n : Int) ≤ 5 ∧ (1 : Int) ≤ (n : Int) ∧ True := ⟨by omega, by omega, trivial⟩
theorem Rl.set4 {w0 w : World} {g kx : Nat} {P : List (List UInt8)} {o r a b n : Int} (h : Rl w0 g kx P ⟨o, r, a, b, n⟩ w) (r' a' b' n' : Int) : Rl w0 g kx P ⟨o, r', a', b', n'⟩ ((((w.setCell ⟨kx, 1, none⟩ (.int .i64 r')).setCell ⟨kx, 2, none⟩ (.int .i64 a')).setCell ⟨kx, 3, none⟩ (.int .i64 b')).setCell ⟨kx, 4, none⟩ (.int .i64 n')) := by
  have k : KeepBut kx w ((((w.setCell ⟨kx, 1, none⟩ (.int .i64 r')).setCell ⟨kx, 2, none⟩ (.int .i64 a')).setCell ⟨kx, 3, none⟩ (.int .i64 b')).setCell ⟨kx, 4, none⟩ (.int .i64 n')) := (((((KeepBut.refl kx w).setCell 1 _).setCell 2 _).setCell 3 _).setCell 4 _)
  exact ⟨h.res.keep k h.n1, (((h.fx.set1 r').set2 a').set3 b').set4 n', fun j p hj => (k.cell h.lg h.n2).trans (h.row j p hj), Nat.lt_of_lt_of_le h.lg k.size, h.n1, h.n2, h.n0, h.ng, h.bel.trans (k.below h.n0 h.bel.size)⟩
/-- A row of texts that a call has made. -/
theorem own_row8 {w : World} {base : Nat} {v : Value} {P : List (List UInt8)} (h : w.ownsRow base 9 1 v P.length (strs P)) (hP : 0 < P.length) :
    ∃ g cap, v = .slice (some ⟨g, 0, none⟩) P.length cap ∧ base ≤ g ∧ g < w.heap.size ∧ ∀ j p, P[j]? = some p → w.cell? ⟨g, j, none⟩ = some (.string (bs p)) := own_row7 h hP

set_option maxHeartbeats 8000000 in
theorem specInsRead_any (l : List UInt8) (hl : l.length ≤ 1048576) (w : World) :
    Calls Tryd.prog 15 #[.string (bs l)] w fun e w' => e = .returned (.tuple #[insV ((readL l).getD ⟨0, 0, 0, 0, 0⟩), .bool (readL l).isSome]) ∧ Below w.heap.size w w' := by
  obtain ⟨z, Z⟩ : ∃ z, Hid (z = readL l) := ⟨_, rfl⟩
  rw [← Z.out]
  have ZC := hid_mk (cand_read l)
  rw [← Z.out] at ZC
  clear Z
  have c0 : (ByteArray.mk #[]) = bs [] := rfl
  have R0 : Hid (Five (w.alloc (.cells #[.int .i64 0, .int .i64 0, .int .i64 0, .int .i64 0, .int .i64 0] 25)) w.heap.size 0 0 0 0 0) := Five.new _ _ _ _ _ _ _
  have B0 : Hid (Below w.heap.size w (w.alloc (.cells #[.int .i64 0, .int .i64 0, .int .i64 0, .int .i64 0, .int .i64 0] 25))) := (Below.refl _ _).alloc (Nat.le_refl _) _
  have zB0 : (w.alloc (.cells #[.int .i64 0, .int .i64 0, .int .i64 0, .int .i64 0, .int .i64 0] 25)).heap.size = w.heap.size + 1 := by simp
  have S0 := hid_mk (words_any l hl (w.alloc (.cells #[.int .i64 0, .int .i64 0, .int .i64 0, .int .i64 0, .int .i64 0] 25)))
  obtain ⟨nm, ps, hP⟩ : ∃ nm ps, splitL 32 l = nm :: ps := by
    cases h : splitL 32 l with
    | nil => exact absurd h (splitL_ne 32 l)
    | cons a b => exact ⟨a, b, rfl⟩
  have HPL : Hid (∀ p ∈ nm :: ps, p.length ≤ 1048576) := fun p hp => by
    have := part_len (c := 32) (l := l) (p := p) (by rw [hP]; exact hp)
    omega
  have hps : ps.length ≤ 1048576 := by
    have h := splitL_length 32 l
    have h2 : l.count 32 ≤ l.length := List.count_le_length
    rw [hP] at h
    simp at h
    omega
  have HP := hid_mk hP
  rw [hP] at S0
  clear hP
  go_enter Tryd.func15, Tryd.ntmps15
  go_wp2_with (go_at_call 45; refine S0.out.mono ?_; rintro e w1 ⟨v, rfl, own, hb⟩; refine Hid.out ?_)
  refine Lib.hid ?_
  obtain ⟨g, cap, rfl, hg0, hg1, hrow⟩ := own_row8 own (by simp)
  rw [zB0] at hg0
  have R1 := hid_mk (R0.out.below hb)
  have B1 := hid_mk (B0.out.trans (hb.mono B0.out.size))
  have hgn : w.heap.size < g := by omega
  have HR := hid_mk hrow
  clear hb own hrow R0 B0 zB0
  go_wp2_with (go_at_call 36; refine (names_any _).mono ?_; rintro e w2 ⟨kn, rfl, hN, hk0, hb⟩; refine Hid.out ?_)
  refine Lib.hid ?_
  have M2 : Hid (Rl w g w2.heap.size (nm :: ps) ⟨0, 0, 0, 0, 0⟩ (w2.alloc (.cells #[.int .i64 0, .int .i64 0, .int .i64 0, .int .i64 0, .int .i64 0] 25))) := by
    have hs := hb.size
    have hr := (R1.out.below hb)
    exact ⟨hr.alloc _, Five.new _ _ _ _ _ _ _, fun j p hj => by
      have h1 := HR.out j p hj
      have h2 := (hb.cell (World.block_lt_of_cell? _ _ h1)).trans h1
      rw [World.cell?_alloc_lt _ _ _ (World.block_lt_of_cell? _ _ h2)]
      exact h2, by simp; omega, by have := hr.lt; omega, by omega, by have := hr.lt; omega, by omega, (B1.out.trans (hb.mono B1.out.size)).alloc (by have := hr.lt; omega) _⟩
  have N2 : Hid (Nms (w2.alloc (.cells #[.int .i64 0, .int .i64 0, .int .i64 0, .int .i64 0, .int .i64 0] 25)) kn) := hN.below ((Below.refl _ _).alloc (Nat.le_refl _) _)
  have hkx : kn ≠ w2.heap.size := Nat.ne_of_lt hN.lt
  clear hb hN R1 B1 HR S0
  go_wp2
  generalize w2.heap.size = kx at M2 hkx ⊢
  generalize w2.alloc (.cells #[.int .i64 0, .int .i64 0, .int .i64 0, .int .i64 0, .int .i64 0] 25) = w3 at M2 N2 ⊢
  go_loopw [7] (fun c wr => ∃ k : Nat, k ≤ 15 ∧ c = .int .i64 ((k : Int) + 1) ∧ Hid (Rl w g kx (nm :: ps) ⟨opF nm k, 0, 0, 0, 0⟩ wr) ∧ Hid (Nms wr kn)) (fun c _ => 16 - (intOf c).toNat)
  case atStart => exact ⟨0, by omega, rfl, M2.out, N2.out⟩
  case round =>
    clear M2 N2
    obtain ⟨k, hk, rfl, M, N⟩ := hrel
    by_cases hk5 : k < 15
    · have cn := N.out.all (k + 1) (by omega)
      have cw := M.out.row 0 nm rfl
      have hki : (k : Int) + 1 < 16 := by omega
      have hk0 : (0 : Int) ≤ (k : Int) + 1 := by omega
      have hkt : ((k : Int) + 1).toNat = k + 1 := by omega
      have hkw : IntKind.i64.wrap ((k : Int) + 1 + 1) = (k : Int) + 1 + 1 := IntWalk.i64_in _ ⟨by omega, by omega⟩
      have f0 := M.out.fx.f0
      have d0 := M.out.fx.c0
      obtain ⟨y, hy⟩ : ∃ y, y = nmL ((k : Int) + 1) := ⟨_, rfl⟩
      rw [show ((k + 1 : Nat) : Int) = (k : Int) + 1 by omega, ← hy] at cn
      by_cases he : y = nm
      · have hcq : ((bs y).toList == (bs nm).toList) = true := by rw [he]; simp
        have MM : Hid (Rl w g kx (nm :: ps) ⟨opF nm (k + 1), 0, 0, 0, 0⟩ (wr.drew.setCell ⟨kx, 0, none⟩ (.int .i64 ((k : Int) + 1)))) := by
          have e : opF nm (k + 1) = (k : Int) + 1 := by rw [opF, if_pos (by rw [← hy, he])]
          rw [e]
          have h := M.out.drew
          exact ⟨h.res.keep ((KeepBut.refl kx _).setCell 0 _) h.n1, h.fx.set0 _, fun j p hj => (((KeepBut.refl kx wr.drew).setCell 0 _).cell h.lg h.n2).trans (h.row j p hj), Nat.lt_of_lt_of_le h.lg ((KeepBut.refl kx wr.drew).setCell 0 _).size, h.n1, h.n2, h.n0, h.ng, h.bel.trans (((KeepBut.refl kx wr.drew).setCell 0 _).below h.n0 h.bel.size)⟩
        have NN : Hid (Nms (wr.drew.setCell ⟨kx, 0, none⟩ (.int .i64 ((k : Int) + 1))) kn) := by
          have h := N.out.below (Below.refl _ _).drew
          exact ⟨fun i hi => (((KeepBut.refl kx wr.drew).setCell 0 _).cell h.lt hkx).trans (h.all i hi), Nat.lt_of_lt_of_le h.lt ((KeepBut.refl kx wr.drew).setCell 0 _).size⟩
        clear hy he
        go_wp2_with fail
        go_region
        all_goals
          go_wp2
          go_roundw
          case rel => exact ⟨k + 1, by omega, by go_num, MM.out, NN.out⟩
          case measure => (simp [intOf]; omega)
      · have hcq : ((bs y).toList == (bs nm).toList) = false := ne_bs he
        have MM : Hid (Rl w g kx (nm :: ps) ⟨opF nm (k + 1), 0, 0, 0, 0⟩ wr.drew) := by
          have e : opF nm (k + 1) = opF nm k := by rw [opF, if_neg (by rw [← hy]; exact he)]
          rw [e]
          exact M.out.drew
        have NN := hid_mk (N.out.below (Below.refl _ _).drew)
        clear hy he
        go_wp2_with fail
        go_region
        all_goals
          go_wp2
          go_roundw
          case rel => exact ⟨k + 1, by omega, by go_num, MM.out, NN.out⟩
          case measure => (simp [intOf]; omega)
    · obtain rfl : k = 15 := by omega
      have hor := opF_range nm 15
      obtain ⟨o, O⟩ : ∃ o, Hid (o = opF nm 15) := ⟨_, rfl⟩
      rw [← O.out] at M hor
      have S2 := hid_mk (has_any o)
      obtain ⟨h, H⟩ : ∃ h, Hid (h = hasZ o) := ⟨_, rfl⟩
      rw [← H.out] at S2
      have BY := hid_mk (bit_by hor.1 hor.2)
      rw [← H.out] at BY
      have d0 := M.out.fx.c0
      go_wp2_with (go_at_call 35; refine (S2.out _).mono ?_; rintro e w4 ⟨rfl, hb⟩; refine Hid.out ?_)
      refine Lib.hid ?_
      have M4 := hid_mk (M.out.next hb)
      clear hb d0 M N
      go_wp2
      have U0 := hid_mk (Nu.new w4 3 0 0 0 0)
      have M5 := hid_mk (M4.out.next ((Below.refl _ _).alloc (Nat.le_refl _) (.cells #[.int .i64 0, .int .i64 0, .int .i64 0, .int .i64 0] 3)))
      have hq1 : w.heap.size ≠ w4.heap.size := Nat.ne_of_lt M4.out.res.lt
      have hq2 : kx ≠ w4.heap.size := Nat.ne_of_lt M4.out.fx.lt
      have hq3 : g ≠ w4.heap.size := Nat.ne_of_lt M4.out.lg
      have hq0 : w.heap.size ≤ w4.heap.size := Nat.le_of_lt M4.out.res.lt
      generalize w4.heap.size = kq at U0 hq0 hq1 hq2 hq3 ⊢
      generalize w4.alloc (.cells #[.int .i64 0, .int .i64 0, .int .i64 0, .int .i64 0] 3) = w5 at U0 M5 ⊢
      clear M4
      obtain ⟨y, Y⟩ : ∃ y, Hid (y = cand0 o ps) := ⟨_, rfl⟩
      go_loopw [10, 11] (fun c10 c11 wr => ∃ (k at_ : Nat) (a b c d : Int), k ≤ 4 ∧ at_ ≤ k + 1 ∧ 1 ≤ at_ ∧ c10 = .int .i64 (at_ : Int) ∧ c11 = .int .i64 (k : Int) ∧ Hid (St o ps y k at_ a b c d) ∧ Hid (Rl w g kx (nm :: ps) ⟨o, 0, 0, 0, 0⟩ wr) ∧ Hid (Nu wr kq a b c d)) (fun _ c11 _ => 4 - (intOf c11).toNat)
      case atStart => exact ⟨0, 1, 0, 0, 0, 0, by omega, by omega, by omega, rfl, rfl, .inl ⟨rfl, rfl, rfl, rfl, rfl, rfl, Y.out⟩, M5.out, U0.out⟩
      case round =>
      clear M5 U0
      obtain ⟨k, at_, a, b, c, d, hk4, hat0, hat1, rfl, rfl, YY, M, U⟩ := hrel
      obtain ⟨_, e0, e1, e2, e3, g0, g1, g2, g3⟩ := U.out
      have hkk : k = 0 ∨ k = 1 ∨ k = 2 ∨ k = 3 ∨ k = 4 := by omega
      rcases hkk with rfl | rfl | rfl | rfl | rfl
      · obtain ⟨rfl, rfl, rfl, rfl, hy⟩ := st_at0 YY.out
        clear YY
        obtain ⟨hat, ha1, _⟩ := at_small hat0 hat1 hk4
        cases hbit : bitB o 1 with
        | false =>
          have Y2 : Hid (St o ps y 1 at_ 0 0 0 0) := .inr (.inl ⟨rfl, rfl, rfl, rfl, by rw [hy, cand0, hbit, fld_off]⟩)
          have hbb : bits .and .i64 h 1 = 0 := zero_of (BY.out.1.trans hbit)
          clear hbit hy
          go_wp2
          go_roundw
          case rel => exact ⟨1, at_, 0, 0, 0, 0, by decide, Nat.le_succ_of_le hat0, hat1, rfl, rfl, Y2.out, M.out, U.out⟩
          case measure => simp [intOf]
        | true =>
          by_cases hlen : at_ < ps.length + 1
          · obtain ⟨p, hp, hpr, hli, hsu⟩ := at_in nm hat1 hlen
            have hcell := M.out.row at_ p hpr
            have S5 := hid_mk (num_any p (HPL.out p (List.mem_of_getElem? hpr)) wr)
            have Y2 : Hid (St o ps y 1 (at_ + 1) (numL p) 0 0 0) := .inr (.inl ⟨rfl, rfl, rfl, rfl, by rw [hy, cand0, hbit, fld_on hp, hsu]⟩)
            generalize numL p = q at S5 Y2
            obtain ⟨bx, hbx⟩ : ∃ x, bits .and .i64 h 1 = x := ⟨_, rfl⟩
            have hbb : (bx != 0) = true := by rw [← hbx]; exact BY.out.1.trans hbit
            have hbc : ¬ bx = 0 := nonz_of hbb
            clear hbit hy hp hpr hsu
            go_wp2_with (go_at_call 46; refine S5.out.mono ?_; rintro e w5 ⟨rfl, hb⟩; refine Hid.out ?_)
            refine Lib.hid ?_
            have M5 := hid_mk ((M.out.next hb).keep ((KeepBut.refl kq w5).setCell 0 (.int .i64 q)) hq1 hq2 hq3 hq0)
            have U5 := hid_mk ((U.out.below hb).set0 q)
            clear e0 e1 e2 e3 g0 g1 g2 g3
            obtain ⟨_, e0, e1, e2, e3, g0, g1, g2, g3⟩ := U.out.below hb
            clear hb
            go_wp2
            go_roundw
            case rel => exact ⟨1, at_ + 1, q, 0, 0, 0, by decide, Nat.succ_le_succ hat0, Nat.succ_le_succ (Nat.zero_le _), rfl, rfl, Y2.out, M5.out, U5.out⟩
            case measure => simp [intOf]
          · obtain ⟨hli, hsu⟩ := at_out hat1 hlen
            have Y2 : Hid (St o ps y 1 at_ 0 0 0 0) := .inr (.inl ⟨rfl, rfl, rfl, rfl, by rw [hy, cand0, fld_out hsu]⟩)
            obtain ⟨bx, hbx⟩ : ∃ x, bits .and .i64 h 1 = x := ⟨_, rfl⟩
            have hbb : (bx != 0) = true := by rw [← hbx]; exact BY.out.1.trans hbit
            have hbc : ¬ bx = 0 := nonz_of hbb
            clear hbit hy
            go_wp2
            go_roundw
            case rel => exact ⟨1, at_, 0, 0, 0, 0, by decide, Nat.le_succ_of_le hat0, hat1, rfl, rfl, Y2.out, M.out, U.out⟩
            case measure => simp [intOf]
      · obtain ⟨rfl, rfl, rfl, hy⟩ := st_at1 YY.out
        clear YY
        obtain ⟨hat, ha1, _⟩ := at_small hat0 hat1 hk4
        cases hbit : bitB o 2 with
        | false =>
          have Y2 : Hid (St o ps y 2 at_ a 0 0 0) := .inr (.inr (.inl ⟨rfl, rfl, rfl, by rw [hy, cand1, hbit, fld_off]⟩))
          have hbb : bits .and .i64 (h / 2) 1 = 0 := zero_of (BY.out.2.1.trans hbit)
          clear hbit hy
          go_wp2
          go_roundw
          case rel => exact ⟨2, at_, a, 0, 0, 0, by decide, Nat.le_succ_of_le hat0, hat1, rfl, rfl, Y2.out, M.out, U.out⟩
          case measure => simp [intOf]
        | true =>
          by_cases hlen : at_ < ps.length + 1
          · obtain ⟨p, hp, hpr, hli, hsu⟩ := at_in nm hat1 hlen
            have hcell := M.out.row at_ p hpr
            have S5 := hid_mk (num_any p (HPL.out p (List.mem_of_getElem? hpr)) wr)
            have Y2 : Hid (St o ps y 2 (at_ + 1) a (numL p) 0 0) := .inr (.inr (.inl ⟨rfl, rfl, rfl, by rw [hy, cand1, hbit, fld_on hp, hsu]⟩))
            generalize numL p = q at S5 Y2
            obtain ⟨bx, hbx⟩ : ∃ x, bits .and .i64 (h / 2) 1 = x := ⟨_, rfl⟩
            have hbb : (bx != 0) = true := by rw [← hbx]; exact BY.out.2.1.trans hbit
            have hbc : ¬ bx = 0 := nonz_of hbb
            clear hbit hy hp hpr hsu
            go_wp2_with (go_at_call 46; refine S5.out.mono ?_; rintro e w5 ⟨rfl, hb⟩; refine Hid.out ?_)
            refine Lib.hid ?_
            have M5 := hid_mk ((M.out.next hb).keep ((KeepBut.refl kq w5).setCell 1 (.int .i64 q)) hq1 hq2 hq3 hq0)
            have U5 := hid_mk ((U.out.below hb).set1 q)
            clear e0 e1 e2 e3 g0 g1 g2 g3
            obtain ⟨_, e0, e1, e2, e3, g0, g1, g2, g3⟩ := U.out.below hb
            clear hb
            go_wp2
            go_roundw
            case rel => exact ⟨2, at_ + 1, a, q, 0, 0, by decide, Nat.succ_le_succ hat0, Nat.succ_le_succ (Nat.zero_le _), rfl, rfl, Y2.out, M5.out, U5.out⟩
            case measure => simp [intOf]
          · obtain ⟨hli, hsu⟩ := at_out hat1 hlen
            have Y2 : Hid (St o ps y 2 at_ a 0 0 0) := .inr (.inr (.inl ⟨rfl, rfl, rfl, by rw [hy, cand1, fld_out hsu]⟩))
            obtain ⟨bx, hbx⟩ : ∃ x, bits .and .i64 (h / 2) 1 = x := ⟨_, rfl⟩
            have hbb : (bx != 0) = true := by rw [← hbx]; exact BY.out.2.1.trans hbit
            have hbc : ¬ bx = 0 := nonz_of hbb
            clear hbit hy
            go_wp2
            go_roundw
            case rel => exact ⟨2, at_, a, 0, 0, 0, by decide, Nat.le_succ_of_le hat0, hat1, rfl, rfl, Y2.out, M.out, U.out⟩
            case measure => simp [intOf]
      · obtain ⟨rfl, rfl, hy⟩ := st_at2 YY.out
        clear YY
        obtain ⟨hat, ha1, _⟩ := at_small hat0 hat1 hk4
        cases hbit : bitB o 4 with
        | false =>
          have Y2 : Hid (St o ps y 3 at_ a b 0 0) := .inr (.inr (.inr (.inl ⟨rfl, rfl, by rw [hy, cand2, hbit, fld_off]⟩)))
          have hbb : bits .and .i64 (h / 4) 1 = 0 := zero_of (BY.out.2.2.1.trans hbit)
          clear hbit hy
          go_wp2
          go_roundw
          case rel => exact ⟨3, at_, a, b, 0, 0, by decide, Nat.le_succ_of_le hat0, hat1, rfl, rfl, Y2.out, M.out, U.out⟩
          case measure => simp [intOf]
        | true =>
          by_cases hlen : at_ < ps.length + 1
          · obtain ⟨p, hp, hpr, hli, hsu⟩ := at_in nm hat1 hlen
            have hcell := M.out.row at_ p hpr
            have S5 := hid_mk (num_any p (HPL.out p (List.mem_of_getElem? hpr)) wr)
            have Y2 : Hid (St o ps y 3 (at_ + 1) a b (numL p) 0) := .inr (.inr (.inr (.inl ⟨rfl, rfl, by rw [hy, cand2, hbit, fld_on hp, hsu]⟩)))
            generalize numL p = q at S5 Y2
            obtain ⟨bx, hbx⟩ : ∃ x, bits .and .i64 (h / 4) 1 = x := ⟨_, rfl⟩
            have hbb : (bx != 0) = true := by rw [← hbx]; exact BY.out.2.2.1.trans hbit
            have hbc : ¬ bx = 0 := nonz_of hbb
            clear hbit hy hp hpr hsu
            go_wp2_with (go_at_call 46; refine S5.out.mono ?_; rintro e w5 ⟨rfl, hb⟩; refine Hid.out ?_)
            refine Lib.hid ?_
            have M5 := hid_mk ((M.out.next hb).keep ((KeepBut.refl kq w5).setCell 2 (.int .i64 q)) hq1 hq2 hq3 hq0)
            have U5 := hid_mk ((U.out.below hb).set2 q)
            clear e0 e1 e2 e3 g0 g1 g2 g3
            obtain ⟨_, e0, e1, e2, e3, g0, g1, g2, g3⟩ := U.out.below hb
            clear hb
            go_wp2
            go_roundw
            case rel => exact ⟨3, at_ + 1, a, b, q, 0, by decide, Nat.succ_le_succ hat0, Nat.succ_le_succ (Nat.zero_le _), rfl, rfl, Y2.out, M5.out, U5.out⟩
            case measure => simp [intOf]
          · obtain ⟨hli, hsu⟩ := at_out hat1 hlen
            have Y2 : Hid (St o ps y 3 at_ a b 0 0) := .inr (.inr (.inr (.inl ⟨rfl, rfl, by rw [hy, cand2, fld_out hsu]⟩)))
            obtain ⟨bx, hbx⟩ : ∃ x, bits .and .i64 (h / 4) 1 = x := ⟨_, rfl⟩
            have hbb : (bx != 0) = true := by rw [← hbx]; exact BY.out.2.2.1.trans hbit
            have hbc : ¬ bx = 0 := nonz_of hbb
            clear hbit hy
            go_wp2
            go_roundw
            case rel => exact ⟨3, at_, a, b, 0, 0, by decide, Nat.le_succ_of_le hat0, hat1, rfl, rfl, Y2.out, M.out, U.out⟩
            case measure => simp [intOf]
      · obtain ⟨rfl, hy⟩ := st_at3 YY.out
        clear YY
        obtain ⟨hat, ha1, _⟩ := at_small hat0 hat1 hk4
        cases hbit : bitB o 8 with
        | false =>
          have Y2 : Hid (St o ps y 4 at_ a b c 0) := .inr (.inr (.inr (.inr ⟨rfl, by rw [hy, cand3, hbit, fld_off]⟩)))
          have hbb : bits .and .i64 (h / 8) 1 = 0 := zero_of (BY.out.2.2.2.trans hbit)
          clear hbit hy
          go_wp2
          go_roundw
          case rel => exact ⟨4, at_, a, b, c, 0, by decide, Nat.le_succ_of_le hat0, hat1, rfl, rfl, Y2.out, M.out, U.out⟩
          case measure => simp [intOf]
        | true =>
          by_cases hlen : at_ < ps.length + 1
          · obtain ⟨p, hp, hpr, hli, hsu⟩ := at_in nm hat1 hlen
            have hcell := M.out.row at_ p hpr
            have S5 := hid_mk (num_any p (HPL.out p (List.mem_of_getElem? hpr)) wr)
            have Y2 : Hid (St o ps y 4 (at_ + 1) a b c (numL p)) := .inr (.inr (.inr (.inr ⟨rfl, by rw [hy, cand3, hbit, fld_on hp]⟩)))
            generalize numL p = q at S5 Y2
            obtain ⟨bx, hbx⟩ : ∃ x, bits .and .i64 (h / 8) 1 = x := ⟨_, rfl⟩
            have hbb : (bx != 0) = true := by rw [← hbx]; exact BY.out.2.2.2.trans hbit
            have hbc : ¬ bx = 0 := nonz_of hbb
            clear hbit hy hp hpr hsu
            go_wp2_with (go_at_call 46; refine S5.out.mono ?_; rintro e w5 ⟨rfl, hb⟩; refine Hid.out ?_)
            refine Lib.hid ?_
            have M5 := hid_mk ((M.out.next hb).keep ((KeepBut.refl kq w5).setCell 3 (.int .i64 q)) hq1 hq2 hq3 hq0)
            have U5 := hid_mk ((U.out.below hb).set3 q)
            clear e0 e1 e2 e3 g0 g1 g2 g3
            obtain ⟨_, e0, e1, e2, e3, g0, g1, g2, g3⟩ := U.out.below hb
            clear hb
            go_wp2
            go_roundw
            case rel => exact ⟨4, at_ + 1, a, b, c, q, by decide, Nat.succ_le_succ hat0, Nat.succ_le_succ (Nat.zero_le _), rfl, rfl, Y2.out, M5.out, U5.out⟩
            case measure => simp [intOf]
          · obtain ⟨hli, hsu⟩ := at_out hat1 hlen
            have Y2 : Hid (St o ps y 4 at_ a b c 0) := .inr (.inr (.inr (.inr ⟨rfl, by rw [hy, cand3, fld_out hsu]⟩)))
            obtain ⟨bx, hbx⟩ : ∃ x, bits .and .i64 (h / 8) 1 = x := ⟨_, rfl⟩
            have hbb : (bx != 0) = true := by rw [← hbx]; exact BY.out.2.2.2.trans hbit
            have hbc : ¬ bx = 0 := nonz_of hbb
            clear hbit hy
            go_wp2
            go_roundw
            case rel => exact ⟨4, at_, a, b, c, 0, by decide, Nat.le_succ_of_le hat0, hat1, rfl, rfl, Y2.out, M.out, U.out⟩
            case measure => simp [intOf]
      · obtain rfl := st_at4 YY.out
        have HC : Hid (candL l = ⟨o, a, b, c, d⟩) := by
          unfold candL
          rw [HP.out]
          simp only [List.headD_cons, List.tail_cons]
          rw [← O.out]
          exact Y.out.symm
        rw [HC.out] at ZC
        clear YY Y HC
        obtain ⟨_, d0, d1, d2, d3, d4, f0, f1, f2, f3, f4⟩ := M.out.fx
        go_upto_region 22 with fail
        have M6 := hid_mk (M.out.set4 a b c d)
        generalize ((((wr.setCell ⟨kx, 1, none⟩ (.int .i64 a)).setCell ⟨kx, 2, none⟩ (.int .i64 b)).setCell ⟨kx, 3, none⟩ (.int .i64 c)).setCell ⟨kx, 4, none⟩ (.int .i64 d)) = w6 at M6 ⊢
        clear M U d0 d1 d2 d3 d4 f0 f1 f2 f3 f4 e0 e1 e2 e3 g0 g1 g2 g3
        by_cases hl0 : l = []
        · have hz : z = none := by rw [← ZC.out, if_pos (.inl hl0)]
          subst hz
          have hcm : ((bs l).toList == (bs []).toList) = true := by rw [hl0]; simp
          clear hl0
          obtain ⟨_, r0, r1, r2, r3, r4, s0, s1, s2, s3, s4⟩ := M6.out.res
          go_wp2
          refine bodyPost_ret (v := .tuple #[.agg #[.int .i64 0, .int .i64 0, .int .i64 0, .int .i64 0, .int .i64 0], .bool false]) (by simp [results, Tryd.results15, go_sem, r0, r1, r2, r3, r4]) rfl ⟨rfl, ?_⟩
          exact Below.setCell (Below.setCell (Below.setCell (Below.setCell (Below.setCell M6.out.bel (Nat.le_refl _) _) (Nat.le_refl _) _) (Nat.le_refl _) _) (Nat.le_refl _) _) (Nat.le_refl _) _
        · have hcm : ((bs l).toList == (bs []).toList) = false := ne_bs hl0
          have T1 := hid_mk (specInsText_any o a b c d)
          obtain ⟨t, T⟩ : ∃ t, Hid (t = inL ⟨o, a, b, c, d⟩) := ⟨_, rfl⟩
          rw [← T.out] at T1
          obtain ⟨_, d0, d1, d2, d3, d4, _⟩ := M6.out.fx
          go_wp2_with (go_at_call 11; refine (T1.out _).mono ?_; rintro e w7 ⟨rfl, hb⟩; refine Hid.out ?_)
          refine Lib.hid ?_
          have M7 := hid_mk (M6.out.next hb)
          clear hb d0 d1 d2 d3 d4 M6
          obtain ⟨_, d0, d1, d2, d3, d4, _⟩ := M7.out.fx
          obtain ⟨_, r0, r1, r2, r3, r4, s0, s1, s2, s3, s4⟩ := M7.out.res
          by_cases htl : t = l
          · have hz : z = some ⟨o, a, b, c, d⟩ := by
              rw [← ZC.out, if_neg]
              rintro (h | h)
              · exact hl0 h
              · exact h (by rw [← T.out]; exact htl)
            subst hz
            have hcq : ((bs t).toList == (bs l).toList) = true := by rw [htl]; simp
            clear htl hl0
            go_wp2
            refine bodyPost_ret (v := .tuple #[.agg #[.int .i64 o, .int .i64 a, .int .i64 b, .int .i64 c, .int .i64 d], .bool true]) (by simp [results, Tryd.results15, go_sem, r0, r1, r2, r3, r4]) rfl ⟨rfl, ?_⟩
            exact Below.setCell (Below.setCell (Below.setCell (Below.setCell (Below.setCell M7.out.bel (Nat.le_refl _) _) (Nat.le_refl _) _) (Nat.le_refl _) _) (Nat.le_refl _) _) (Nat.le_refl _) _
          · have hz : z = none := by
              rw [← ZC.out, if_pos (.inr (by rw [← T.out]; exact htl))]
            subst hz
            have hcq : ((bs t).toList == (bs l).toList) = false := ne_bs htl
            clear htl hl0
            go_wp2
            refine bodyPost_ret (v := .tuple #[.agg #[.int .i64 0, .int .i64 0, .int .i64 0, .int .i64 0, .int .i64 0], .bool false]) (by simp [results, Tryd.results15, go_sem, r0, r1, r2, r3, r4]) rfl ⟨rfl, ?_⟩
            exact Below.setCell (Below.setCell (Below.setCell (Below.setCell (Below.setCell M7.out.bel (Nat.le_refl _) _) (Nat.le_refl _) _) (Nat.le_refl _) _) (Nat.le_refl _) _) (Nat.le_refl _) _
end Go.Proofs.YtdcghcbliajcpaaDoor
