/- The draws of chapter 7, and sameIns of the laws: each returns some text or list, and turns nothing that was there. -/
import Derived.Test.YtdcghcbliajcpaaDoorTxtG
import Derived.Test.YtdcghcbliajcpaaDoorDrawI4
import Derived.Test.YtdcghcbliajcpaaDoorIHold
namespace Go.Proofs.YtdcghcbliajcpaaDoor
open Go.ChangeShapes Go.WideShapes Go.ChangeAt Go.RowKit
set_option maxRecDepth 100000

/-- A pick of a literal list of short texts, just laid. -/
theorem d_pickS {B q : Nat} {w : World} {a : Option Addr} {len cap : Nat} (zs : List (List UInt8)) (T : TypeId) (m c : Nat) (hm : m = zs.length) (hz : 0 < zs.length) (hM : zs.length ≤ 1000) (d : Drawn B q w a len cap) :
    Calls Tryd.prog 63 #[.pointer (some ⟨q, 0, none⟩), .slice (some ⟨w.heap.size, 0, none⟩) m c] (w.alloc (.cells (zs.map fun z => Value.string (bs z)).toArray T)) fun e w' => ∃ x : List UInt8, e = .returned (.string (bs x)) ∧ x ∈ zs ∧ Drawn B q w' a len cap ∧ KeepBut q w w' := by
  subst hm
  have D1 := hid_mk (d.alloc (.cells (zs.map fun z => Value.string (bs z)).toArray T))
  have hne : w.heap.size ≠ q := Nat.ne_of_gt d.lt
  have K1 : Hid (KeepBut q w (w.alloc (.cells (zs.map fun z => Value.string (bs z)).toArray T))) := (KeepBut.refl q w).alloc _
  have HL : Hid (∀ i, i < zs.length → ∃ v, v ∈ zs ∧ (w.alloc (.cells (zs.map fun z => Value.string (bs z)).toArray T)).cell? ⟨w.heap.size, i, none⟩ = some (.string (bs v))) := fun i hi => ⟨zs[i], List.getElem_mem hi, by simp [hi]⟩
  have hlt : w.heap.size < (w.alloc (.cells (zs.map fun z => Value.string (bs z)).toArray T)).heap.size := by simp
  clear d
  generalize w.alloc (.cells (zs.map fun z => Value.string (bs z)).toArray T) = w1 at D1 K1 HL hlt
  generalize w.heap.size = r at hne HL hlt
  generalize zs.length = m at hz hM HL
  go_enter Tryd.func63, Tryd.ntmps63
  go_wp2_with fail
  refine (d_below m D1.out).mono ?_
  rintro e w2 ⟨x, rfl, x0, x1, d2, k2⟩
  obtain ⟨i0, i1⟩ := x1 (by omega)
  obtain ⟨k, rfl⟩ : ∃ k : Nat, x = k := ⟨x.toNat, by omega⟩
  obtain ⟨v, pv, hv⟩ := HL.out k (by omega)
  have hv1 := (k2.cell (p := ⟨r, k, none⟩) hlt hne).trans hv
  have D2 := hid_mk d2
  have K2 := hid_mk (K1.out.trans k2)
  have PV := hid_mk pv
  clear d2 k2 x0 x1 hv pv HL D1 K1
  go_wp2
  go_ret
  exact ⟨v, rfl, PV.out, D2.out, K2.out⟩
theorem d_pickS_drew {B q : Nat} {w : World} {a : Option Addr} {len cap : Nat} (zs : List (List UInt8)) (T : TypeId) (m c : Nat) (hm : m = zs.length) (hz : 0 < zs.length) (hM : zs.length ≤ 1000) (d : Drawn B q w a len cap) :
    Calls Tryd.prog 63 #[.pointer (some ⟨q, 0, none⟩), .slice (some ⟨w.heap.size, 0, none⟩) m c] (w.alloc (.cells (zs.map fun z => Value.string (bs z)).toArray T)).drew fun e w' => ∃ x : List UInt8, e = .returned (.string (bs x)) ∧ x ∈ zs ∧ Drawn B q w' a len cap ∧ KeepBut q w w' :=
  (d_pickS zs T m c hm hz hM d.drew).mono fun _ _ ⟨x, he, hx, d', k⟩ => ⟨x, he, hx, d', (KeepBut.refl q w).drew.trans k⟩

theorem one_len {x : List UInt8} (h : x ∈ [[32], [48], [45], [114], [57], [10], ([120] : List UInt8)]) : x.length = 1 := by
  simp only [List.mem_cons, List.not_mem_nil, or_false] at h
  rcases h with rfl | rfl | rfl | rfl | rfl | rfl | rfl <;> rfl

set_option maxHeartbeats 4000000 in
theorem d_dent {B q : Nat} {w : World} {ad : Option Addr} {len cap : Nat} (s : List UInt8) (hs : s.length ≤ 2000) (d : Drawn B q w ad len cap) :
    Calls Tryd.prog 43 #[.pointer (some ⟨q, 0, none⟩), .string (bs s)] w fun e w' => ∃ t, e = .returned (.string (bs t)) ∧ t.length ≤ 2001 ∧ Drawn B q w' ad len cap ∧ KeepBut q w w' := by
  have D := hid_mk d
  have hbl := bs_size s
  have hsi : (s.length : Int) ≤ 2000 := by omega
  clear d
  go_enter Tryd.func43, Tryd.ntmps43
  go_wp2_with fail
  refine (d_below _ D.out).mono ?_
  rintro e w1 ⟨x, rfl, _, hx, d1, k1⟩
  obtain ⟨x0, x1⟩ := hx (by omega)
  obtain ⟨k, rfl⟩ : ∃ k : Nat, x = k := ⟨x.toNat, by omega⟩
  have D1 := hid_mk d1
  have K1 := hid_mk k1
  have hk : k ≤ s.length := by omega
  have hki : (k : Int) ≤ (s.length : Int) := by omega
  have e1 : (bs s).extract 0 k = bs (s.take k) := by rw [bs_extract]; simp
  have e2 : (bs s).extract k s.length = bs (s.drop k) := by rw [bs_extract, List.take_of_length_le (by rw [List.length_drop]; omega)]
  have l1 : (s.take k).length ≤ k := List.length_take_le _ _
  have l2 : (s.drop k).length = s.length - k := List.length_drop
  generalize s.take k = s1 at e1 l1
  generalize s.drop k = s2 at e2 l2
  clear d1 k1 hx D
  go_wp2_with fail
  refine (d_below 5 D1.out).mono ?_
  rintro e w2 ⟨y, rfl, _, hy, d2, k2⟩
  have D2 := hid_mk d2
  have K2 := hid_mk (K1.out.trans k2)
  clear d2 k2 D1 K1 hy
  cases g0 : (y == 0)
  · cases g1 : (y == 1)
    · go_wp2
      go_ret
      exact ⟨s, rfl, by omega, D2.out, K2.out⟩
    · have D3 := hid_mk D2.out.drew
      have DP := hid_mk (d_pickS_drew [[32], [48], [45], [114], [57], [10], [120]] 9 7 7 rfl (by decide) (by decide) D2.out)
      go_wp2_with fail
      go_region_with (first | (go_at_call 63; refine DP.out.mono ?_; rintro e w3 ⟨p, rfl, hp, d3, k3⟩; have l3 := one_len hp; have D4 := hid_mk d3; have K4 := hid_mk (K2.out.trans k3); have q1 := fun w => add_bs (P := Tryd.prog) s1 p w (by omega); have q2 := fun w => add_bs (P := Tryd.prog) (s1 ++ p) s2 w (by simp; omega); clear d3 k3 hp))
      all_goals
        go_wp2
        go_ret
        exact ⟨s1 ++ (p ++ s2), rfl, by simp; omega, D4.out, K4.out⟩
  · go_wp2
    go_ret
    exact ⟨s1, rfl, by omega, D2.out, K2.out⟩

theorem line_short (x : In) : (inL x).length ≤ 2000 := by
  cases h : okI x with
  | true => have := in_length h; omega
  | false => rw [inL_off h]; simp
theorem text_short (L : List In) : (codeL L).length ≤ 2000 := by
  cases h : cokB L with
  | true => have := code_len h; omega
  | false => rw [codeL_off h]; simp

set_option maxHeartbeats 1000000 in
theorem drawInsText_any {w : World} {ad : Option Addr} {len cap : Nat} (hc : Code8 w.heap.size w ad len) :
    Calls Tryd.prog 9 #[.slice ad len cap] w fun e w' => ∃ o r a b n : Int, e = .returned (.agg #[.int .i64 o, .int .i64 r, .int .i64 a, .int .i64 b, .int .i64 n]) ∧ Below w.heap.size w w' := by
  have bz : Below w.heap.size w (w.alloc (.cells #[.int .i64 0, .int .i64 0, .int .i64 0, .int .i64 0, .int .i64 0] 25)) := (Below.refl _ _).alloc (Nat.le_refl _) _
  have BZ := hid_mk bz
  have S := hid_mk (drawOne_any (cap := cap) (hc.later bz))
  have F0 := hid_mk (Five.new w 0 0 0 0 0 25)
  clear hc bz
  go_enter Tryd.func9, Tryd.ntmps9
  go_wp2_with fail
  refine S.out.mono ?_
  rintro e w1 ⟨o, r, a, b, n, rfl, hb⟩
  have B1 := hid_mk (BZ.out.trans (hb.mono BZ.out.size))
  obtain ⟨_, c0, c1, c2, c3, c4, f0, f1, f2, f3, f4⟩ := F0.out.below hb
  clear hb
  go_wp2
  refine bodyPost_ret (v := .agg #[.int .i64 o, .int .i64 r, .int .i64 a, .int .i64 b, .int .i64 n]) (by simp [results, Tryd.results9, go_sem, c0, c1, c2, c3, c4]) rfl ⟨o, r, a, b, n, rfl, ?_⟩
  exact Below.setCell (Below.setCell (Below.setCell (Below.setCell (Below.setCell B1.out (Nat.le_refl _) _) (Nat.le_refl _) _) (Nat.le_refl _) _) (Nat.le_refl _) _) (Nat.le_refl _) _

set_option maxHeartbeats 1000000 in
theorem drawCodeText_any {w : World} {ad : Option Addr} {len cap : Nat} (hc : Code8 w.heap.size w ad len) :
    Calls Tryd.prog 16 #[.slice ad len cap] w fun e w' => ∃ (a : Option Addr) (m c : Nat) (L : List In), e = .returned (.slice a m c) ∧ SliceI w'.heap.size w' a m L ∧ Below w.heap.size w w' := by
  have S := hid_mk (drawCodeOk_any (cap := cap) hc)
  clear hc
  go_enter Tryd.func16, Tryd.ntmps16
  go_wp2_with fail
  refine S.out.mono ?_
  rintro e w1 ⟨a, m, c, L, rfl, hs, hb⟩
  have T := hid_mk hs
  have B := hid_mk hb
  clear hs hb
  go_wp2
  go_ret
  exact ⟨a, m, c, L, rfl, T.out, B.out⟩

set_option maxHeartbeats 2000000 in
theorem drawInsRead_any {w : World} {ad : Option Addr} {len cap : Nat} (hc : Code8 w.heap.size w ad len) :
    Calls Tryd.prog 14 #[.slice ad len cap] w fun e w' => ∃ t : List UInt8, e = .returned (.string (bs t)) ∧ t.length ≤ 2001 ∧ Below w.heap.size w w' := by
  have C := hid_mk hc
  clear hc
  go_enter Tryd.func14, Tryd.ntmps14
  go_wp2_with fail
  refine (d_new C.out).mono ?_
  rintro e w1 ⟨rfl, d1, b1⟩
  have D1 := hid_mk d1
  have B1 := hid_mk b1
  clear d1 b1 C
  go_wp2_with fail
  refine (d_ins D1.out).mono ?_
  rintro e w2 ⟨o, r, a, b, n, rfl, d2, k2⟩
  have D2 := hid_mk d2
  have K2 := hid_mk k2
  clear d2 k2
  go_wp2_with fail
  refine (specInsText_any o r a b n _).mono ?_
  rintro e w3 ⟨rfl, hb3⟩
  have D3 := hid_mk (D2.out.below hb3)
  have K3 := hid_mk (K2.out.trans (KeepBut.ofBelow hb3))
  clear hb3 D2 K2
  have S4 := hid_mk (d_dent (inL ⟨o, r, a, b, n⟩) (line_short _) D3.out)
  generalize bs (inL ⟨o, r, a, b, n⟩) = y at S4 ⊢
  go_wp2_with fail
  refine S4.out.mono ?_
  rintro e w4 ⟨t, rfl, ht, d4, k4⟩
  have B4 := hid_mk (D1.out.to B1.out (K3.out.trans k4))
  clear d4 k4 D3 K3 S4
  go_wp2
  go_ret
  exact ⟨t, rfl, ht, B4.out⟩

set_option maxHeartbeats 2000000 in
theorem drawCodeRead_any {w : World} {ad : Option Addr} {len cap : Nat} (hc : Code8 w.heap.size w ad len) :
    Calls Tryd.prog 22 #[.slice ad len cap] w fun e w' => ∃ t : List UInt8, e = .returned (.string (bs t)) ∧ t.length ≤ 2001 ∧ Below w.heap.size w w' := by
  have C := hid_mk hc
  clear hc
  go_enter Tryd.func22, Tryd.ntmps22
  go_wp2_with fail
  refine (d_new C.out).mono ?_
  rintro e w1 ⟨rfl, d1, b1⟩
  have D1 := hid_mk d1
  have B1 := hid_mk b1
  clear d1 b1 C
  go_wp2_with fail
  refine (d_code D1.out).mono ?_
  rintro e w2 ⟨v, L, rfl, l2, _, _⟩
  obtain ⟨a, c, rfl, hs⟩ := owns_sliceI l2.own
  have D2 := hid_mk l2.d
  have K2 := hid_mk l2.kb
  have T2 := hid_mk hs
  clear l2 hs
  go_wp2_with fail
  refine (specCodeText_any a L.length c L _ T2.out).mono ?_
  rintro e w3 ⟨rfl, hb3⟩
  have D3 := hid_mk (D2.out.below hb3)
  have K3 := hid_mk (K2.out.trans (KeepBut.ofBelow hb3))
  clear hb3 D2 K2 T2
  have S4 := hid_mk (d_dent (codeL L) (text_short _) D3.out)
  generalize bs (codeL L) = y at S4 ⊢
  go_wp2_with fail
  refine S4.out.mono ?_
  rintro e w4 ⟨t, rfl, ht, d4, k4⟩
  have B4 := hid_mk (D1.out.to B1.out (K3.out.trans k4))
  clear d4 k4 D3 K3 S4
  go_wp2
  go_ret
  exact ⟨t, rfl, ht, B4.out⟩

set_option maxHeartbeats 2000000 in
theorem sameIns_same (a a' : Option Addr) (len cap cap' : Nat) (L : List In) (w : World) (hS : SliceI w.heap.size w a len L) (hS' : SliceI w.heap.size w a' len L) :
    Calls Tryd.prog 21 #[.slice a len cap, .slice a' len cap'] w fun e w' => e = .returned (.bool true) ∧ Below w.heap.size w w' := by
  have S : Hid (SliceI w.heap.size w a len L) := hS
  have S' : Hid (SliceI w.heap.size w a' len L) := hS'
  have hlen := hS.1
  unfold maxLen at hlen
  clear hS hS'
  go_enter Tryd.func21, Tryd.ntmps21
  go_wp2
  go_loopw [5] (fun c wr => ∃ k : Nat, k ≤ len ∧ c = .int .i64 k ∧ Hid (Below w.heap.size w wr)) (fun c _ => len - (intOf c).toNat)
  case atStart => exact ⟨0, Nat.zero_le _, rfl, Below.refl _ _⟩
  case round =>
    obtain ⟨k, hk, rfl, hB⟩ := hrel
    by_cases hlt : k < len
    · obtain ⟨kb, o, x, rfl, hkb, hx, hat⟩ := (S.out.keep hB.out).at hlt
      obtain ⟨kb', o', x', rfl, hkb', hx', hat'⟩ := (S'.out.keep hB.out).at hlt
      obtain rfl : x = x' := by rw [hx] at hx'; exact Option.some.inj hx'
      have zB := hB.out.size
      have qn := neq_ins x.o x.r x.a x.b x.n x.o x.r x.a x.b x.n
      rw [eqB_self] at qn
      have eg := eg_ins
      obtain ⟨d0, d1, d2, d3, d4⟩ := hat
      obtain ⟨e0, e1, e2, e3, e4⟩ := hat'
      have D0 : Hid (Below w.heap.size w wr.drew) := hB.out.drew
      clear hx hx'
      go_wp2_with fail
      go_region
      all_goals
        go_wp2
        go_roundw
        case rel => exact ⟨k + 1, hlt, by go_num, D0.out⟩
        case measure => simp [intOf]; omega
    · go_wp2
      go_ret
      exact ⟨rfl, hB.out⟩
end Go.Proofs.YtdcghcbliajcpaaDoor
