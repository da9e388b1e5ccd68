/- l7Digits and l7Names of the specification: what they answer. Numbers from -128 to 127. -/
import Derived.Test.YtdcghcbliajcpaaDoorLay7
import Derived.Test.YtdcghcbliajcpaaDoorTxtI
import Derived.Laws.IdiomStrings
namespace Go.Proofs.YtdcghcbliajcpaaDoor
open Go.ChangeShapes Go.WideShapes Go.ChangeAt Go.RowKit
set_option maxRecDepth 100000

/-- One byte as a string. -/
theorem one_byte (v : Int) (h0 : 0 ≤ v) (h1 : v < 256) (w : World) : (convert 22 9 (.slice (some ⟨w.heap.size, 0, none⟩) 1 1)).run Tryd.prog (w.alloc (.cells #[.int .u8 v] 5)) = .ok (.string (bs [UInt8.ofNat v.toNat])) (w.alloc (.cells #[.int .u8 v] 5)) := by
  have h := run_convert_bytes_back (P := Tryd.prog) (w.alloc (.cells #[.int .u8 v] 5)) 22 9 5 ⟨w.heap.size, 0, none⟩ 1 [UInt8.ofNat v.toNat] Tryd.underlying22 Tryd.underlying5 Tryd.underlying9 (fun j hj => by
    obtain rfl : j = 0 := by simpa using hj
    have e : ((UInt8.ofNat v.toNat).toNat : Int) = v := by rw [UInt8.toNat_ofNat']; omega
    show (w.alloc (.cells #[.int .u8 v] 5)).cell? ⟨w.heap.size, 0, none⟩ = some (.int .u8 ((UInt8.ofNat v.toNat).toNat : Int))
    rw [e]
    simp)
  exact h

theorem tdm (k : Int) : (0 ≤ k → k.tdiv 10 = k / 10 ∧ k.tmod 10 = k % 10) ∧ (k ≤ 0 → k.tdiv 10 = -((-k) / 10) ∧ k.tmod 10 = -((-k) % 10)) := by
  refine ⟨fun h => ⟨Int.tdiv_eq_ediv_of_nonneg h, Int.tmod_eq_emod_of_nonneg h⟩, fun h => ?_⟩
  obtain ⟨m, rfl⟩ : ∃ m, k = -m := ⟨-k, by omega⟩
  rw [Int.neg_tdiv, Int.neg_tmod, Int.neg_neg, Int.tdiv_eq_ediv_of_nonneg (by omega), Int.tmod_eq_emod_of_nonneg (by omega)]
  exact ⟨rfl, rfl⟩

set_option maxHeartbeats 4000000 in
theorem digits_any (n : Int) (h0 : -128 ≤ n) (h1 : n ≤ 127) (w : World) :
    Calls Tryd.prog 37 #[.int .i64 n] w fun e w' => e = .returned (.string (bs (digL n))) ∧ Below w.heap.size w w' := by
  have c0 : (ByteArray.mk #[]) = bs [] := rfl
  have c48 : (ByteArray.mk #[48]) = bs [48] := rfl
  have c45 : (ByteArray.mk #[45]) = bs [45] := rfl
  obtain ⟨z, Z⟩ : ∃ z, Hid (z = digL n) := ⟨_, rfl⟩
  rw [← Z.out]
  by_cases hn : n = 0
  · subst hn
    have hz : z = [48] := Z.out
    subst hz
    go_enter Tryd.func37, Tryd.ntmps37
    go_wp2
    go_ret
    exact ⟨rfl, Below.refl _ _⟩
  obtain ⟨t, T⟩ : ∃ t, Hid (t = digF 3 n []) := ⟨_, rfl⟩
  have hz : Hid (z = (if n < 0 then [45] else []) ++ t) := by rw [Z.out, T.out]; simp [digL, hn, Hid]
  clear Z c0
  go_enter Tryd.func37, Tryd.ntmps37
  go_wp2
  go_loopw [0, 4] (fun m c wr => ∃ (f : Nat) (k : Int) (acc : List UInt8), m = .int .i64 k ∧ c = .string (bs acc) ∧ -128 ≤ k ∧ k ≤ 127 ∧ Hid (f ≤ 3 ∧ acc.length + f = 3 ∧ k.natAbs < 10 ^ f ∧ t = digF f k acc) ∧ Hid (Below w.heap.size w wr)) (fun m _ _ => (intOf m).natAbs)
  case atStart => exact ⟨3, n, [], rfl, rfl, h0, h1, ⟨by omega, rfl, by omega, T.out⟩, Below.refl _ _⟩
  case round =>
    obtain ⟨f, k, acc, rfl, rfl, k0, k1, F, B⟩ := hrel
    by_cases hk : k = 0
    · subst hk
      have ht : t = acc := by
        rw [F.out.2.2.2]
        cases f <;> simp [digF]
      subst ht
      have hl : t.length ≤ 3 := by have := F.out; omega
      have q := hid_mk (fun w => add_bs (P := Tryd.prog) [45] t w (by simp; omega))
      have q := q.out
      by_cases hb : n < 0
      · have hz' : z = 45 :: t := by rw [hz.out]; simp [hb]
        subst hz'
        go_wp2
        go_ret
        exact ⟨rfl, B.out⟩
      · have hz' : z = t := by rw [hz.out]; simp [hb]
        subst hz'
        go_wp2
        go_ret
        exact ⟨rfl, B.out⟩
    · obtain ⟨f, rfl⟩ : ∃ g, f = g + 1 := by
        cases f with
        | zero => exact absurd (by have := F.out.2.2.1; simp at this; omega) hk
        | succ g => exact ⟨g, rfl⟩
      have D := tdm k
      have hl : acc.length ≤ 3 := by have := F.out; omega
      by_cases hp : 0 < k
      · obtain ⟨a1, a2⟩ := D.1 (by omega)
        obtain ⟨e, he⟩ : ∃ e, k % 10 = e := ⟨_, rfl⟩
        have e0 : 0 ≤ e ∧ e ≤ 9 := by omega
        have o1 := hid_mk (one_byte (48 + e) (by omega) (by omega))
        have q := hid_mk (fun w => add_bs (P := Tryd.prog) [UInt8.ofNat (48 + e).toNat] acc w (by simp; omega))
        have G : Hid (t = digF f (k / 10) ([UInt8.ofNat (48 + e).toNat] ++ acc)) := by
          have h := F.out.2.2.2
          rw [digF, if_neg hk, a1, a2, he] at h
          have e2 : 48 + e.natAbs = (48 + e).toNat := by omega
          rw [e2] at h
          exact h
        clear D a1 a2
        have o1 := o1.out
        have q := q.out
        go_wp2
        go_roundw
        case rel => exact ⟨f, k / 10, [UInt8.ofNat (48 + e).toNat] ++ acc, rfl, rfl, by omega, by omega, ⟨by have := F.out; omega, by have := F.out; simp; omega, by have := F.out.2.2.1; rw [Nat.pow_succ] at this; omega, G.out⟩, B.out.alloc B.out.size _⟩
        case measure => simp [intOf]; omega
      · obtain ⟨a1, a2⟩ := D.2 (by omega)
        obtain ⟨e, he⟩ : ∃ e, (-k) % 10 = e := ⟨_, rfl⟩
        obtain ⟨k2, hk2⟩ : ∃ k2, k.tdiv 10 = k2 := ⟨_, rfl⟩
        have e0 : 0 ≤ e ∧ e ≤ 9 := by omega
        have k2e : k2 = -((-k) / 10) := by omega
        have o1 := hid_mk (one_byte (48 + e) (by omega) (by omega))
        have q := hid_mk (fun w => add_bs (P := Tryd.prog) [UInt8.ofNat (48 + e).toNat] acc w (by simp; omega))
        have G : Hid (t = digF f k2 ([UInt8.ofNat (48 + e).toNat] ++ acc)) := by
          have h := F.out.2.2.2
          rw [digF, if_neg hk, hk2, a2, he] at h
          have e2 : 48 + (-e).natAbs = (48 + e).toNat := by omega
          rw [e2] at h
          exact h
        have K := hid_mk k2e
        have k20 : -13 ≤ k2 ∧ k2 ≤ 0 := by omega
        rw [he] at a2
        clear D a1 k2e he
        by_cases h : 0 < e
        · have o1 := o1.out
          have q := q.out
          go_wp2
          go_roundw
          case rel => exact ⟨f, k2, [UInt8.ofNat (48 + e).toNat] ++ acc, rfl, rfl, by have := K.out; omega, by have := K.out; omega, ⟨by have := F.out; omega, by have := F.out; simp; omega, by have h1 := F.out.2.2.1; have := K.out; rw [Nat.pow_succ] at h1; omega, G.out⟩, B.out.alloc B.out.size _⟩
          case measure => simp [intOf]; have := K.out; omega
        · obtain rfl : e = 0 := by omega
          have o1 : ∀ w : World, (convert 22 9 (.slice (some ⟨w.heap.size, 0, none⟩) 1 1)).run Tryd.prog (w.alloc (.cells #[.int .u8 48] 5)) = .ok (.string (bs [48])) (w.alloc (.cells #[.int .u8 48] 5)) := o1.out
          have q : ∀ w : World, (Op.stringOp .add (bs [48]) (bs acc)).run Tryd.prog w = .ok (.string (bs (48 :: acc))) w := q.out
          go_wp2
          go_roundw
          case rel => exact ⟨f, k2, [UInt8.ofNat (48 + 0 : Int).toNat] ++ acc, rfl, rfl, by have := K.out; omega, by have := K.out; omega, ⟨by have := F.out; omega, by have := F.out; simp; omega, by have h1 := F.out.2.2.1; have := K.out; rw [Nat.pow_succ] at h1; omega, G.out⟩, B.out.alloc B.out.size _⟩
          case measure => simp [intOf]; have := K.out; omega
end Go.Proofs.YtdcghcbliajcpaaDoor
