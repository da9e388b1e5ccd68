/- l7Num of the specification at all texts: the number of at most three digits. No condition. -/
import Derived.Test.YtdcghcbliajcpaaDoorTxtN
import Derived.Test.YtdcghcbliajcpaaDoorTxtP
namespace Go.Proofs.YtdcghcbliajcpaaDoor
open Go.ChangeShapes Go.WideShapes Go.ChangeAt Go.RowKit
set_option maxRecDepth 100000

/-- The number by its sign. -/
def numZ (neg : Bool) : Option Int → Int
  | none => 0
  | some x => if neg = true then 0 - x else x
theorem numL_by {s : List UInt8} {k : Nat} {neg : Bool} (h1 : (if s.head? = some 45 ∨ s.head? = some 114 then 1 else 0) = k) (h2 : decide (s.head? = some 45) = neg) : numL s = numZ neg (numF 0 ((s.drop k).take 3)) := by
  unfold numL
  rw [h1]
  cases numF 0 ((s.drop k).take 3) with
  | none => rfl
  | some x =>
    subst h2
    simp [numZ]
theorem take_more {s : List UInt8} {i k : Nat} (h : i < s.length) : (s.drop i).take (k + 1) = s.getD i 0 :: (s.drop (i + 1)).take k := by
  rw [List.drop_eq_getElem_cons h, getD_at s i h]; rfl
theorem numF_step {x : Int} {c : UInt8} {r : List UInt8} (h0 : 48 ≤ c.toNat) (h1 : c.toNat ≤ 57) : numF x (c :: r) = numF (10 * x + (c.toNat : Int) - 48) r := by
  rw [numF, if_neg]
  rintro (h | h)
  · have := UInt8.lt_iff_toNat_lt.1 h; simp at this; omega
  · have := UInt8.lt_iff_toNat_lt.1 h; simp at this; omega
theorem numF_stop {x : Int} {c : UInt8} {r : List UInt8} (h : c.toNat < 48 ∨ 57 < c.toNat) : numF x (c :: r) = none := by
  rw [numF, if_pos]
  rcases h with h | h
  · exact .inl (UInt8.lt_iff_toNat_lt.2 (by simpa using h))
  · exact .inr (UInt8.lt_iff_toNat_lt.2 (by simpa using h))

set_option maxHeartbeats 4000000 in
theorem num_A (s : List UInt8) (hl : s.length ≤ 1048576) (hs : s = []) (w : World) :
    Calls Tryd.prog 46 #[.string (bs s)] w fun e w' => e = .returned (.int .i64 (numL s)) ∧ Below w.heap.size w w' := by
  obtain ⟨z, Z⟩ : ∃ z, Hid (z = numL s) := ⟨_, rfl⟩
  rw [← Z.out]
  have c0 : (ByteArray.mk #[]) = bs [] := rfl
  have hbl := bs_size s
  obtain ⟨y, Y⟩ : ∃ y, Hid (y = numF 0 ((s.drop 0).take 3)) := ⟨_, rfl⟩
  have ZY : Hid (z = numZ false y) := by
    rw [Z.out, Y.out]
    exact numL_by (by simp [hs]) (by simp [hs])
  clear Z
  subst hs
  have hb0 : ((bs []).toList == (bs []).toList) = true := by simp
  go_enter Tryd.func46, Tryd.ntmps46
  go_wp2
  go_loopw [4, 5] (fun xx ii wr => ∃ (i : Nat) (x : Int), 0 ≤ i ∧ i ≤ 0 + 3 ∧ xx = .int .i64 x ∧ ii = .int .i64 (i : Int) ∧ 0 ≤ x ∧ x < 10 ^ (i - 0) ∧ Hid (y = numF x ((([] : List UInt8).drop i).take (0 + 3 - i))) ∧ wr = w) (fun _ ii _ => 0 + 3 - (intOf ii).toNat)
  case atStart => exact ⟨0, 0, Nat.le_refl _, by omega, rfl, rfl, Int.le_refl _, by decide, Y.out, rfl⟩
  case round =>
    obtain ⟨i, x, i0, i1, rfl, rfl, x0, x1, F, rfl⟩ := hrel
    have x2 : x < 1000 := by
      have : i - 0 = 0 ∨ i - 0 = 1 ∨ i - 0 = 2 ∨ i - 0 = 3 := by omega
      rcases this with h | h | h | h <;> rw [h] at x1 <;> simp at x1 <;> omega
    by_cases hi : i < ([] : List UInt8).length
    · exact absurd hi (Nat.not_lt_zero _)
    · have hz : y = some x := by
        rw [F.out, List.drop_eq_nil_of_le (by omega), List.take_nil]
        rfl
      subst hz
      have hii : ¬ (i : Int) < (([] : List UInt8).length : Int) := by omega
      have hz : z = (if false = true then 0 - x else x) := ZY.out
      simp only [reduceIte, Bool.false_eq_true] at hz
      subst hz
      clear ZY F
      go_wp2
      go_ret
      exact ⟨by go_num, Below.refl _ _⟩

set_option maxHeartbeats 4000000 in
theorem num_B (s : List UInt8) (hl : s.length ≤ 1048576) (c : UInt8) (r : List UInt8) (hs : s = c :: r) (h1 : c ≠ 45) (h2 : c ≠ 114) (w : World) :
    Calls Tryd.prog 46 #[.string (bs s)] w fun e w' => e = .returned (.int .i64 (numL s)) ∧ Below w.heap.size w w' := by
  obtain ⟨z, Z⟩ : ∃ z, Hid (z = numL s) := ⟨_, rfl⟩
  rw [← Z.out]
  have c0 : (ByteArray.mk #[]) = bs [] := rfl
  have hbl := bs_size s
  obtain ⟨y, Y⟩ : ∃ y, Hid (y = numF 0 ((s.drop 0).take 3)) := ⟨_, rfl⟩
  have ZY : Hid (z = numZ false y) := by
    rw [Z.out, Y.out]
    exact numL_by (by simp [hs, h1, h2]) (by simp [hs, h1])
  clear Z
  have hb0 : ((bs s).toList == (bs []).toList) = false := ne_bs (by rw [hs]; simp)
  have hg0 : ∀ h : 0 < (bs s).size, (bs s)[0]'h = c := fun h => by rw [bs_at s 0 (by rw [hs]; simp) h, hs]; rfl
  have hsz0 : 0 < s.length := by rw [hs]; simp
  have hsz1 : (0 : Int) < (s.length : Int) := by omega
  have hsn : s ≠ [] := by rw [hs]; simp
  clear hs
  have hc1 : ((c.toNat : Int) == 45) = false := by
    have : c.toNat ≠ 45 := fun h => h1 (UInt8.toNat_inj.1 h)
    simp; omega
  have hc2 : ((c.toNat : Int) == 114) = false := by
    have : c.toNat ≠ 114 := fun h => h2 (UInt8.toNat_inj.1 h)
    simp; omega
  go_enter Tryd.func46, Tryd.ntmps46
  go_wp2
  go_loopw [4, 5] (fun xx ii wr => ∃ (i : Nat) (x : Int), 0 ≤ i ∧ i ≤ 0 + 3 ∧ xx = .int .i64 x ∧ ii = .int .i64 (i : Int) ∧ 0 ≤ x ∧ x < 10 ^ (i - 0) ∧ Hid (y = numF x ((s.drop i).take (0 + 3 - i))) ∧ wr = w) (fun _ ii _ => 0 + 3 - (intOf ii).toNat)
  case atStart => exact ⟨0, 0, Nat.le_refl _, by omega, rfl, rfl, Int.le_refl _, by decide, Y.out, rfl⟩
  case round =>
    obtain ⟨i, x, i0, i1, rfl, rfl, x0, x1, F, rfl⟩ := hrel
    have x2 : x < 1000 := by
      have : i - 0 = 0 ∨ i - 0 = 1 ∨ i - 0 = 2 ∨ i - 0 = 3 := by omega
      rcases this with h | h | h | h <;> rw [h] at x1 <;> simp at x1 <;> omega
    by_cases hi : i < s.length
    · by_cases h3 : i < 0 + 3
      · obtain ⟨d, hd⟩ : ∃ d, s.getD i 0 = d := ⟨_, rfl⟩
        have hg : ∀ h : i < (bs s).size, (bs s)[i]'h = d := fun h => by rw [bs_at s i hi h, hd]
        have F2 := F.out
        rw [show 0 + 3 - i = (0 + 3 - (i + 1)) + 1 by omega, take_more hi, hd] at F2
        have FF := hid_mk F2
        have hii : (i : Int) < (s.length : Int) := by omega
        have hi4 : (i : Int) < 0 + 3 := by omega
        have hdl : (d.toNat : Int) ≤ 255 := by have := d.toNat_lt; omega
        have hd0 : (0 : Int) ≤ (d.toNat : Int) := by omega
        clear F2
        by_cases hdd : d.toNat < 48 ∨ 57 < d.toNat
        · have hz : z = 0 := by
            rw [ZY.out, FF.out, numF_stop hdd]; rfl
          subst hz
          clear hd F FF ZY
          by_cases hlo : d.toNat < 48
          · have hm : (d.toNat : Int) < 48 := by omega
            generalize (d.toNat : Int) = m at hm hdl hd0
            go_wp2
            go_ret
            exact ⟨rfl, Below.refl _ _⟩
          · have hm : ¬ (d.toNat : Int) < 48 := by omega
            have hm2 : 57 < (d.toNat : Int) := by omega
            go_wp2
            go_ret
            exact ⟨rfl, Below.refl _ _⟩
        · have hm : ¬ (d.toNat : Int) < 48 := by omega
          have hm2 : ¬ 57 < (d.toNat : Int) := by omega
          have F3 : Hid (y = numF (10 * x + (d.toNat : Int) - 48) ((s.drop (i + 1)).take (0 + 3 - (i + 1)))) := by
            rw [FF.out, numF_step (by omega) (by omega)]
            exact hid_mk rfl
          have x3 : 10 * x + (d.toNat : Int) - 48 < 10 ^ (i + 1 - 0) := by
            have e : i + 1 - 0 = (i - 0) + 1 := by omega
            rw [e, Int.pow_succ]
            omega
          have x4 : 0 ≤ 10 * x + (d.toNat : Int) - 48 := by omega
          clear hd F FF hdd
          go_wp2
          go_roundw
          case rel => exact ⟨i + 1, 10 * x + (d.toNat : Int) - 48, by omega, by omega, by go_num, by go_num, x4, x3, F3.out, trivial⟩
          case measure => (simp [intOf]; omega)
      · have hz : y = some x := by
          rw [F.out, show 0 + 3 - i = 0 by omega]
          rfl
        subst hz
        have hi4 : ¬ (i : Int) < 0 + 3 := by omega
        have hii : (i : Int) < (s.length : Int) := by omega
        have hz : z = (if false = true then 0 - x else x) := ZY.out
        simp only [reduceIte, Bool.false_eq_true] at hz
        subst hz
        clear ZY F
        go_wp2
        go_ret
        exact ⟨by go_num, Below.refl _ _⟩
    · have hz : y = some x := by
        rw [F.out, List.drop_eq_nil_of_le (by omega), List.take_nil]
        rfl
      subst hz
      have hii : ¬ (i : Int) < (s.length : Int) := by omega
      have hz : z = (if false = true then 0 - x else x) := ZY.out
      simp only [reduceIte, Bool.false_eq_true] at hz
      subst hz
      clear ZY F
      go_wp2
      go_ret
      exact ⟨by go_num, Below.refl _ _⟩

set_option maxHeartbeats 4000000 in
theorem num_C (s : List UInt8) (hl : s.length ≤ 1048576) (r : List UInt8) (hs : s = 45 :: r) (w : World) :
    Calls Tryd.prog 46 #[.string (bs s)] w fun e w' => e = .returned (.int .i64 (numL s)) ∧ Below w.heap.size w w' := by
  obtain ⟨z, Z⟩ : ∃ z, Hid (z = numL s) := ⟨_, rfl⟩
  rw [← Z.out]
  have c0 : (ByteArray.mk #[]) = bs [] := rfl
  have hbl := bs_size s
  obtain ⟨y, Y⟩ : ∃ y, Hid (y = numF 0 ((s.drop 1).take 3)) := ⟨_, rfl⟩
  have ZY : Hid (z = numZ true y) := by
    rw [Z.out, Y.out]
    exact numL_by (by simp [hs]) (by simp [hs])
  clear Z
  have hb0 : ((bs s).toList == (bs []).toList) = false := ne_bs (by rw [hs]; simp)
  have hg0 : ∀ h : 0 < (bs s).size, (bs s)[0]'h = 45 := fun h => by rw [bs_at s 0 (by rw [hs]; simp) h, hs]; rfl
  have hsz0 : 0 < s.length := by rw [hs]; simp
  have hsz1 : (0 : Int) < (s.length : Int) := by omega
  have hsn : s ≠ [] := by rw [hs]; simp
  clear hs
  go_enter Tryd.func46, Tryd.ntmps46
  go_wp2
  go_loopw [4, 5] (fun xx ii wr => ∃ (i : Nat) (x : Int), 1 ≤ i ∧ i ≤ 1 + 3 ∧ xx = .int .i64 x ∧ ii = .int .i64 (i : Int) ∧ 0 ≤ x ∧ x < 10 ^ (i - 1) ∧ Hid (y = numF x ((s.drop i).take (1 + 3 - i))) ∧ wr = w) (fun _ ii _ => 1 + 3 - (intOf ii).toNat)
  case atStart => exact ⟨1, 0, Nat.le_refl _, by omega, rfl, rfl, Int.le_refl _, by decide, Y.out, rfl⟩
  case round =>
    obtain ⟨i, x, i0, i1, rfl, rfl, x0, x1, F, rfl⟩ := hrel
    have x2 : x < 1000 := by
      have : i - 1 = 0 ∨ i - 1 = 1 ∨ i - 1 = 2 ∨ i - 1 = 3 := by omega
      rcases this with h | h | h | h <;> rw [h] at x1 <;> simp at x1 <;> omega
    by_cases hi : i < s.length
    · by_cases h3 : i < 1 + 3
      · obtain ⟨d, hd⟩ : ∃ d, s.getD i 0 = d := ⟨_, rfl⟩
        have hg : ∀ h : i < (bs s).size, (bs s)[i]'h = d := fun h => by rw [bs_at s i hi h, hd]
        have F2 := F.out
        rw [show 1 + 3 - i = (1 + 3 - (i + 1)) + 1 by omega, take_more hi, hd] at F2
        have FF := hid_mk F2
        have hii : (i : Int) < (s.length : Int) := by omega
        have hi4 : (i : Int) < 1 + 3 := by omega
        have hdl : (d.toNat : Int) ≤ 255 := by have := d.toNat_lt; omega
        have hd0 : (0 : Int) ≤ (d.toNat : Int) := by omega
        clear F2
        by_cases hdd : d.toNat < 48 ∨ 57 < d.toNat
        · have hz : z = 0 := by
            rw [ZY.out, FF.out, numF_stop hdd]; rfl
          subst hz
          clear hd F FF ZY
          by_cases hlo : d.toNat < 48
          · have hm : (d.toNat : Int) < 48 := by omega
            generalize (d.toNat : Int) = m at hm hdl hd0
            go_wp2
            go_ret
            exact ⟨rfl, Below.refl _ _⟩
          · have hm : ¬ (d.toNat : Int) < 48 := by omega
            have hm2 : 57 < (d.toNat : Int) := by omega
            go_wp2
            go_ret
            exact ⟨rfl, Below.refl _ _⟩
        · have hm : ¬ (d.toNat : Int) < 48 := by omega
          have hm2 : ¬ 57 < (d.toNat : Int) := by omega
          have F3 : Hid (y = numF (10 * x + (d.toNat : Int) - 48) ((s.drop (i + 1)).take (1 + 3 - (i + 1)))) := by
            rw [FF.out, numF_step (by omega) (by omega)]
            exact hid_mk rfl
          have x3 : 10 * x + (d.toNat : Int) - 48 < 10 ^ (i + 1 - 1) := by
            have e : i + 1 - 1 = (i - 1) + 1 := by omega
            rw [e, Int.pow_succ]
            omega
          have x4 : 0 ≤ 10 * x + (d.toNat : Int) - 48 := by omega
          clear hd F FF hdd
          go_wp2
          go_roundw
          case rel => exact ⟨i + 1, 10 * x + (d.toNat : Int) - 48, by omega, by omega, by go_num, by go_num, x4, x3, F3.out, trivial⟩
          case measure => (simp [intOf]; omega)
      · have hz : y = some x := by
          rw [F.out, show 1 + 3 - i = 0 by omega]
          rfl
        subst hz
        have hi4 : ¬ (i : Int) < 1 + 3 := by omega
        have hii : (i : Int) < (s.length : Int) := by omega
        have hz : z = (if true = true then 0 - x else x) := ZY.out
        simp only [reduceIte] at hz
        subst hz
        clear ZY F
        go_wp2
        go_ret
        exact ⟨by go_num, Below.refl _ _⟩
    · have hz : y = some x := by
        rw [F.out, List.drop_eq_nil_of_le (by omega), List.take_nil]
        rfl
      subst hz
      have hii : ¬ (i : Int) < (s.length : Int) := by omega
      have hz : z = (if true = true then 0 - x else x) := ZY.out
      simp only [reduceIte] at hz
      subst hz
      clear ZY F
      go_wp2
      go_ret
      exact ⟨by go_num, Below.refl _ _⟩

set_option maxHeartbeats 4000000 in
theorem num_D (s : List UInt8) (hl : s.length ≤ 1048576) (r : List UInt8) (hs : s = 114 :: r) (w : World) :
    Calls Tryd.prog 46 #[.string (bs s)] w fun e w' => e = .returned (.int .i64 (numL s)) ∧ Below w.heap.size w w' := by
  obtain ⟨z, Z⟩ : ∃ z, Hid (z = numL s) := ⟨_, rfl⟩
  rw [← Z.out]
  have c0 : (ByteArray.mk #[]) = bs [] := rfl
  have hbl := bs_size s
  obtain ⟨y, Y⟩ : ∃ y, Hid (y = numF 0 ((s.drop 1).take 3)) := ⟨_, rfl⟩
  have ZY : Hid (z = numZ false y) := by
    rw [Z.out, Y.out]
    exact numL_by (by simp [hs]) (by simp [hs])
  clear Z
  have hb0 : ((bs s).toList == (bs []).toList) = false := ne_bs (by rw [hs]; simp)
  have hg0 : ∀ h : 0 < (bs s).size, (bs s)[0]'h = 114 := fun h => by rw [bs_at s 0 (by rw [hs]; simp) h, hs]; rfl
  have hsz0 : 0 < s.length := by rw [hs]; simp
  have hsz1 : (0 : Int) < (s.length : Int) := by omega
  have hsn : s ≠ [] := by rw [hs]; simp
  clear hs
  go_enter Tryd.func46, Tryd.ntmps46
  go_wp2
  go_loopw [4, 5] (fun xx ii wr => ∃ (i : Nat) (x : Int), 1 ≤ i ∧ i ≤ 1 + 3 ∧ xx = .int .i64 x ∧ ii = .int .i64 (i : Int) ∧ 0 ≤ x ∧ x < 10 ^ (i - 1) ∧ Hid (y = numF x ((s.drop i).take (1 + 3 - i))) ∧ wr = w) (fun _ ii _ => 1 + 3 - (intOf ii).toNat)
  case atStart => exact ⟨1, 0, Nat.le_refl _, by omega, rfl, rfl, Int.le_refl _, by decide, Y.out, rfl⟩
  case round =>
    obtain ⟨i, x, i0, i1, rfl, rfl, x0, x1, F, rfl⟩ := hrel
    have x2 : x < 1000 := by
      have : i - 1 = 0 ∨ i - 1 = 1 ∨ i - 1 = 2 ∨ i - 1 = 3 := by omega
      rcases this with h | h | h | h <;> rw [h] at x1 <;> simp at x1 <;> omega
    by_cases hi : i < s.length
    · by_cases h3 : i < 1 + 3
      · obtain ⟨d, hd⟩ : ∃ d, s.getD i 0 = d := ⟨_, rfl⟩
        have hg : ∀ h : i < (bs s).size, (bs s)[i]'h = d := fun h => by rw [bs_at s i hi h, hd]
        have F2 := F.out
        rw [show 1 + 3 - i = (1 + 3 - (i + 1)) + 1 by omega, take_more hi, hd] at F2
        have FF := hid_mk F2
        have hii : (i : Int) < (s.length : Int) := by omega
        have hi4 : (i : Int) < 1 + 3 := by omega
        have hdl : (d.toNat : Int) ≤ 255 := by have := d.toNat_lt; omega
        have hd0 : (0 : Int) ≤ (d.toNat : Int) := by omega
        clear F2
        by_cases hdd : d.toNat < 48 ∨ 57 < d.toNat
        · have hz : z = 0 := by
            rw [ZY.out, FF.out, numF_stop hdd]; rfl
          subst hz
          clear hd F FF ZY
          by_cases hlo : d.toNat < 48
          · have hm : (d.toNat : Int) < 48 := by omega
            generalize (d.toNat : Int) = m at hm hdl hd0
            go_wp2
            go_ret
            exact ⟨rfl, Below.refl _ _⟩
          · have hm : ¬ (d.toNat : Int) < 48 := by omega
            have hm2 : 57 < (d.toNat : Int) := by omega
            go_wp2
            go_ret
            exact ⟨rfl, Below.refl _ _⟩
        · have hm : ¬ (d.toNat : Int) < 48 := by omega
          have hm2 : ¬ 57 < (d.toNat : Int) := by omega
          have F3 : Hid (y = numF (10 * x + (d.toNat : Int) - 48) ((s.drop (i + 1)).take (1 + 3 - (i + 1)))) := by
            rw [FF.out, numF_step (by omega) (by omega)]
            exact hid_mk rfl
          have x3 : 10 * x + (d.toNat : Int) - 48 < 10 ^ (i + 1 - 1) := by
            have e : i + 1 - 1 = (i - 1) + 1 := by omega
            rw [e, Int.pow_succ]
            omega
          have x4 : 0 ≤ 10 * x + (d.toNat : Int) - 48 := by omega
          clear hd F FF hdd
          go_wp2
          go_roundw
          case rel => exact ⟨i + 1, 10 * x + (d.toNat : Int) - 48, by omega, by omega, by go_num, by go_num, x4, x3, F3.out, trivial⟩
          case measure => (simp [intOf]; omega)
      · have hz : y = some x := by
          rw [F.out, show 1 + 3 - i = 0 by omega]
          rfl
        subst hz
        have hi4 : ¬ (i : Int) < 1 + 3 := by omega
        have hii : (i : Int) < (s.length : Int) := by omega
        have hz : z = (if false = true then 0 - x else x) := ZY.out
        simp only [reduceIte, Bool.false_eq_true] at hz
        subst hz
        clear ZY F
        go_wp2
        go_ret
        exact ⟨by go_num, Below.refl _ _⟩
    · have hz : y = some x := by
        rw [F.out, List.drop_eq_nil_of_le (by omega), List.take_nil]
        rfl
      subst hz
      have hii : ¬ (i : Int) < (s.length : Int) := by omega
      have hz : z = (if false = true then 0 - x else x) := ZY.out
      simp only [reduceIte, Bool.false_eq_true] at hz
      subst hz
      clear ZY F
      go_wp2
      go_ret
      exact ⟨by go_num, Below.refl _ _⟩

theorem num_any (s : List UInt8) (hl : s.length ≤ 1048576) (w : World) :
    Calls Tryd.prog 46 #[.string (bs s)] w fun e w' => e = .returned (.int .i64 (numL s)) ∧ Below w.heap.size w w' := by
  cases hs : s with
  | nil => exact num_A [] (by simp) rfl w
  | cons c r =>
    rw [← hs]
    by_cases h1 : c = 45
    · exact num_C s hl r (by rw [hs, h1]) w
    by_cases h2 : c = 114
    · exact num_D s hl r (by rw [hs, h2]) w
    exact num_B s hl c r hs h1 h2 w
end Go.Proofs.YtdcghcbliajcpaaDoor
