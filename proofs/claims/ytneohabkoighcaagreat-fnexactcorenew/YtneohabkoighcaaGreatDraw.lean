/- How the laws draw: l1New, l1Byte, l1Below, l1Once, l1PickInt over a cursor in new memory: each returns, its number is in its range, nothing that was there turns but the cursor's own block. -/
import Derived.Test.YtneohabkoighcaaGreatRows
import Derived.WalkKit
import Derived.ProofKit
import Derived.OpenShut
import Derived.WalkSpells
import Derived.WalkLawsBesides
import Derived.Deep.QuietTactic
import Derived.BigQuiet
import Derived.Laws.Bits128
namespace Go.Proofs.YtneohabkoighcaaGreat
open Go.ChangeShapes Go.WideShapes Go.ChangeAt Go.RowKit

theorem i64_and255 (n : Int) : bits .and .i64 n 255 = n % 256 := by
  have h7 : (BitVec.ofInt 64 255).toNat = 2 ^ 8 - 1 := by decide
  have key : (BitVec.ofInt 64 n &&& BitVec.ofInt 64 255).toNat = (n % ((2 ^ 64 : Nat) : Int)).toNat % 2 ^ 8 := by
    rw [BitVec.toNat_and, BitVec.toNat_ofInt, h7, Nat.and_two_pow_sub_one_eq_mod]
  show IntKind.i64.wrap ((BitVec.ofInt 64 n &&& BitVec.ofInt 64 255).toNat : Nat) = n % 256
  rw [key, IntKind.wrap_i64]
  omega
theorem and255_lo (n : Int) : 0 ≤ bits .and .i64 n 255 := by rw [i64_and255]; omega
theorem and255_hi (n : Int) : bits .and .i64 n 255 ≤ 255 := by rw [i64_and255]; omega

/-- Of what was there in w nothing has turned in w' but block q. -/
structure KeepBut (q : Nat) (w w' : World) : Prop where
  os : w'.os = w.os
  tape : w'.tape = w.tape
  output : w'.output = w.output
  size : w.heap.size ≤ w'.heap.size
  block : ∀ k, k < w.heap.size → k ≠ q → w'.heap[k]? = w.heap[k]?

theorem KeepBut.refl (q : Nat) (w : World) : KeepBut q w w := ⟨rfl, rfl, rfl, Nat.le_refl _, fun _ _ _ => rfl⟩
theorem KeepBut.trans {q : Nat} {a b c : World} (h : KeepBut q a b) (g : KeepBut q b c) : KeepBut q a c :=
  ⟨g.os.trans h.os, g.tape.trans h.tape, g.output.trans h.output, Nat.le_trans h.size g.size, fun k hk hq => (g.block k (Nat.lt_of_lt_of_le hk h.size) hq).trans (h.block k hk hq)⟩
theorem KeepBut.drewN {q : Nat} {a w : World} (h : KeepBut q a w) (n : Nat) : KeepBut q a (w.drewN n) := h.trans ⟨rfl, rfl, rfl, Nat.le_refl _, fun _ _ _ => rfl⟩
theorem KeepBut.alloc {q : Nat} {a w : World} (h : KeepBut q a w) (o : Obj) : KeepBut q a (w.alloc o) := by
  have g := (Below.refl w.heap.size w).alloc (Nat.le_refl _) o
  exact h.trans ⟨g.os, g.tape, g.output, g.size, fun k hk _ => g.block k hk⟩
theorem KeepBut.setCell {q : Nat} {a w : World} (h : KeepBut q a w) (o : Nat) (v : Value) : KeepBut q a (w.setCell ⟨q, o, none⟩ v) := by
  have g := (Below.refl 0 w).setCell (p := ⟨q, o, none⟩) (Nat.zero_le _) v
  exact h.trans ⟨g.os, g.tape, g.output, g.size, fun k _ hq => Below.heap_setCell w _ v k hq⟩
theorem KeepBut.below {q B : Nat} {w w' : World} (h : KeepBut q w w') (hq : B ≤ q) (hB : B ≤ w.heap.size) : Below B w w' :=
  ⟨h.os, h.tape, h.output, h.size, fun k hk => h.block k (by omega) (by omega)⟩
theorem KeepBut.ofBelow {q : Nat} {w w' : World} (h : Below w.heap.size w w') : KeepBut q w w' := ⟨h.os, h.tape, h.output, h.size, fun k hk _ => h.block k hk⟩
theorem KeepBut.cell {q : Nat} {w w' : World} (h : KeepBut q w w') {p : Addr} (hp : p.block < w.heap.size) (hq : p.block ≠ q) : w'.cell? p = w.cell? p := World.cell?_of_block (w := w) (h.block p.block hp hq)

/-- The bytes that came in, in blocks below B. -/
def Code8 (B : Nat) (w : World) (a : Option Addr) (len : Nat) : Prop :=
  len ≤ maxLen ∧ (len = 0 ∨ ∃ b off, a = some ⟨b, off, none⟩ ∧ b < B ∧ ∀ i, i < len → ∃ n : Int, 0 ≤ n ∧ n ≤ 255 ∧ w.cell? ⟨b, off + i, none⟩ = some (.int .u8 n))
theorem Code8.keep {B : Nat} {w w' : World} {a : Option Addr} {len : Nat} (h : Code8 B w a len) (hb : Below B w w') : Code8 B w' a len := by
  refine ⟨h.1, ?_⟩
  rcases h.2 with h0 | ⟨b, off, ha, hlt, hc⟩
  · exact .inl h0
  · refine .inr ⟨b, off, ha, hlt, fun i hi => ?_⟩
    obtain ⟨n, h0, h1, hn⟩ := hc i hi
    exact ⟨n, h0, h1, (hb.cell (p := ⟨b, off + i, none⟩) hlt).trans hn⟩

/-- The cursor in block q. -/
def Cur (w : World) (q : Nat) (a : Option Addr) (len cap : Nat) : Prop :=
  ∃ i h : Int, 0 ≤ i ∧ w.cell? ⟨q, 0, none⟩ = some (.slice a len cap) ∧ w.cell? ⟨q, 1, none⟩ = some (.int .i64 i) ∧ w.cell? ⟨q, 2, none⟩ = some (.int .i64 h) ∧
    w.frozen? ⟨q, 1, none⟩ = false ∧ w.frozen? ⟨q, 2, none⟩ = false

set_option maxHeartbeats 1000000 in
theorem byte_any (B : Nat) (q : Nat) (a : Option Addr) (len cap : Nat) (w : World) (hc : Code8 B w a len) (hq : B ≤ q) (hu : Cur w q a len cap) :
    Calls Tryz.prog 99 #[.pointer (some ⟨q, 0, none⟩)] w fun e w' => ∃ x : Int, e = .returned (.int .i64 x) ∧ 0 ≤ x ∧ x ≤ 255 ∧ Cur w' q a len cap ∧ KeepBut q w w' := by
  obtain ⟨i, h, hi, c0, c1, c2, f1, f2⟩ := hu
  have hlen := hc.1
  unfold maxLen at hlen
  by_cases hlt : i < len
  · obtain ⟨b, off, rfl, hb, hcell⟩ : ∃ b off, a = some ⟨b, off, none⟩ ∧ b < B ∧ ∀ i, i < len → ∃ n : Int, 0 ≤ n ∧ n ≤ 255 ∧ w.cell? ⟨b, off + i, none⟩ = some (.int .u8 n) := by
      rcases hc.2 with h0 | h0
      · omega
      · exact h0
    obtain ⟨n, n0, n1, hn⟩ := hcell i.toNat (by omega)
    have hbq : (b == q) = false := by simp; omega
    have hne : b ≠ q := by omega
    clear hcell hc
    go_enter Tryz.func99, Tryz.ntmps99
    go_wp2
    go_quiet (fail)
    go_wp2
    go_quiet (fail)
    go_wp2
    go_quiet (fail)
    go_wp2
    go_ret
    refine ⟨_, rfl, and255_lo _, and255_hi _, ⟨i + 1, wrap64 (wrap64 (h * 6364136223846793005) + 1442695040888963407), by omega, by go_simp, by go_simp, by go_simp, by go_simp, by go_simp⟩, ?_⟩
    repeat (first | exact KeepBut.refl _ _ | apply KeepBut.drewN | apply KeepBut.setCell)
  · clear hc
    go_enter Tryz.func99, Tryz.ntmps99
    go_wp2
    go_quiet (fail)
    go_wp2
    go_quiet (fail)
    go_wp2
    go_ret
    refine ⟨_, rfl, and255_lo _, and255_hi _, ⟨i, wrap64 (wrap64 (h * 6364136223846793005) + 1442695040888963407), by omega, by go_simp, by go_simp, by go_simp, by go_simp, by go_simp⟩, ?_⟩
    repeat (first | exact KeepBut.refl _ _ | apply KeepBut.drewN | apply KeepBut.setCell)

set_option maxHeartbeats 1000000 in
theorem below_any (n : Int) (B : Nat) (q : Nat) (a : Option Addr) (len cap : Nat) (w : World) (hc : Code8 B w a len) (hq : B ≤ q) (hw : B ≤ w.heap.size) (hu : Cur w q a len cap) :
    Calls Tryz.prog 70 #[.pointer (some ⟨q, 0, none⟩), .int .i64 n] w fun e w' => ∃ x : Int, e = .returned (.int .i64 x) ∧ (n ≤ 0 → x = 0) ∧ (0 < n → 0 ≤ x ∧ x < n) ∧ Cur w' q a len cap ∧ KeepBut q w w' := by
  have C : Hid (Code8 B w a len) := hc
  have U : Hid (Cur w q a len cap) := hu
  clear hc hu
  by_cases h0 : n ≤ 0
  · go_enter Tryz.func70, Tryz.ntmps70
    go_wp2
    go_ret
    exact ⟨0, rfl, fun _ => rfl, fun h => absurd h (by omega), U.out, KeepBut.refl _ _⟩
  · by_cases h1 : n ≤ 256
    · go_enter Tryz.func70, Tryz.ntmps70
      go_wp2_with fail
      refine (byte_any B q a len cap _ C.out hq U.out).mono ?_
      rintro e w1 ⟨x, rfl, x0, x1, u1, k1⟩
      have U1 : Hid _ := u1
      have K1 : Hid _ := k1
      clear u1 k1
      go_wp2
      go_ret
      exact ⟨_, rfl, fun h => absurd h (by omega), fun _ => ⟨Int.emod_nonneg _ (by omega), Int.emod_lt_of_pos _ (by omega)⟩, U1.out, K1.out⟩
    · go_enter Tryz.func70, Tryz.ntmps70
      go_wp2_with fail
      refine (byte_any B q a len cap _ C.out hq U.out).mono ?_
      rintro e w1 ⟨x, rfl, x0, x1, u1, k1⟩
      have C1 : Hid (Code8 B w1 a len) := C.out.keep (k1.below hq hw)
      have U1 : Hid _ := u1
      have K1 : Hid _ := k1
      have z1 := k1.size
      clear u1 k1 C U
      go_wp2_with fail
      refine (byte_any B q a len cap _ C1.out hq U1.out).mono ?_
      rintro e w2 ⟨y, rfl, y0, y1, u2, k2⟩
      have C2 : Hid (Code8 B w2 a len) := C1.out.keep (k2.below hq (by omega))
      have U2 : Hid _ := u2
      have K2 : Hid _ := K1.out.trans k2
      have z2 := k2.size
      clear u2 k2 C1 U1 K1
      go_wp2_with fail
      refine (byte_any B q a len cap _ C2.out hq U2.out).mono ?_
      rintro e w3 ⟨z, rfl, z0, z1, u3, k3⟩
      have C3 : Hid (Code8 B w3 a len) := C2.out.keep (k3.below hq (by omega))
      have U3 : Hid _ := u3
      have K3 : Hid _ := K2.out.trans k3
      have z3 := k3.size
      clear u3 k3 C2 U2 K2
      go_wp2_with fail
      refine (byte_any B q a len cap _ C3.out hq U3.out).mono ?_
      rintro e w4 ⟨v, rfl, v0, v1, u4, k4⟩
      have U4 : Hid _ := u4
      have K4 : Hid _ := K3.out.trans k4
      clear u4 k4 C3 U3 K3
      go_wp2
      go_ret
      exact ⟨_, rfl, fun h => absurd h (by omega), fun _ => ⟨Int.emod_nonneg _ (by omega), Int.emod_lt_of_pos _ (by omega)⟩, U4.out, K4.out⟩

set_option maxHeartbeats 400000 in
theorem once_any (n : Int) (B : Nat) (q : Nat) (a : Option Addr) (len cap : Nat) (w : World) (hc : Code8 B w a len) (hq : B ≤ q) (hw : B ≤ w.heap.size) (hu : Cur w q a len cap) :
    Calls Tryz.prog 108 #[.pointer (some ⟨q, 0, none⟩), .int .i64 n] w fun e w' => ∃ x : Bool, e = .returned (.bool x) ∧ Cur w' q a len cap ∧ KeepBut q w w' := by
  have C : Hid (Code8 B w a len) := hc
  have U : Hid (Cur w q a len cap) := hu
  clear hc hu
  go_enter Tryz.func108, Tryz.ntmps108
  go_wp2_with fail
  refine (below_any n B q a len cap _ C.out hq hw U.out).mono ?_
  rintro e w1 ⟨x, rfl, x0, x1, u1, k1⟩
  have U1 : Hid _ := u1
  have K1 : Hid _ := k1
  clear u1 k1 x0 x1
  go_wp2
  go_ret
  exact ⟨_, rfl, U1.out, K1.out⟩

/-- A number of a list of ints, each of which has P, has P. -/
theorem pick_any (P : Int → Prop) (r m c : Nat) (B : Nat) (q : Nat) (a : Option Addr) (len cap : Nat) (w : World) (hc : Code8 B w a len) (hq : B ≤ q) (hw : B ≤ w.heap.size) (hu : Cur w q a len cap)
    (hm : 0 < m) (hM : m ≤ 1000) (hr : r < w.heap.size) (hrq : r ≠ q) (hl : ∀ i, i < m → ∃ v : Int, P v ∧ w.cell? ⟨r, i, none⟩ = some (.int .i64 v)) :
    Calls Tryz.prog 77 #[.pointer (some ⟨q, 0, none⟩), .slice (some ⟨r, 0, none⟩) m c] w fun e w' => ∃ x : Int, e = .returned (.int .i64 x) ∧ P x ∧ Cur w' q a len cap ∧ KeepBut q w w' := by
  have C : Hid (Code8 B w a len) := hc
  have U : Hid (Cur w q a len cap) := hu
  have HL : Hid _ := hl
  clear hc hu hl
  go_enter Tryz.func77, Tryz.ntmps77
  go_wp2_with fail
  refine (below_any m B q a len cap _ C.out hq hw U.out).mono ?_
  rintro e w1 ⟨x, rfl, x0, x1, u1, k1⟩
  obtain ⟨i0, i1⟩ := x1 (by omega)
  obtain ⟨k, rfl⟩ : ∃ k : Nat, x = k := ⟨x.toNat, by omega⟩
  obtain ⟨v, pv, hv⟩ := HL.out k (by omega)
  have hv1 := (k1.cell (p := ⟨r, k, none⟩) hr hrq).trans hv
  have U1 : Hid _ := u1
  have K1 : Hid _ := k1
  have PV : Hid _ := pv
  clear u1 k1 x0 x1 hv pv HL C U
  go_wp2
  go_ret
  exact ⟨_, rfl, PV.out, U1.out, K1.out⟩

set_option maxRecDepth 100000 in
set_option maxHeartbeats 1000000 in
theorem new_any (a : Option Addr) (len cap : Nat) (w : World) (hc : Code8 w.heap.size w a len) :
    Calls Tryz.prog 37 #[.slice a len cap] w fun e w' => e = .returned (.pointer (some ⟨w.heap.size, 0, none⟩)) ∧ Cur w' w.heap.size a len cap ∧ Below w.heap.size w w' ∧ w.heap.size < w'.heap.size := by
  obtain ⟨hlen, hc⟩ := hc
  unfold maxLen at hlen
  have C : Hid _ := hc
  clear hc
  go_enter Tryz.func37, Tryz.ntmps37
  go_wp2
  go_loop [3, 4] (fun h i => ∃ (x : Int) (k : Nat), k ≤ len ∧ i = .int .i64 k ∧ h = .int .i64 x) (fun _ i => len - (intOf i).toNat)
  case atStart => exact ⟨_, 0, Nat.zero_le _, rfl, rfl⟩
  case round =>
    obtain ⟨x, k, hk, rfl, rfl⟩ := hrel
    by_cases hlt : k < len
    · by_cases h4 : k < 4000
      · obtain ⟨b, off, rfl, hb, hcell⟩ : ∃ b off, a = some ⟨b, off, none⟩ ∧ b < w.heap.size ∧ ∀ i, i < len → ∃ n : Int, 0 ≤ n ∧ n ≤ 255 ∧ w.cell? ⟨b, off + i, none⟩ = some (.int .u8 n) := by
          rcases C.out with h0 | h0
          · omega
          · exact h0
        obtain ⟨n, n0, n1, hn⟩ := hcell k hlt
        clear hcell C
        go_wp2
        go_round
        case rel => exact ⟨_, k + 1, by omega, by go_num, rfl⟩
        case measure => simp [intOf]; omega
      · clear C
        go_wp2
        go_ret
        exact ⟨by simp, ⟨0, x, by omega, by simp, by simp, by simp, by simp, by simp⟩, (Below.refl _ _).alloc (Nat.le_refl _) _, by simp⟩
    · clear C
      go_wp2
      go_ret
      exact ⟨by simp, ⟨0, x, by omega, by simp, by simp, by simp, by simp, by simp⟩, (Below.refl _ _).alloc (Nat.le_refl _) _, by simp⟩
end Go.Proofs.YtneohabkoighcaaGreat
