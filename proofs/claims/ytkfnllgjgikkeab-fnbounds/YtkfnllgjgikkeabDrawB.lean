/- The draws of chapter 1: each returns two numbers, or a Packed, and turns nothing that was there. -/
import Derived.Test.YtkfnllgjgikkeabDraw2
import Derived.Test.YtkfnllgjgikkeabWideX
namespace Go.Proofs.Ytkfnllgjgikkeab
open Go.ChangeShapes Go.WideShapes Go.ChangeAt Go.RowKit

theorem Code8.up {B B' : Nat} {w : World} {a : Option Addr} {len : Nat} (h : Code8 B w a len) (hB : B ≤ B') : Code8 B' w a len := by
  refine ⟨h.1, ?_⟩
  rcases h.2 with h0 | ⟨b, off, ha, hlt, hc⟩
  · exact .inl h0
  · exact .inr ⟨b, off, ha, by omega, hc⟩
theorem Code8.later {w w' : World} {a : Option Addr} {len : Nat} (h : Code8 w.heap.size w a len) (hb : Below w.heap.size w w') : Code8 w'.heap.size w' a len := (h.keep hb).up hb.size

theorem Drawn.to {w w1 w2 : World} {a : Option Addr} {len cap : Nat} (_d : Drawn w.heap.size w.heap.size w1 a len cap) (hb : Below w.heap.size w w1) (k : KeepBut w.heap.size w1 w2) : Below w.heap.size w w2 :=
  hb.trans (k.below (Nat.le_refl _) hb.size)

set_option maxRecDepth 100000 in
set_option maxHeartbeats 1000000 in
theorem d_addr {B q : Nat} {w : World} {a : Option Addr} {len cap : Nat} (d : Drawn B q w a len cap) :
    Calls Try.prog 28 #[.pointer (some ⟨q, 0, none⟩)] w fun e w' => ∃ x : Int, e = .returned (.int .i64 x) ∧ -1 ≤ x ∧ x ≤ 4097 ∧ Drawn B q w' a len cap ∧ KeepBut q w w' := by
  have D : Hid _ := d
  clear d
  go_enter Try.func28, Try.ntmps28
  go_wp2_with fail
  refine (d_pick [0, 1, 5, 31, 32, 62, 63, 64, 65, 127, 128, 1000, 4000, 4032, 4095, 4096, 4097, -1] 3 _ _ rfl (by decide) (by decide) D.out).mono ?_
  rintro e w1 ⟨x, rfl, hx, d1, k1⟩
  have D1 : Hid _ := d1
  have K1 : Hid _ := k1
  have hx' : -1 ≤ x ∧ x ≤ 4097 := by simp at hx; omega
  clear d1 k1 D hx
  go_wp2
  go_ret
  exact ⟨x, rfl, hx'.1, hx'.2, D1.out, K1.out⟩

set_option maxRecDepth 100000 in
set_option maxHeartbeats 1000000 in
theorem drawBounds_any {w : World} {a : Option Addr} {len cap : Nat} (hc : Code8 w.heap.size w a len) :
    Calls Try.prog 20 #[.slice a len cap] w fun e w' => ∃ x y : Int, e = .returned (.tuple #[.int .i64 x, .int .i64 y]) ∧ -1 ≤ x ∧ x ≤ 4097 ∧ -1 ≤ y ∧ y ≤ 8193 ∧ Below w.heap.size w w' := by
  have C : Hid _ := hc
  clear hc
  go_enter Try.func20, Try.ntmps20
  go_wp2_with fail
  refine (d_new C.out).mono ?_
  rintro e w1 ⟨rfl, d1, b1⟩
  have D1 : Hid _ := d1
  have B1 : Hid _ := b1
  clear d1 b1
  go_wp2_with fail
  refine (d_addr D1.out).mono ?_
  rintro e w2 ⟨x, rfl, x0, x1, d2, k2⟩
  have D2 : Hid _ := d2
  have B2 : Hid _ := D1.out.to B1.out k2
  clear d2 k2 D1 B1
  go_wp2_with fail
  refine (d_once 3 D2.out).mono ?_
  rintro e w3 ⟨o, rfl, d3, k3⟩
  have D3 : Hid _ := d3
  have B3 : Hid _ := D2.out.to B2.out k3
  clear d3 k3 D2 B2
  cases o
  · go_wp2_with fail
    refine (d_pick [0, 1, 7, 63, 64, 100, 500, 4096] 3 _ _ rfl (by decide) (by decide) D3.out).mono ?_
    rintro e w4 ⟨y, rfl, hy, d4, k4⟩
    have B4 : Hid _ := D3.out.to B3.out k4
    have hy' : 0 ≤ y ∧ y ≤ 4096 := by simp at hy; omega
    clear d4 k4 D3 B3 hy
    obtain ⟨y0, y1⟩ := hy'
    go_wp2
    go_ret2
    exact ⟨x, _, rfl, x0, x1, by omega, by omega, B4.out⟩
  · go_wp2_with fail
    refine (d_addr D3.out).mono ?_
    rintro e w4 ⟨y, rfl, y0, y1, d4, k4⟩
    have B4 : Hid _ := D3.out.to B3.out k4
    clear d4 k4 D3 B3
    go_wp2
    go_ret2
    exact ⟨x, y, rfl, x0, x1, y0, by omega, B4.out⟩

set_option maxHeartbeats 400000 in
theorem drawPack_any {w : World} {a : Option Addr} {len cap : Nat} (hc : Code8 w.heap.size w a len) :
    Calls Try.prog 5 #[.slice a len cap] w fun e w' => ∃ x y : Int, e = .returned (.tuple #[.int .i64 x, .int .i64 y]) ∧ -1 ≤ x ∧ x ≤ 4097 ∧ -1 ≤ y ∧ y ≤ 8193 ∧ Below w.heap.size w w' := by
  have C : Hid _ := hc
  clear hc
  go_enter Try.func5, Try.ntmps5
  go_wp2_with fail
  refine (drawBounds_any C.out).mono ?_
  rintro e w1 ⟨x, y, rfl, x0, x1, y0, y1, b1⟩
  go_wp2
  go_ret2
  exact ⟨x, y, rfl, x0, x1, y0, y1, b1⟩
set_option maxHeartbeats 400000 in
theorem drawWide_any {w : World} {a : Option Addr} {len cap : Nat} (hc : Code8 w.heap.size w a len) :
    Calls Try.prog 10 #[.slice a len cap] w fun e w' => ∃ x y : Int, e = .returned (.tuple #[.int .i64 x, .int .i64 y]) ∧ -1 ≤ x ∧ x ≤ 4097 ∧ -1 ≤ y ∧ y ≤ 8193 ∧ Below w.heap.size w w' := by
  have C : Hid _ := hc
  clear hc
  go_enter Try.func10, Try.ntmps10
  go_wp2_with fail
  refine (drawBounds_any C.out).mono ?_
  rintro e w1 ⟨x, y, rfl, x0, x1, y0, y1, b1⟩
  go_wp2
  go_ret2
  exact ⟨x, y, rfl, x0, x1, y0, y1, b1⟩
set_option maxHeartbeats 400000 in
theorem drawBoundsOk_any {w : World} {a : Option Addr} {len cap : Nat} (hc : Code8 w.heap.size w a len) :
    Calls Try.prog 14 #[.slice a len cap] w fun e w' => ∃ x y : Int, e = .returned (.tuple #[.int .i64 x, .int .i64 y]) ∧ Below w.heap.size w w' := by
  have C : Hid _ := hc
  clear hc
  go_enter Try.func14, Try.ntmps14
  go_wp2_with fail
  refine (drawBounds_any C.out).mono ?_
  rintro e w1 ⟨x, y, rfl, x0, x1, y0, y1, b1⟩
  go_wp2
  go_ret2
  exact ⟨x, y, rfl, b1⟩

set_option maxHeartbeats 1000000 in
theorem drawExact_any {w : World} {a : Option Addr} {len cap : Nat} (hc : Code8 w.heap.size w a len) :
    Calls Try.prog 13 #[.slice a len cap] w fun e w' => ∃ x y : Int, e = .returned (.tuple #[.int .i64 x, .int .i64 y]) ∧ Below w.heap.size w w' := by
  have C : Hid (Code8 w.heap.size w a len) := hc
  clear hc
  go_enter Try.func13, Try.ntmps13
  go_wp2_with fail
  refine (drawBounds_any C.out).mono ?_
  rintro e w1 ⟨x, y, rfl, x0, x1, y0, y1, b1⟩
  have B1 : Hid _ := b1
  have z1 := b1.size
  clear b1 x0 x1 y0 y1
  go_wp2_with fail
  refine (d_new (Code8.later C.out B1.out)).mono ?_
  rintro e w2 ⟨rfl, d2, b2⟩
  have D2 : Hid _ := d2
  have B2 : Hid _ := b2
  clear d2 b2
  go_wp2_with fail
  refine (d_below 2 D2.out).mono ?_
  rintro e w3 ⟨o, rfl, _, o1, d3, k3⟩
  have B3 : Hid (Below w.heap.size w w3) := B1.out.trans ((D2.out.to B2.out k3).mono z1)
  have z3 := B3.out.size
  clear d3 k3 D2 B2 o1
  cases g : (o == 0)
  · go_wp2
    go_ret2
    exact ⟨x, y, rfl, B3.out⟩
  · go_wp2_with fail
    refine (specWide_any x y _).mono ?_
    rintro e w4 ⟨rfl, b4⟩
    have B4 : Hid (Below w.heap.size w w4) := B3.out.trans (b4.mono z3)
    clear b4
    go_wp2
    go_ret2
    exact ⟨_, _, rfl, B4.out⟩
end Go.Proofs.Ytkfnllgjgikkeab
