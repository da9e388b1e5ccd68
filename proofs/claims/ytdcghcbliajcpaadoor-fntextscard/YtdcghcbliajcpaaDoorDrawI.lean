/- A place that is being drawn, in a block of the call's own, while a cursor is moved: what is kept. -/
import Derived.Test.YtdcghcbliajcpaaDoorInsK
namespace Go.Proofs.YtdcghcbliajcpaaDoor
open Go.ChangeShapes Go.WideShapes Go.ChangeAt Go.RowKit

/-- A place that is being drawn: in block k some five ints; the cursor in q; the call's own result still zero in block u; of what was there in w0 nothing has turned but the cursor. -/
structure MakeI (w0 : World) (B q k u : Nat) (ad : Option Addr) (len cap : Nat) (o r a b n : Int) (w : World) : Prop where
  f : Five w k o r a b n
  z : Five w u 0 0 0 0 0
  d : Drawn B q w ad len cap
  kb : KeepBut q w0 w
  ku : k ≠ u
  kq : k ≠ q
  uq : u ≠ q
  kB : B ≤ k
  nk : w0.heap.size ≤ k
  nu : w0.heap.size ≤ u

section
variable {w0 w w' : World} {B q k u : Nat} {ad : Option Addr} {len cap : Nat} {o r a b n : Int}
/-- Behind a draw. -/
theorem MakeI.moved (h : MakeI w0 B q k u ad len cap o r a b n w) (d : Drawn B q w' ad len cap) (g : KeepBut q w w') : MakeI w0 B q k u ad len cap o r a b n w' :=
  ⟨h.f.keep g h.kq, h.z.keep g h.uq, d, h.kb.trans g, h.ku, h.kq, h.uq, h.kB, h.nk, h.nu⟩
theorem MakeI.drew (h : MakeI w0 B q k u ad len cap o r a b n w) : MakeI w0 B q k u ad len cap o r a b n w.drew := h.moved h.d.drew (KeepBut.refl _ _).drew
theorem MakeI.below (h : MakeI w0 B q k u ad len cap o r a b n w) (hb : Below w.heap.size w w') : MakeI w0 B q k u ad len cap o r a b n w' := h.moved (h.d.below hb) (KeepBut.ofBelow hb)
theorem MakeI.set0 (h : MakeI w0 B q k u ad len cap o r a b n w) (m : Int) : MakeI w0 B q k u ad len cap m r a b n (w.setCell ⟨k, 0, none⟩ (.int .i64 m)) :=
  ⟨h.f.set0 m, h.z.other h.ku.symm _ _, h.d.setNew h.kq h.kB _ _, h.kb.setNew h.nk _ _, h.ku, h.kq, h.uq, h.kB, h.nk, h.nu⟩
theorem MakeI.set1 (h : MakeI w0 B q k u ad len cap o r a b n w) (m : Int) : MakeI w0 B q k u ad len cap o m a b n (w.setCell ⟨k, 1, none⟩ (.int .i64 m)) :=
  ⟨h.f.set1 m, h.z.other h.ku.symm _ _, h.d.setNew h.kq h.kB _ _, h.kb.setNew h.nk _ _, h.ku, h.kq, h.uq, h.kB, h.nk, h.nu⟩
theorem MakeI.set2 (h : MakeI w0 B q k u ad len cap o r a b n w) (m : Int) : MakeI w0 B q k u ad len cap o r m b n (w.setCell ⟨k, 2, none⟩ (.int .i64 m)) :=
  ⟨h.f.set2 m, h.z.other h.ku.symm _ _, h.d.setNew h.kq h.kB _ _, h.kb.setNew h.nk _ _, h.ku, h.kq, h.uq, h.kB, h.nk, h.nu⟩
theorem MakeI.set3 (h : MakeI w0 B q k u ad len cap o r a b n w) (m : Int) : MakeI w0 B q k u ad len cap o r a m n (w.setCell ⟨k, 3, none⟩ (.int .i64 m)) :=
  ⟨h.f.set3 m, h.z.other h.ku.symm _ _, h.d.setNew h.kq h.kB _ _, h.kb.setNew h.nk _ _, h.ku, h.kq, h.uq, h.kB, h.nk, h.nu⟩
theorem MakeI.set4 (h : MakeI w0 B q k u ad len cap o r a b n w) (m : Int) : MakeI w0 B q k u ad len cap o r a b m (w.setCell ⟨k, 4, none⟩ (.int .i64 m)) :=
  ⟨h.f.set4 m, h.z.other h.ku.symm _ _, h.d.setNew h.kq h.kB _ _, h.kb.setNew h.nk _ _, h.ku, h.kq, h.uq, h.kB, h.nk, h.nu⟩
/-- All five are written. -/
theorem MakeI.setAll (h : MakeI w0 B q k u ad len cap o r a b n w) (o' r' a' b' n' : Int) :
    MakeI w0 B q k u ad len cap o' r' a' b' n' (((((w.setCell ⟨k, 0, none⟩ (.int .i64 o')).setCell ⟨k, 1, none⟩ (.int .i64 r')).setCell ⟨k, 2, none⟩ (.int .i64 a')).setCell ⟨k, 3, none⟩ (.int .i64 b')).setCell ⟨k, 4, none⟩ (.int .i64 n')) :=
  ((((h.set0 o').set1 r').set2 a').set3 b').set4 n'
/-- The answer is written. -/
theorem MakeI.doneD (h : MakeI w0 B q k u ad len cap o r a b n w) (hB : B ≤ u) (o' r' a' b' n' : Int) :
    Drawn B q (((((w.setCell ⟨u, 0, none⟩ (.int .i64 o')).setCell ⟨u, 1, none⟩ (.int .i64 r')).setCell ⟨u, 2, none⟩ (.int .i64 a')).setCell ⟨u, 3, none⟩ (.int .i64 b')).setCell ⟨u, 4, none⟩ (.int .i64 n')) ad len cap :=
  ((((h.d.setNew h.uq hB _ _).setNew h.uq hB _ _).setNew h.uq hB _ _).setNew h.uq hB _ _).setNew h.uq hB _ _
theorem MakeI.doneK (h : MakeI w0 B q k u ad len cap o r a b n w) (o' r' a' b' n' : Int) :
    KeepBut q w0 (((((w.setCell ⟨u, 0, none⟩ (.int .i64 o')).setCell ⟨u, 1, none⟩ (.int .i64 r')).setCell ⟨u, 2, none⟩ (.int .i64 a')).setCell ⟨u, 3, none⟩ (.int .i64 b')).setCell ⟨u, 4, none⟩ (.int .i64 n')) :=
  ((((h.kb.setNew h.nu _ _).setNew h.nu _ _).setNew h.nu _ _).setNew h.nu _ _).setNew h.nu _ _
end

/-- The call's own result, still zero, in block u, beside the cursor in q. -/
structure ZI (w0 : World) (B q u : Nat) (ad : Option Addr) (len cap : Nat) (w : World) : Prop where
  z : Five w u 0 0 0 0 0
  d : Drawn B q w ad len cap
  kb : KeepBut q w0 w
  uq : u ≠ q
  nu : w0.heap.size ≤ u
section
variable {w0 w w' : World} {B q k u : Nat} {ad : Option Addr} {len cap : Nat}
theorem ZI.moved (h : ZI w0 B q u ad len cap w) (d : Drawn B q w' ad len cap) (g : KeepBut q w w') : ZI w0 B q u ad len cap w' := ⟨h.z.keep g h.uq, d, h.kb.trans g, h.uq, h.nu⟩
theorem ZI.make (h : ZI w0 B q u ad len cap w) (o r a b n : Int) (T : TypeId) : MakeI w0 B q w.heap.size u ad len cap o r a b n (w.alloc (.cells #[.int .i64 o, .int .i64 r, .int .i64 a, .int .i64 b, .int .i64 n] T)) :=
  ⟨Five.new _ _ _ _ _ _ _, h.z.alloc _, h.d.alloc _, h.kb.alloc _, Nat.ne_of_gt h.z.lt, Nat.ne_of_gt h.d.lt, h.uq, h.d.base, h.kb.size, h.nu⟩
end
theorem ZI.new {w : World} {B q : Nat} {ad : Option Addr} {len cap : Nat} (d : Drawn B q w ad len cap) (T : TypeId) : ZI w B q w.heap.size ad len cap (w.alloc (.cells #[.int .i64 0, .int .i64 0, .int .i64 0, .int .i64 0, .int .i64 0] T)) :=
  ⟨Five.new _ _ _ _ _ _ _, d.alloc _, (KeepBut.refl _ _).alloc _, Nat.ne_of_gt d.lt, Nat.le_refl _⟩

set_option maxRecDepth 100000 in
set_option maxHeartbeats 4000000 in
/-- l6DrawIns: some place, and nothing that was there turned but the cursor. -/
theorem d_ins {B q : Nat} {w : World} {ad : Option Addr} {len cap : Nat} (d : Drawn B q w ad len cap) :
    Calls Tryd.prog 44 #[.pointer (some ⟨q, 0, none⟩)] w fun e w' => ∃ o r a b n : Int, e = .returned (.agg #[.int .i64 o, .int .i64 r, .int .i64 a, .int .i64 b, .int .i64 n]) ∧ Drawn B q w' ad len cap ∧ KeepBut q w w' := by
  have D : Hid _ := d
  have lq := d.lt
  have lB := d.base
  clear d
  go_enter Tryd.func44, Tryd.ntmps44
  have Z0 := hid_mk (ZI.new D.out 25)
  clear D
  go_wp2_with fail
  refine (d_below 4 Z0.out.d).mono ?_
  rintro e w1 ⟨x1, rfl, _, hx1, d1, k1⟩
  obtain ⟨x10, x11⟩ := hx1 (by omega)
  have Z1 := hid_mk (Z0.out.moved d1 k1)
  clear d1 k1 hx1 Z0
  go_wp2_with fail
  refine (d_below 4 Z1.out.d).mono ?_
  rintro e w2 ⟨x2, rfl, _, _, d2, k2⟩
  have Z2 := hid_mk (Z1.out.moved d2 k2)
  clear d2 k2 Z1
  go_wp2_with fail
  refine (d_below 4 Z2.out.d).mono ?_
  rintro e w3 ⟨x3, rfl, _, _, d3, k3⟩
  have Z3 := hid_mk (Z2.out.moved d3 k3)
  clear d3 k3 Z2
  go_wp2_with fail
  refine (d_pick [0, 0, 1, 2, 3, -1, 20] 3 _ _ rfl (by decide) (by decide) Z3.out.d).mono ?_
  rintro e w4 ⟨x4, rfl, _, d4, k4⟩
  have Z4 := hid_mk (Z3.out.moved d4 k4)
  clear d4 k4 Z3
  go_wp2_with fail
  refine (d_pick [1, 1, 1, 2, 3, 4, 5, 5, 6, 6, 7, 8, 9, 10, 10, 10, 11, 11, 11, 12, 13, 13, 14, 15] 3 _ _ rfl (by decide) (by decide) Z4.out.d).mono ?_
  rintro e w5 ⟨x5, rfl, _, d5, k5⟩
  have Z5 := hid_mk (Z4.out.moved d5 k5)
  clear d5 k5 Z4
  have M := hid_mk (Z5.out.make x5 0 0 0 0 25)
  clear Z5
  go_wp2_with fail
  refine (has_any x5 _).mono ?_
  generalize hasZ x5 = h
  rintro e w6 ⟨rfl, hb6⟩
  have M := hid_mk (M.out.below hb6)
  clear hb6
  obtain ⟨k, hk⟩ : ∃ k, k = w5.heap.size := ⟨_, rfl⟩
  rw [← hk] at M ⊢
  clear hk
  go_upto_if 28 with fail
  go_cut [] (fun wx => ∃ o r a b n : Int, Hid (MakeI w B q k w.heap.size ad len cap o r a b n wx))
  case first =>
    obtain ⟨_, c0, c1, c2, c3, c4, f0, f1, f2, f3, f4⟩ := M.out.f
    cases g0 : (bits .and .i64 h 1 != 0)
    · go_wp2
      go_meet
      case rel => exact ⟨_, _, _, _, _, M.out⟩
    · go_wp2
      go_meet
      case rel => exact ⟨_, _, _, _, _, M.out.set1 _⟩
  case rest =>
    clear M
    obtain ⟨o, r, a, b, n, M⟩ := hcut
    go_upto_if 33 with fail
    go_cut [] (fun wx => ∃ o r a b n : Int, Hid (MakeI w B q k w.heap.size ad len cap o r a b n wx))
    case first =>
      obtain ⟨_, c0, c1, c2, c3, c4, f0, f1, f2, f3, f4⟩ := M.out.f
      cases g0 : (bits .and .i64 h 2 != 0)
      · go_wp2
        go_meet
        case rel => exact ⟨_, _, _, _, _, M.out⟩
      · go_wp2
        go_meet
        case rel => exact ⟨_, _, _, _, _, M.out.set2 _⟩
    case rest =>
      clear M
      obtain ⟨o, r, a, b, n, M⟩ := hcut
      go_upto_if 38 with fail
      go_cut [] (fun wx => ∃ o r a b n : Int, Hid (MakeI w B q k w.heap.size ad len cap o r a b n wx))
      case first =>
        obtain ⟨_, c0, c1, c2, c3, c4, f0, f1, f2, f3, f4⟩ := M.out.f
        cases g0 : (bits .and .i64 h 4 != 0)
        · go_wp2
          go_meet
          case rel => exact ⟨_, _, _, _, _, M.out⟩
        · go_wp2
          go_meet
          case rel => exact ⟨_, _, _, _, _, M.out.set3 _⟩
      case rest =>
        clear M
        obtain ⟨o, r, a, b, n, M⟩ := hcut
        go_upto_if 43 with fail
        go_cut [] (fun wx => ∃ o r a b n : Int, Hid (MakeI w B q k w.heap.size ad len cap o r a b n wx))
        case first =>
          obtain ⟨_, c0, c1, c2, c3, c4, f0, f1, f2, f3, f4⟩ := M.out.f
          cases g0 : (bits .and .i64 h 8 != 0)
          · go_wp2
            go_meet
            case rel => exact ⟨_, _, _, _, _, M.out⟩
          · go_wp2
            go_meet
            case rel => exact ⟨_, _, _, _, _, M.out.set4 _⟩
        case rest =>
          clear M
          obtain ⟨o, r, a, b, n, M⟩ := hcut
          obtain ⟨_, c0, c1, c2, c3, c4, _, _, _, _, _⟩ := M.out.f
          obtain ⟨_, z0, z1, z2, z3, z4, f0, f1, f2, f3, f4⟩ := M.out.z
          have hku := M.out.ku
          have huq := M.out.uq
          go_wp2
          refine bodyPost_ret (v := .agg #[.int .i64 o, .int .i64 r, .int .i64 a, .int .i64 b, .int .i64 n]) (by simp [results, Tryd.results44, go_sem, z0, z1, z2, z3, z4]) rfl ⟨o, r, a, b, n, rfl, ?_, ?_⟩
          · exact M.out.doneD lB _ _ _ _ _
          · exact M.out.doneK _ _ _ _ _
end Go.Proofs.YtdcghcbliajcpaaDoor
