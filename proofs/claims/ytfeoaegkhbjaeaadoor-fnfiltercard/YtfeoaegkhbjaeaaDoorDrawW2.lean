/- l3Draw, DrawWordOk, DrawBare, DrawPlain and DrawKeyWord: each returns a Word, an int, or a Key and an int, and turns nothing that was there but the cursor. -/
import Derived.Test.YtfeoaegkhbjaeaaDoorDrawW
namespace Go.Proofs.YtfeoaegkhbjaeaaDoor
open Go.ChangeShapes Go.WideShapes Go.ChangeAt Go.RowKit

/-- A word that is being drawn in block r, the call's own result still zero in block u, the cursor in q. -/
structure MakeW (w0 : World) (B q r u : Nat) (a : Option Addr) (len cap : Nat) (n : Int) (i : Bool) (b t p s : Int) (w : World) : Prop where
  k : Six w r n i b t p s
  z : Six w u 0 false 0 0 0 0
  d : Drawn B q w a len cap
  kb : KeepBut q w0 w
  ru : r ≠ u
  rq : r ≠ q
  uq : u ≠ q
  rB : B ≤ r
  nr : w0.heap.size ≤ r
  nu : w0.heap.size ≤ u
section
variable {w0 w w' : World} {B q r u : Nat} {a : Option Addr} {len cap : Nat} {n : Int} {i : Bool} {b t p s : Int}
theorem MakeW.moved (h : MakeW w0 B q r u a len cap n i b t p s w) (d : Drawn B q w' a len cap) (k : KeepBut q w w') : MakeW w0 B q r u a len cap n i b t p s w' :=
  ⟨h.k.keep k h.rq, h.z.keep k h.uq, d, h.kb.trans k, h.ru, h.rq, h.uq, h.rB, h.nr, h.nu⟩
theorem MakeW.set0 (h : MakeW w0 B q r u a len cap n i b t p s w) (m : Int) : MakeW w0 B q r u a len cap m i b t p s (w.setCell ⟨r, 0, none⟩ (.int .i64 m)) :=
  ⟨h.k.set0 m, h.z.other h.ru.symm _ _, h.d.setNew h.rq h.rB _ _, h.kb.setNew h.nr _ _, h.ru, h.rq, h.uq, h.rB, h.nr, h.nu⟩
theorem MakeW.set1 (h : MakeW w0 B q r u a len cap n i b t p s w) (m : Bool) : MakeW w0 B q r u a len cap n m b t p s (w.setCell ⟨r, 1, none⟩ (.bool m)) :=
  ⟨h.k.set1 m, h.z.other h.ru.symm _ _, h.d.setNew h.rq h.rB _ _, h.kb.setNew h.nr _ _, h.ru, h.rq, h.uq, h.rB, h.nr, h.nu⟩
theorem MakeW.set2 (h : MakeW w0 B q r u a len cap n i b t p s w) (m : Int) : MakeW w0 B q r u a len cap n i m t p s (w.setCell ⟨r, 2, none⟩ (.int .i64 m)) :=
  ⟨h.k.set2 m, h.z.other h.ru.symm _ _, h.d.setNew h.rq h.rB _ _, h.kb.setNew h.nr _ _, h.ru, h.rq, h.uq, h.rB, h.nr, h.nu⟩
theorem MakeW.set3 (h : MakeW w0 B q r u a len cap n i b t p s w) (m : Int) : MakeW w0 B q r u a len cap n i b m p s (w.setCell ⟨r, 3, none⟩ (.int .i64 m)) :=
  ⟨h.k.set3 m, h.z.other h.ru.symm _ _, h.d.setNew h.rq h.rB _ _, h.kb.setNew h.nr _ _, h.ru, h.rq, h.uq, h.rB, h.nr, h.nu⟩
theorem MakeW.set4 (h : MakeW w0 B q r u a len cap n i b t p s w) (m : Int) : MakeW w0 B q r u a len cap n i b t m s (w.setCell ⟨r, 4, none⟩ (.int .i64 m)) :=
  ⟨h.k.set4 m, h.z.other h.ru.symm _ _, h.d.setNew h.rq h.rB _ _, h.kb.setNew h.nr _ _, h.ru, h.rq, h.uq, h.rB, h.nr, h.nu⟩
theorem MakeW.set5 (h : MakeW w0 B q r u a len cap n i b t p s w) (m : Int) : MakeW w0 B q r u a len cap n i b t p m (w.setCell ⟨r, 5, none⟩ (.int .i64 m)) :=
  ⟨h.k.set5 m, h.z.other h.ru.symm _ _, h.d.setNew h.rq h.rB _ _, h.kb.setNew h.nr _ _, h.ru, h.rq, h.uq, h.rB, h.nr, h.nu⟩
end

set_option maxRecDepth 100000 in
set_option maxHeartbeats 4000000 in
theorem d_word {B q : Nat} {w : World} {a : Option Addr} {len cap : Nat} (d : Drawn B q w a len cap) :
    Calls Tryd.prog 44 #[.pointer (some ⟨q, 0, none⟩)] w fun e w' => ∃ (n : Int) (i : Bool) (b t p s : Int), e = .returned (.agg #[.int .i64 n, .bool i, .int .i64 b, .int .i64 t, .int .i64 p, .int .i64 s]) ∧ Drawn B q w' a len cap ∧ KeepBut q w w' := by
  have D : Hid _ := d
  have lq := d.lt
  have lB := d.base
  clear d
  go_enter Tryd.func44, Tryd.ntmps44
  go_wp2_with fail
  refine (d_wright (D.out.alloc _)).mono ?_
  rintro e w1 ⟨n, i, b, t, p, s, rfl, d1, k1⟩
  have z1 := k1.size
  simp only [World.size_alloc] at z1
  have M1 : Hid (MakeW w B q w1.heap.size w.heap.size a len cap n i b t p s (w1.alloc (.cells #[.int .i64 n, .bool i, .int .i64 b, .int .i64 t, .int .i64 p, .int .i64 s] 36))) :=
    ⟨Six.new _ _ _ _ _ _ _ _, ((Six.new w 0 false 0 0 0 0 36).keep k1 (by omega)).alloc _, d1.alloc _, ((KeepBut.refl _ _).alloc _).trans k1 |>.alloc _, by omega, by omega, by omega, by omega, by omega, by omega⟩
  clear k1 d1
  go_wp2_with fail
  refine (d_below 12 M1.out.d).mono ?_
  rintro e w2 ⟨o, rfl, _, _, d2, k2⟩
  have M2 : Hid _ := M1.out.moved d2 k2
  clear d2 k2 M1 D
  obtain ⟨r, hr⟩ : ∃ r, r = w1.heap.size := ⟨_, rfl⟩
  rw [← hr] at M2 ⊢
  clear hr z1 w1
  go_upto_block 0 with fail
  go_cut [] (fun wx => ∃ (n : Int) (i : Bool) (b t p s : Int), Hid (MakeW w B q r w.heap.size a len cap n i b t p s wx))
  case first =>
    obtain ⟨_, c0, c1, c2, c3, c4, c5, f0, f1, f2, f3, f4, f5⟩ := M2.out.k
    cases g0 : (o == 0)
    · cases g1 : (o == 1)
      · cases g2 : (o == 2)
        · go_wp2
          go_meet
          case rel => exact ⟨_, _, _, _, _, _, M2.out⟩
        · go_wp2_with fail
          refine (d_key M2.out.d).mono ?_
          rintro e w5 ⟨b', t', p', s', rfl, d5, k5⟩
          have M5 : Hid _ := M2.out.moved d5 k5
          clear d5 k5 c0 c1 c2 c3 c4 c5 f0 f1 f2 f3 f4 f5
          obtain ⟨_, c0, c1, c2, c3, c4, c5, f0, f1, f2, f3, f4, f5⟩ := M5.out.k
          go_wp2
          go_meet
          case rel => exact ⟨_, _, _, _, _, _, (((M5.out.set2 _).set3 _).set4 _).set5 _⟩
      · go_wp2
        go_meet
        case rel => exact ⟨_, _, _, _, _, _, M2.out.set1 _⟩
    · go_wp2_with fail
      refine (d_pick [-1, 65536, 9223372036854775807] 3 _ _ rfl (by decide) (by decide) M2.out.d).mono ?_
      rintro e w5 ⟨y, rfl, _, d5, k5⟩
      have M5 : Hid _ := M2.out.moved d5 k5
      clear d5 k5 c0 c1 c2 c3 c4 c5 f0 f1 f2 f3 f4 f5
      obtain ⟨_, c0, c1, c2, c3, c4, c5, f0, f1, f2, f3, f4, f5⟩ := M5.out.k
      go_wp2
      go_meet
      case rel => exact ⟨_, _, _, _, _, _, M5.out.set0 _⟩
  case rest =>
    obtain ⟨n, i, b, t, p, s, M7⟩ := hcut
    clear M2
    obtain ⟨_, c0, c1, c2, c3, c4, c5, _, _, _, _, _, _⟩ := M7.out.k
    obtain ⟨_, z0, z1, z2, z3, z4, z5, f0, f1, f2, f3, f4, f5⟩ := M7.out.z
    have hru := M7.out.ru
    have huq := M7.out.uq
    go_wp2
    refine bodyPost_ret (v := .agg #[.int .i64 n, .bool i, .int .i64 b, .int .i64 t, .int .i64 p, .int .i64 s]) (by simp [results, Tryd.results44, go_sem, z0, z1, z2, z3, z4, z5]) rfl ⟨_, _, _, _, _, _, rfl, ?_, ?_⟩
    · repeat' (first | (with_reducible exact M7.out.d) | (refine Drawn.setNew ?_ huq lB _ _))
    · repeat' (first | (with_reducible exact M7.out.kb) | (refine KeepBut.setNew ?_ (Nat.le_refl _) _ _))

end Go.Proofs.YtfeoaegkhbjaeaaDoor
