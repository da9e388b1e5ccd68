/- The draws of chapter 2: each returns a Key of some four ints, or two, and turns nothing that was there but the cursor. -/
import Derived.Test.YtfeoaegkhbjaeaaDoorDraw4
import Derived.Test.YtfeoaegkhbjaeaaDoorKeyS
import Derived.Deep.CutBlock
namespace Go.Proofs.YtfeoaegkhbjaeaaDoor
open Go.ChangeShapes Go.WideShapes Go.ChangeAt Go.RowKit

set_option maxRecDepth 100000 in
set_option maxHeartbeats 4000000 in
theorem d_right {B q : Nat} {w : World} {a : Option Addr} {len cap : Nat} (d : Drawn B q w a len cap) :
    Calls Tryd.prog 86 #[.pointer (some ⟨q, 0, none⟩)] w fun e w' => ∃ b t p s : Int, e = .returned (.agg #[.int .i64 b, .int .i64 t, .int .i64 p, .int .i64 s]) ∧ Drawn B q w' a len cap ∧ KeepBut q w w' := by
  have D : Hid _ := d
  have lq := d.lt
  have lB := d.base
  clear d
  go_enter Tryd.func86, Tryd.ntmps86
  go_wp2_with fail
  refine (specRoot_any _).mono ?_
  rintro e w1 ⟨rfl, hb1⟩
  have z1 := hb1.size
  simp at z1
  have M1 : Hid (Make w B q w1.heap.size w.heap.size a len cap 0 4096 63 0 (w1.alloc (.cells #[.int .i64 0, .int .i64 4096, .int .i64 63, .int .i64 0] 34))) :=
    ⟨Four.new _ _ _ _ _ _, ((Four.new w 0 0 0 0 34).below hb1).alloc _, ((D.out.alloc _).below hb1).alloc _, ((KeepBut.refl _ _).alloc _).trans (KeepBut.ofBelow hb1) |>.alloc _, by omega, by omega, by omega, by omega, by omega, by omega⟩
  clear hb1
  go_wp2_with fail
  refine (d_below 4 M1.out.d).mono ?_
  rintro e w2 ⟨o, rfl, _, _, d2, k2⟩
  have M2 : Hid _ := M1.out.moved d2 k2
  clear d2 k2 M1 D
  obtain ⟨r, hr⟩ : ∃ r, r = w1.heap.size := ⟨_, rfl⟩
  rw [← hr] at M2 ⊢
  clear hr z1 w1
  go_upto_block 0 with fail
  go_cut [] (fun wx => ∃ b t p s : Int, Hid (Make w B q r w.heap.size a len cap b t p s wx))
  case first =>
    cases g0 : (o == 0)
    · cases g1 : (o == 1)
      · cases g2 : (o == 2)
        · go_wp2
          go_meet
          case rel => exact ⟨_, _, _, _, M2.out⟩
        · obtain ⟨_, _, _, _, _, f0, f1, f2, f3⟩ := M2.out.k
          go_wp2
          go_meet
          case rel => exact ⟨_, _, _, _, M2.out.set1 32⟩
      · go_wp2_with fail
        refine (d_below 20 M2.out.d).mono ?_
        rintro e w3 ⟨x, rfl, _, hx, d3, k3⟩
        obtain ⟨x0, x1⟩ := hx (by omega)
        have M3 : Hid _ := M2.out.moved d3 k3
        clear d3 k3 hx M2
        obtain ⟨_, c0, c1, c2, c3, f0, f1, f2, f3⟩ := M3.out.k
        have M4 : Hid _ := (M3.out.set0 (64 * x)).drew
        go_wp2_with fail
        go_region_held3 (fun w' => w'.cell? ⟨r, 0, none⟩ = some (.int .i64 (64 * x))) (first | (with_reducible exact M4.out.k.c0) | (with_reducible exact M5.out.k.c0) | (with_reducible exact (M5.out.set1 _).k.c0) | fail)
          (first
            | (go_at_call 41; refine (d_below 9 M4.out.d).mono ?_; rintro e w5 ⟨y, rfl, _, hy, d5, k5⟩; obtain ⟨y0, y1⟩ := hy (by omega); have M5 : Hid _ := M4.out.moved d5 k5; obtain ⟨_, c0, c1, c2, c3, f0, f1, f2, f3⟩ := M5.out.k; clear d5 k5 hy))
        go_wp2_with fail
        go_meet
        case rel => exact ⟨_, _, _, _, M5.out.set1 _⟩
    · go_wp2_with fail
      refine (d_below 30 M2.out.d).mono ?_
      rintro e w3 ⟨x, rfl, _, hx, d3, k3⟩
      obtain ⟨x0, x1⟩ := hx (by omega)
      have M3 : Hid _ := M2.out.moved d3 k3
      clear d3 k3 hx M2
      obtain ⟨_, c0, c1, c2, c3, f0, f1, f2, f3⟩ := M3.out.k
      have M4 : Hid _ := (M3.out.set0 x).drew
      go_wp2_with fail
      go_region_held3 (fun w' => w'.cell? ⟨r, 0, none⟩ = some (.int .i64 x)) (first | (with_reducible exact M4.out.k.c0) | (with_reducible exact M5.out.k.c0) | (with_reducible exact (M5.out.set1 _).k.c0) | fail)
        (first
          | (go_at_call 41; refine (d_below 33 M4.out.d).mono ?_; rintro e w5 ⟨y, rfl, _, hy, d5, k5⟩; obtain ⟨y0, y1⟩ := hy (by omega); have M5 : Hid _ := M4.out.moved d5 k5; obtain ⟨_, c0, c1, c2, c3, f0, f1, f2, f3⟩ := M5.out.k; clear d5 k5 hy))
      go_wp2_with fail
      go_meet
      case rel => exact ⟨_, _, _, _, M5.out.set1 _⟩
  case rest =>
    obtain ⟨b, t, p, s, M3⟩ := hcut
    clear M2
    go_wp2_with fail
    refine (d_once 2 M3.out.d).mono ?_
    rintro e w3 ⟨o2, rfl, d3, k3⟩
    have M4 : Hid _ := M3.out.moved d3 k3
    clear d3 k3 M3
    go_upto_if 35 with fail
    go_cut [] (fun wx => ∃ b t p s : Int, Hid (Make w B q r w.heap.size a len cap b t p s wx))
    case first =>
      cases o2
      · go_wp2
        go_meet
        case rel => exact ⟨_, _, _, _, M4.out⟩
      · go_wp2_with fail
        refine (d_below 64 M4.out.d).mono ?_
        rintro e w5 ⟨y, rfl, _, _, d5, k5⟩
        have M5 : Hid _ := M4.out.moved d5 k5
        obtain ⟨_, c0, c1, c2, c3, f0, f1, f2, f3⟩ := M5.out.k
        clear d5 k5
        go_wp2
        go_meet
        case rel => exact ⟨_, _, _, _, M5.out.set2 _⟩
    case rest =>
      obtain ⟨b, t, p, s, M5⟩ := hcut
      clear M4
      go_wp2_with fail
      refine (d_once 5 M5.out.d).mono ?_
      rintro e w4 ⟨o3, rfl, d4, k4⟩
      have M6 : Hid _ := M5.out.moved d4 k4
      clear d4 k4 M5
      go_upto_if 40 with fail
      go_cut [] (fun wx => ∃ b t p s : Int, Hid (Make w B q r w.heap.size a len cap b t p s wx))
      case first =>
        cases o3
        · go_wp2
          go_meet
          case rel => exact ⟨_, _, _, _, M6.out⟩
        · go_wp2_with fail
          refine (d_below 7 M6.out.d).mono ?_
          rintro e w5 ⟨y, rfl, _, hy, d5, k5⟩
          obtain ⟨y0, y1⟩ := hy (by omega)
          have M7 : Hid _ := M6.out.moved d5 k5
          obtain ⟨_, c0, c1, c2, c3, f0, f1, f2, f3⟩ := M7.out.k
          clear d5 k5 hy
          go_wp2
          go_meet
          case rel => exact ⟨_, _, _, _, M7.out.set3 _⟩
      case rest =>
        obtain ⟨b, t, p, s, M7⟩ := hcut
        clear M6
        obtain ⟨_, c0, c1, c2, c3, _, _, _, _⟩ := M7.out.k
        obtain ⟨_, z0, z1, z2, z3, f0, f1, f2, f3⟩ := M7.out.z
        have hru := M7.out.ru
        have huq := M7.out.uq
        go_wp2
        refine bodyPost_ret (v := .agg #[.int .i64 b, .int .i64 t, .int .i64 p, .int .i64 s]) (by simp [results, Tryd.results86, go_sem, z0, z1, z2, z3]) rfl ⟨b, t, p, s, rfl, ?_, ?_⟩
        · exact (((M7.out.d.setNew huq lB _ _).setNew huq lB _ _).setNew huq lB _ _).setNew huq lB _ _
        · exact (((M7.out.kb.setNew (Nat.le_refl _) _ _).setNew (Nat.le_refl _) _ _).setNew (Nat.le_refl _) _ _).setNew (Nat.le_refl _) _ _
end Go.Proofs.YtfeoaegkhbjaeaaDoor
