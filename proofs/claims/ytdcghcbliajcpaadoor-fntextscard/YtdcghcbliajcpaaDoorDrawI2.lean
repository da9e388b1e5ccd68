/- l6Spoil, l6DrawOne and the draws of chapter 6 that are made of them: each returns some place, or a number of 64 bits, and turns nothing that was there. -/
import Derived.Test.YtdcghcbliajcpaaDoorDrawI
import Derived.Deep.CutBlock
namespace Go.Proofs.YtdcghcbliajcpaaDoor
open Go.ChangeShapes Go.WideShapes Go.ChangeAt Go.RowKit

set_option maxRecDepth 100000 in
set_option maxHeartbeats 4000000 in
theorem d_spoil {B q : Nat} {w : World} {ad : Option Addr} {len cap : Nat} (o r a b n : Int) (d : Drawn B q w ad len cap) :
    Calls Tryd.prog 53 #[.pointer (some ⟨q, 0, none⟩), .agg #[.int .i64 o, .int .i64 r, .int .i64 a, .int .i64 b, .int .i64 n]] w fun e w' => ∃ o r a b n : Int, e = .returned (.agg #[.int .i64 o, .int .i64 r, .int .i64 a, .int .i64 b, .int .i64 n]) ∧ Drawn B q w' ad len cap ∧ KeepBut q w w' := by
  have D : Hid _ := d
  have lq := d.lt
  have lB := d.base
  clear d
  have M := hid_mk (show MakeI w B q w.heap.size (w.heap.size + 1) ad len cap o r a b n ((w.alloc (.cells #[.int .i64 o, .int .i64 r, .int .i64 a, .int .i64 b, .int .i64 n] 25)).alloc (.cells #[.int .i64 0, .int .i64 0, .int .i64 0, .int .i64 0, .int .i64 0] 25)) from
    ⟨(Five.new _ _ _ _ _ _ _).alloc _, Five.second _ _ _ _ _ _ _ _, (D.out.alloc _).alloc _, ((KeepBut.refl _ _).alloc _).alloc _, by omega, by omega, by omega, by omega, by omega, by omega⟩)
  clear D
  go_enter Tryd.func53, Tryd.ntmps53
  go_wp2_with fail
  refine (d_below 7 M.out.d).mono ?_
  rintro e w1 ⟨x1, rfl, _, _, d1, k1⟩
  have M := hid_mk (M.out.moved d1 k1)
  clear d1 k1
  go_upto_block 0 with fail
  go_cut [] (fun wx => ∃ o r a b n : Int, Hid (MakeI w B q w.heap.size (w.heap.size + 1) ad len cap o r a b n wx))
  case first =>
    cases g0 : (x1 == 0)
    · cases g1 : (x1 == 1)
      · cases g2 : (x1 == 2)
        · cases g3 : (x1 == 3)
          · go_wp2
            go_meet
            case rel => exact ⟨_, _, _, _, _, M.out⟩
          · go_wp2_with fail
            refine (d_pick [-128, -129, 127, 128] 3 _ _ rfl (by decide) (by decide) M.out.d).mono ?_
            rintro e w2 ⟨y, rfl, _, d2, k2⟩
            have M := hid_mk (M.out.moved d2 k2)
            clear d2 k2
            obtain ⟨_, c0, c1, c2, c3, c4, f0, f1, f2, f3, f4⟩ := M.out.f
            go_wp2
            go_meet
            case rel => exact ⟨_, _, _, _, _, M.out.set4 _⟩
        · go_wp2_with fail
          refine (d_pick [-1, 7, 8] 3 _ _ rfl (by decide) (by decide) M.out.d).mono ?_
          rintro e w2 ⟨y, rfl, _, d2, k2⟩
          have M := hid_mk (M.out.moved d2 k2)
          clear d2 k2
          obtain ⟨_, c0, c1, c2, c3, c4, f0, f1, f2, f3, f4⟩ := M.out.f
          go_wp2
          go_meet
          case rel => exact ⟨_, _, _, _, _, M.out.set2 _⟩
      · go_wp2_with fail
        refine (d_pick [-1, 7, 8] 3 _ _ rfl (by decide) (by decide) M.out.d).mono ?_
        rintro e w2 ⟨y, rfl, _, d2, k2⟩
        have M := hid_mk (M.out.moved d2 k2)
        clear d2 k2
        obtain ⟨_, c0, c1, c2, c3, c4, f0, f1, f2, f3, f4⟩ := M.out.f
        go_wp2
        go_meet
        case rel => exact ⟨_, _, _, _, _, M.out.set1 _⟩
    · go_wp2_with fail
      refine (d_below 18 M.out.d).mono ?_
      rintro e w2 ⟨y, rfl, _, hy, d2, k2⟩
      obtain ⟨y0, y1⟩ := hy (by omega)
      have M := hid_mk (M.out.moved d2 k2)
      clear d2 k2 hy
      obtain ⟨_, c0, c1, c2, c3, c4, f0, f1, f2, f3, f4⟩ := M.out.f
      go_wp2
      go_meet
      case rel => exact ⟨_, _, _, _, _, M.out.set0 _⟩
  case rest =>
    clear M
    obtain ⟨o, r, a, b, n, M⟩ := hcut
    obtain ⟨_, c0, c1, c2, c3, c4, _, _, _, _, _⟩ := M.out.f
    obtain ⟨_, z0, z1, z2, z3, z4, f0, f1, f2, f3, f4⟩ := M.out.z
    have hku := M.out.ku
    have huq := M.out.uq
    go_wp2
    refine bodyPost_ret (v := .agg #[.int .i64 o, .int .i64 r, .int .i64 a, .int .i64 b, .int .i64 n]) (by simp [results, Tryd.results53, go_sem, z0, z1, z2, z3, z4]) rfl ⟨o, r, a, b, n, rfl, ?_, ?_⟩
    · exact M.out.doneD (by omega) _ _ _ _ _
    · exact M.out.doneK _ _ _ _ _

set_option maxRecDepth 100000 in
set_option maxHeartbeats 4000000 in
theorem drawOne_any {w : World} {ad : Option Addr} {len cap : Nat} (hc : Code8 w.heap.size w ad len) :
    Calls Tryd.prog 31 #[.slice ad len cap] w fun e w' => ∃ o r a b n : Int, e = .returned (.agg #[.int .i64 o, .int .i64 r, .int .i64 a, .int .i64 b, .int .i64 n]) ∧ Below w.heap.size w w' := by
  have bz : Below w.heap.size w (w.alloc (.cells #[.int .i64 0, .int .i64 0, .int .i64 0, .int .i64 0, .int .i64 0] 25)) := (Below.refl _ _).alloc (Nat.le_refl _) _
  have hs : (w.alloc (.cells #[.int .i64 0, .int .i64 0, .int .i64 0, .int .i64 0, .int .i64 0] 25)).heap.size = w.heap.size + 1 := by simp
  have C : Hid (Code8 (w.heap.size + 1) (w.alloc (.cells #[.int .i64 0, .int .i64 0, .int .i64 0, .int .i64 0, .int .i64 0] 25)) ad len) := hs ▸ hc.later bz
  clear hc
  go_enter Tryd.func31, Tryd.ntmps31
  go_wp2_with fail
  refine (d_new (by rw [hs]; exact C.out)).mono ?_
  rw [hs]
  rintro e w1 ⟨rfl, d1, b1⟩
  have Z1 : Hid (ZI w (w.heap.size + 1) (w.heap.size + 1) w.heap.size ad len cap w1) :=
    ⟨(Five.new w 0 0 0 0 0 25).below (by rw [hs]; exact b1), d1, KeepBut.ofBelow (bz.trans (b1.mono (by omega))), by omega, by omega⟩
  clear d1 b1 C hs bz
  go_wp2_with fail
  refine (d_ins Z1.out.d).mono ?_
  rintro e w2 ⟨o, r, a, b, n, rfl, d2, k2⟩
  have M := hid_mk ((Z1.out.moved d2 k2).make o r a b n 25)
  clear d2 k2 Z1
  go_wp2_with fail
  refine (d_once 2 M.out.d).mono ?_
  rintro e w3 ⟨x, rfl, d3, k3⟩
  have M := hid_mk (M.out.moved d3 k3)
  clear d3 k3
  obtain ⟨k, hk⟩ : ∃ k, k = w2.heap.size := ⟨_, rfl⟩
  rw [← hk] at M ⊢
  clear hk
  go_upto_if 10 with fail
  go_cut [] (fun wx => ∃ o r a b n : Int, Hid (MakeI w (w.heap.size + 1) (w.heap.size + 1) k w.heap.size ad len cap o r a b n wx))
  case first =>
    obtain ⟨_, c0, c1, c2, c3, c4, f0, f1, f2, f3, f4⟩ := M.out.f
    cases x
    · go_wp2
      go_meet
      case rel => exact ⟨_, _, _, _, _, M.out⟩
    · go_wp2_with fail
      refine (d_spoil o r a b n M.out.d).mono ?_
      rintro e w4 ⟨o', r', a', b', n', rfl, d4, k4⟩
      have M := hid_mk (M.out.moved d4 k4)
      clear d4 k4 c0 c1 c2 c3 c4 f0 f1 f2 f3 f4
      obtain ⟨_, c0, c1, c2, c3, c4, f0, f1, f2, f3, f4⟩ := M.out.f
      go_wp2
      go_meet
      case rel => exact ⟨_, _, _, _, _, M.out.setAll _ _ _ _ _⟩
  case rest =>
    clear M
    obtain ⟨o, r, a, b, n, M⟩ := hcut
    obtain ⟨_, c0, c1, c2, c3, c4, _, _, _, _, _⟩ := M.out.f
    obtain ⟨_, z0, z1, z2, z3, z4, f0, f1, f2, f3, f4⟩ := M.out.z
    have hku := M.out.ku
    have huq := M.out.uq
    go_wp2
    refine bodyPost_ret (v := .agg #[.int .i64 o, .int .i64 r, .int .i64 a, .int .i64 b, .int .i64 n]) (by simp [results, Tryd.results31, go_sem, z0, z1, z2, z3, z4]) rfl ⟨o, r, a, b, n, rfl, ?_⟩
    exact (M.out.doneK _ _ _ _ _).below (Nat.le_succ _) (Nat.le_refl _)

end Go.Proofs.YtdcghcbliajcpaaDoor
