/- l2Draw: it returns a Key of some four ints, and turns nothing that was there but the cursor. -/
import Derived.Test.YtfeoaegkhbjaeaaDoorDrawK
import Derived.Test.YtfeoaegkhbjaeaaDoorAft
namespace Go.Proofs.YtfeoaegkhbjaeaaDoor
open Go.ChangeShapes Go.WideShapes Go.ChangeAt Go.RowKit

/-- A pick of a literal list, just laid, behind a draw of an order. -/
theorem d_pick_drew {B q : Nat} {w : World} {a : Option Addr} {len cap : Nat} (zs : List Int) (T : TypeId) (m c : Nat) (hm : m = zs.length) (hz : 0 < zs.length) (hM : zs.length ≤ 1000) (d : Drawn B q w a len cap) :
    Calls Tryd.prog 55 #[.pointer (some ⟨q, 0, none⟩), .slice (some ⟨w.heap.size, 0, none⟩) m c] (w.alloc (.cells (zs.map (Value.int .i64)).toArray T)).drew fun e w' => ∃ x : Int, e = .returned (.int .i64 x) ∧ x ∈ zs ∧ Drawn B q w' a len cap ∧ KeepBut q w w' :=
  (d_pick zs T m c hm hz hM d.drew).mono fun _ _ ⟨x, he, hx, d', k⟩ => ⟨x, he, hx, d', (KeepBut.refl q w).drew.trans k⟩

set_option maxRecDepth 100000 in
set_option maxHeartbeats 4000000 in
theorem d_key {B q : Nat} {w : World} {a : Option Addr} {len cap : Nat} (d : Drawn B q w a len cap) :
    Calls Tryd.prog 75 #[.pointer (some ⟨q, 0, none⟩)] w fun e w' => ∃ b t p s : Int, e = .returned (.agg #[.int .i64 b, .int .i64 t, .int .i64 p, .int .i64 s]) ∧ Drawn B q w' a len cap ∧ KeepBut q w w' := by
  have D : Hid _ := d
  have lq := d.lt
  have lB := d.base
  clear d
  go_enter Tryd.func75, Tryd.ntmps75
  go_wp2_with fail
  refine (d_right (D.out.alloc _)).mono ?_
  rintro e w1 ⟨b, t, p, s, rfl, d1, k1⟩
  have z1 := k1.size
  simp at z1
  have M1 : Hid (Make w B q w1.heap.size w.heap.size a len cap b t p s (w1.alloc (.cells #[.int .i64 b, .int .i64 t, .int .i64 p, .int .i64 s] 34))) :=
    ⟨Four.new _ _ _ _ _ _, ((Four.new w 0 0 0 0 34).keep k1 (by omega)).alloc _, d1.alloc _, ((KeepBut.refl _ _).alloc _).trans k1 |>.alloc _, by omega, by omega, by omega, by omega, by omega, by omega⟩
  clear k1 d1
  go_wp2_with fail
  refine (d_below 12 M1.out.d).mono ?_
  rintro e w2 ⟨o, rfl, _, _, d2, k2⟩
  have M2 : Hid _ := M1.out.moved d2 k2
  clear d2 k2 M1 D
  obtain ⟨r, hr⟩ : ∃ r, r = w1.heap.size := ⟨_, rfl⟩
  rw [← hr] at M2 ⊢
  clear hr z1 w1
  go_upto_block 0 with fail
  go_cut [] (fun wx => ∃ b t p s : Int, Hid (Make w B q r w.heap.size a len cap b t p s wx))
  case first =>
    obtain ⟨_, c0, c1, c2, c3, f0, f1, f2, f3⟩ := M2.out.k
    cases g0 : (o == 0)
    · cases g1 : (o == 1)
      · cases g2 : (o == 2)
        · go_wp2
          go_meet
          case rel => exact ⟨_, _, _, _, M2.out⟩
        · go_wp2_with fail
          refine (d_pick [-1, 8] 3 _ _ rfl (by decide) (by decide) M2.out.d).mono ?_
          rintro e w5 ⟨y, rfl, _, d5, k5⟩
          have M5 : Hid _ := M2.out.moved d5 k5
          clear d5 k5 c0 c1 c2 c3 f0 f1 f2 f3
          obtain ⟨_, c0, c1, c2, c3, f0, f1, f2, f3⟩ := M5.out.k
          go_wp2
          go_meet
          case rel => exact ⟨_, _, _, _, M5.out.set3 _⟩
      · go_wp2_with fail
        refine (d_pick [-1, 64] 3 _ _ rfl (by decide) (by decide) M2.out.d).mono ?_
        rintro e w5 ⟨y, rfl, _, d5, k5⟩
        have M5 : Hid _ := M2.out.moved d5 k5
        clear d5 k5 c0 c1 c2 c3 f0 f1 f2 f3
        obtain ⟨_, c0, c1, c2, c3, f0, f1, f2, f3⟩ := M5.out.k
        go_wp2
        go_meet
        case rel => exact ⟨_, _, _, _, M5.out.set2 _⟩
    · go_wp2_with fail
      have M4 : Hid _ := M2.out.drew
      go_region_held3 (fun w' => w'.cell? ⟨r, 0, none⟩ = some (.int .i64 b)) (first | (with_reducible exact M4.out.k.c0) | (with_reducible exact (M2.out.k.alloc _).drew.c0) | (with_reducible exact M5.out.k.c0) | (with_reducible exact (M5.out.set1 _).k.c0) | fail)
        (first
          | (go_at_call 55; refine (d_pick_drew [-1, 65, 97, 5000] 3 _ _ rfl (by decide) (by decide) M2.out.d).mono ?_; rintro e w5 ⟨y, rfl, _, d5, k5⟩; have M5 : Hid _ := M2.out.moved d5 k5; obtain ⟨_, c0, c1, c2, c3, f0, f1, f2, f3⟩ := M5.out.k; clear d5 k5))
      go_wp2_with fail
      go_meet
      case rel => exact ⟨_, _, _, _, M5.out.set1 _⟩
  case rest =>
    obtain ⟨b, t, p, s, M7⟩ := hcut
    clear M2
    obtain ⟨_, c0, c1, c2, c3, _, _, _, _⟩ := M7.out.k
    obtain ⟨_, z0, z1, z2, z3, f0, f1, f2, f3⟩ := M7.out.z
    have hru := M7.out.ru
    have huq := M7.out.uq
    go_wp2
    refine bodyPost_ret (v := .agg #[.int .i64 b, .int .i64 t, .int .i64 p, .int .i64 s]) (by simp [results, Tryd.results75, go_sem, z0, z1, z2, z3]) rfl ⟨b, t, p, s, rfl, ?_, ?_⟩
    · exact (((M7.out.d.setNew huq lB _ _).setNew huq lB _ _).setNew huq lB _ _).setNew huq lB _ _
    · exact (((M7.out.kb.setNew (Nat.le_refl _) _ _).setNew (Nat.le_refl _) _ _).setNew (Nat.le_refl _) _ _).setNew (Nat.le_refl _) _ _
end Go.Proofs.YtfeoaegkhbjaeaaDoor
