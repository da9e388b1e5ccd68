/- numberIn, registerIn, opNamed, withField of the program: what they answer, or that they panic with the program's own error. The tables and errors hold what the texts lay. -/
import Derived.Test.YtdcghcbliajcpaaDoorSent7
import Derived.Test.YtdcghcbliajcpaaDoorInsJ
import Derived.WalkLawsBesides
namespace Go.Proofs.YtdcghcbliajcpaaDoor
open Go.ChangeShapes Go.WideShapes Go.ChangeAt Go.RowKit
set_option maxRecDepth 100000

theorem toList_bs (x : List UInt8) : (bs x).toList = x := ByteArray.toList_mk x
theorem ne_bs {x y : List UInt8} (h : x ≠ y) : ((bs x).toList == (bs y).toList) = false := by
  rw [toList_bs, toList_bs]
  simpa using h

/-- The program's own panic. -/
def PV (a : Addr) : PanicEntry := { v := .iface 138 (.pointer (some a)), recovered := false }
/-- An answer, or the panic. -/
def endI {α : Type} (a : Addr) (f : α → Value) : Option α → Ending
  | some v => .returned (f v)
  | none => .panicked [PV a]

theorem endI_some {α : Type} (a : Addr) (f : α → Value) (v : α) : endI a f (some v) = .returned (f v) := rfl
theorem endI_none {α : Type} (a : Addr) (f : α → Value) : endI a f none = .panicked [{ v := .iface 138 (.pointer (some a)), recovered := false }] := rfl

set_option maxHeartbeats 1000000 in
theorem numberIn_any (p : List UInt8) (hp : p.length ≤ 281474976710656) (a : Addr) (w : World) (hL : LayE a w) :
    Calls Tryd.prog 67 #[.string (bs p)] w fun e w' => e = endI a (fun v => .int .i64 v) (numI p) ∧ Below w.heap.size w w' := by
  cases hn : numI p with
  | some v =>
    show Calls Tryd.prog 67 #[.string (bs p)] w fun e w' => e = .returned (.int .i64 v) ∧ Below w.heap.size w w'
    have S := hid_mk (atoi_ok p hp v hn)
    clear hL hn
    go_enter Tryd.func67, Tryd.ntmps67
    go_wp2_with (go_at_call 71; refine (S.out _).mono ?_; rintro e w1 ⟨rfl, hb⟩)
    go_wp2
    go_ret
    exact ⟨rfl, hb⟩
  | none =>
    show Calls Tryd.prog 67 #[.string (bs p)] w fun e w' => e = .panicked [{ v := .iface 138 (.pointer (some a)), recovered := false }] ∧ Below w.heap.size w w'
    obtain ⟨q1, h1⟩ := hL.syn
    obtain ⟨q2, h2⟩ := hL.rng
    have S := hid_mk (atoi_bad p hp hn _ _ _ _ w h1 h2)
    have L := hid_mk hL
    clear hL hn h1 h2
    go_enter Tryd.func67, Tryd.ntmps67
    go_wp2_with (go_at_call 71; refine S.out.mono ?_; rintro e w1 ⟨m, N, rfl, hb⟩; refine Hid.out ?_)
    refine Lib.hid ?_
    have g := (L.out.below hb).err
    go_wp2
    exact ⟨rfl, rfl, hb⟩

set_option maxHeartbeats 1000000 in
theorem registerIn_any (p : List UInt8) (hp : p.length ≤ 281474976710656) (a : Addr) (w : World) (hL : LayE a w) :
    Calls Tryd.prog 66 #[.string (bs p)] w fun e w' => e = endI a (fun v => .int .i64 v) (regI p) ∧ Below w.heap.size w w' := by
  have c : (ByteArray.mk #[114]) = bs [114] := rfl
  have hlen : (Lib.trimPrefix p [114]).length ≤ 281474976710656 := by
    unfold Lib.trimPrefix
    split
    · rw [List.length_drop]; omega
    · exact hp
  have s := numberIn_any (Lib.trimPrefix p [114]) hlen a w hL
  unfold regI
  have T := hid_mk (trim_any p [114])
  generalize Lib.trimPrefix p [114] = t at s T ⊢
  cases hn : numI t with
  | some v =>
    rw [hn] at s
    have S : Hid (Calls Tryd.prog 67 #[.string (bs t)] w fun e w' => e = .returned (.int .i64 v) ∧ Below w.heap.size w w') := hid_mk s
    show Calls Tryd.prog 66 #[.string (bs p)] w fun e w' => e = .returned (.int .i64 v) ∧ Below w.heap.size w w'
    clear s hn hL hlen hp
    go_enter Tryd.func66, Tryd.ntmps66
    go_wp2_with (first | (go_at_call 70; refine (T.out _).mono ?_; rintro e w1 ⟨rfl, rfl⟩) | (go_at_call 67; refine S.out.mono ?_; rintro e w2 ⟨rfl, hb⟩))
    go_wp2
    go_ret
    exact ⟨rfl, hb⟩
  | none =>
    rw [hn] at s
    have S : Hid (Calls Tryd.prog 67 #[.string (bs t)] w fun e w' => e = .panicked [{ v := .iface 138 (.pointer (some a)), recovered := false }] ∧ Below w.heap.size w w') := hid_mk s
    show Calls Tryd.prog 66 #[.string (bs p)] w fun e w' => e = .panicked [{ v := .iface 138 (.pointer (some a)), recovered := false }] ∧ Below w.heap.size w w'
    clear s hn hL hlen hp
    go_enter Tryd.func66, Tryd.ntmps66
    go_wp2_with (first | (go_at_call 70; refine (T.out _).mono ?_; rintro e w1 ⟨rfl, rfl⟩) | (go_at_call 67; refine S.out.mono ?_; rintro e w2 ⟨rfl, hb⟩))
    go_wp2
    exact ⟨rfl, rfl, hb⟩

theorem opL_none {nm : List UInt8} (h : ∀ o : Int, 1 ≤ o → o < 16 → nmL o ≠ nm) : opL nm = none := by
  unfold opL
  rw [List.find?_eq_none]
  intro o ho
  simp only [List.mem_cons, List.not_mem_nil, or_false] at ho
  have := h o (by omega) (by omega)
  simpa using this

set_option maxHeartbeats 2000000 in
theorem opNamed_any (nm : List UInt8) (a : Addr) (w : World) (hL : LayE a w) :
    Calls Tryd.prog 60 #[.string (bs nm)] w fun e w' => e = endI a (fun v => .int .i64 v) (opL nm) ∧ Below w.heap.size w w' := by
  obtain ⟨z, Z⟩ : ∃ z, Hid (z = endI a (fun v => .int .i64 v) (opL nm)) := ⟨_, rfl⟩
  rw [← Z.out]
  have L := hid_mk hL
  clear hL
  go_enter Tryd.func60, Tryd.ntmps60
  go_wp2
  go_loopw [3] (fun c wr => ∃ k : Int, 1 ≤ k ∧ k ≤ 16 ∧ c = .int .i64 k ∧ Hid (∀ o : Int, 1 ≤ o → o < k → nmL o ≠ nm) ∧ wr = w) (fun c _ => (16 - intOf c).toNat)
  case atStart => exact ⟨1, by omega, by omega, rfl, fun o h1 h2 => by omega, rfl⟩
  case round =>
    obtain ⟨k, k0, k1, rfl, H, rfl⟩ := hrel
    by_cases hk : k ≤ 15
    · have g := L.out.lay.name (o := k) (by omega) (by omega)
      by_cases he : nmL k = nm
      · have hz : z = .returned (.int .i64 k) := by rw [Z.out, ← he, opL_nm ⟨k0, hk⟩]; rfl
        subst hz
        subst he
        go_wp2
        go_ret
        exact ⟨rfl, Below.refl _ _⟩
      · have hne := ne_bs he
        have E : Hid (∀ o : Int, o = k → nmL o ≠ nm) := fun o ho => by rw [ho]; exact he
        clear he
        generalize nmL k = t at g hne
        go_wp2
        go_roundw
        case rel =>
          refine ⟨k + 1, by omega, by omega, by go_num, fun o h1 h2 => ?_, trivial⟩
          by_cases ho : o = k
          · exact E.out o ho
          · exact H.out o h1 (by omega)
        case measure => simp [intOf]; omega
    · have hz : z = .panicked [{ v := .iface 138 (.pointer (some a)), recovered := false }] := by
        rw [Z.out, opL_none (fun o h1 h2 => H.out o h1 (by omega))]; rfl
      subst hz
      have g := L.out.err
      go_wp2
      exact ⟨rfl, rfl, Below.refl _ _⟩

/-- A place as a value. -/
def insV (x : In) : Value := .agg #[.int .i64 x.o, .int .i64 x.r, .int .i64 x.a, .int .i64 x.b, .int .i64 x.n]
/-- Two places in two blocks, beside what was there at first. -/
structure Pair (w0 : World) (k k2 : Nat) (x y : In) (w : World) : Prop where
  one : Five w k x.o x.r x.a x.b x.n
  two : Five w k2 y.o y.r y.a y.b y.n
  ne : k ≠ k2
  n1 : w0.heap.size ≤ k
  n2 : w0.heap.size ≤ k2
  bel : Below w0.heap.size w0 w
theorem Pair.next {w0 w w' : World} {k k2 : Nat} {x y : In} (h : Pair w0 k k2 x y w) (hb : Below w.heap.size w w') : Pair w0 k k2 x y w' :=
  ⟨h.one.below hb, h.two.below hb, h.ne, h.n1, h.n2, h.bel.trans (hb.mono h.bel.size)⟩
theorem Pair.new (w : World) (x y : In) (T T' : TypeId) : Pair w w.heap.size (w.heap.size + 1) x y ((w.alloc (.cells #[.int .i64 x.o, .int .i64 x.r, .int .i64 x.a, .int .i64 x.b, .int .i64 x.n] T)).alloc (.cells #[.int .i64 y.o, .int .i64 y.r, .int .i64 y.a, .int .i64 y.b, .int .i64 y.n] T')) :=
  ⟨(Five.new _ _ _ _ _ _ _).alloc _, Five.second _ _ _ _ _ _ _ _, by omega, Nat.le_refl _, by omega, ((Below.refl _ _).alloc (Nat.le_refl _) _).alloc (by simp) _⟩

set_option maxHeartbeats 4000000 in
theorem withField_82 (o r a b n : Int) (p : List UInt8) (hp : p.length ≤ 281474976710656) (ae : Addr) (w : World) (hL : LayE ae w) :
    Calls Tryd.prog 61 #[.agg #[.int .i64 o, .int .i64 r, .int .i64 a, .int .i64 b, .int .i64 n], .int .i32 82, .string (bs p)] w fun e w' => e = endI ae insV ((regI p).map (fun v => (⟨o, v, a, b, n⟩ : In))) ∧ Below w.heap.size w w' := by
  have P0 := hid_mk (Pair.new w ⟨o, r, a, b, n⟩ ⟨0, 0, 0, 0, 0⟩ 25 25)
  have s := registerIn_any p hp ae _ (hL.below P0.out.bel)
  cases hn : regI p with
  | some v =>
    simp only [hn, endI_some] at s
    have S := hid_mk s
    clear s hn hL hp
    simp only [Option.map_some, endI_some, insV]
    go_enter Tryd.func61, Tryd.ntmps61
    go_wp2_with (go_at_call 66; refine S.out.mono ?_; rintro e w1 ⟨rfl, hb⟩; refine Hid.out ?_)
    refine Lib.hid ?_
    have P1 := hid_mk (P0.out.next hb)
    clear hb P0
    have hne := P1.out.ne
    obtain ⟨l1, c0, c1, c2, c3, c4, f0, f1, f2, f3, f4⟩ := P1.out.one
    obtain ⟨l2, d0, d1, d2, d3, d4, g0, g1, g2, g3, g4⟩ := P1.out.two
    go_wp2
    refine bodyPost_ret (v := .agg #[.int .i64 _, .int .i64 _, .int .i64 _, .int .i64 _, .int .i64 _]) (by simp [results, Tryd.results61, go_sem, d0, d1, d2, d3, d4]) rfl ⟨rfl, ?_⟩
    exact Below.setCell (Below.setCell (Below.setCell (Below.setCell (Below.setCell (Below.setCell P1.out.bel (Nat.le_refl _) _) (Nat.le_succ _) _) (Nat.le_succ _) _) (Nat.le_succ _) _) (Nat.le_succ _) _) (Nat.le_succ _) _
  | none =>
    simp only [hn, endI_none] at s
    have S := hid_mk s
    clear s hn hL hp
    simp only [Option.map_none, endI_none]
    go_enter Tryd.func61, Tryd.ntmps61
    go_wp2_with (go_at_call 66; refine S.out.mono ?_; rintro e w1 ⟨rfl, hb⟩; refine Hid.out ?_)
    refine Lib.hid ?_
    have P1 := hid_mk (P0.out.next hb)
    clear hb P0
    go_wp2
    exact ⟨rfl, rfl, P1.out.bel⟩
set_option maxHeartbeats 4000000 in
theorem withField_65 (o r a b n : Int) (p : List UInt8) (hp : p.length ≤ 281474976710656) (ae : Addr) (w : World) (hL : LayE ae w) :
    Calls Tryd.prog 61 #[.agg #[.int .i64 o, .int .i64 r, .int .i64 a, .int .i64 b, .int .i64 n], .int .i32 65, .string (bs p)] w fun e w' => e = endI ae insV ((regI p).map (fun v => (⟨o, r, v, b, n⟩ : In))) ∧ Below w.heap.size w w' := by
  have P0 := hid_mk (Pair.new w ⟨o, r, a, b, n⟩ ⟨0, 0, 0, 0, 0⟩ 25 25)
  have s := registerIn_any p hp ae _ (hL.below P0.out.bel)
  cases hn : regI p with
  | some v =>
    simp only [hn, endI_some] at s
    have S := hid_mk s
    clear s hn hL hp
    simp only [Option.map_some, endI_some, insV]
    go_enter Tryd.func61, Tryd.ntmps61
    go_wp2_with (go_at_call 66; refine S.out.mono ?_; rintro e w1 ⟨rfl, hb⟩; refine Hid.out ?_)
    refine Lib.hid ?_
    have P1 := hid_mk (P0.out.next hb)
    clear hb P0
    have hne := P1.out.ne
    obtain ⟨l1, c0, c1, c2, c3, c4, f0, f1, f2, f3, f4⟩ := P1.out.one
    obtain ⟨l2, d0, d1, d2, d3, d4, g0, g1, g2, g3, g4⟩ := P1.out.two
    go_wp2
    refine bodyPost_ret (v := .agg #[.int .i64 _, .int .i64 _, .int .i64 _, .int .i64 _, .int .i64 _]) (by simp [results, Tryd.results61, go_sem, d0, d1, d2, d3, d4]) rfl ⟨rfl, ?_⟩
    exact Below.setCell (Below.setCell (Below.setCell (Below.setCell (Below.setCell (Below.setCell P1.out.bel (Nat.le_refl _) _) (Nat.le_succ _) _) (Nat.le_succ _) _) (Nat.le_succ _) _) (Nat.le_succ _) _) (Nat.le_succ _) _
  | none =>
    simp only [hn, endI_none] at s
    have S := hid_mk s
    clear s hn hL hp
    simp only [Option.map_none, endI_none]
    go_enter Tryd.func61, Tryd.ntmps61
    go_wp2_with (go_at_call 66; refine S.out.mono ?_; rintro e w1 ⟨rfl, hb⟩; refine Hid.out ?_)
    refine Lib.hid ?_
    have P1 := hid_mk (P0.out.next hb)
    clear hb P0
    go_wp2
    exact ⟨rfl, rfl, P1.out.bel⟩
set_option maxHeartbeats 4000000 in
theorem withField_66 (o r a b n : Int) (p : List UInt8) (hp : p.length ≤ 281474976710656) (ae : Addr) (w : World) (hL : LayE ae w) :
    Calls Tryd.prog 61 #[.agg #[.int .i64 o, .int .i64 r, .int .i64 a, .int .i64 b, .int .i64 n], .int .i32 66, .string (bs p)] w fun e w' => e = endI ae insV ((regI p).map (fun v => (⟨o, r, a, v, n⟩ : In))) ∧ Below w.heap.size w w' := by
  have P0 := hid_mk (Pair.new w ⟨o, r, a, b, n⟩ ⟨0, 0, 0, 0, 0⟩ 25 25)
  have s := registerIn_any p hp ae _ (hL.below P0.out.bel)
  cases hn : regI p with
  | some v =>
    simp only [hn, endI_some] at s
    have S := hid_mk s
    clear s hn hL hp
    simp only [Option.map_some, endI_some, insV]
    go_enter Tryd.func61, Tryd.ntmps61
    go_wp2_with (go_at_call 66; refine S.out.mono ?_; rintro e w1 ⟨rfl, hb⟩; refine Hid.out ?_)
    refine Lib.hid ?_
    have P1 := hid_mk (P0.out.next hb)
    clear hb P0
    have hne := P1.out.ne
    obtain ⟨l1, c0, c1, c2, c3, c4, f0, f1, f2, f3, f4⟩ := P1.out.one
    obtain ⟨l2, d0, d1, d2, d3, d4, g0, g1, g2, g3, g4⟩ := P1.out.two
    go_wp2
    refine bodyPost_ret (v := .agg #[.int .i64 _, .int .i64 _, .int .i64 _, .int .i64 _, .int .i64 _]) (by simp [results, Tryd.results61, go_sem, d0, d1, d2, d3, d4]) rfl ⟨rfl, ?_⟩
    exact Below.setCell (Below.setCell (Below.setCell (Below.setCell (Below.setCell (Below.setCell P1.out.bel (Nat.le_refl _) _) (Nat.le_succ _) _) (Nat.le_succ _) _) (Nat.le_succ _) _) (Nat.le_succ _) _) (Nat.le_succ _) _
  | none =>
    simp only [hn, endI_none] at s
    have S := hid_mk s
    clear s hn hL hp
    simp only [Option.map_none, endI_none]
    go_enter Tryd.func61, Tryd.ntmps61
    go_wp2_with (go_at_call 66; refine S.out.mono ?_; rintro e w1 ⟨rfl, hb⟩; refine Hid.out ?_)
    refine Lib.hid ?_
    have P1 := hid_mk (P0.out.next hb)
    clear hb P0
    go_wp2
    exact ⟨rfl, rfl, P1.out.bel⟩
set_option maxHeartbeats 4000000 in
theorem withField_78 (o r a b n : Int) (p : List UInt8) (hp : p.length ≤ 281474976710656) (ae : Addr) (w : World) (hL : LayE ae w) :
    Calls Tryd.prog 61 #[.agg #[.int .i64 o, .int .i64 r, .int .i64 a, .int .i64 b, .int .i64 n], .int .i32 78, .string (bs p)] w fun e w' => e = endI ae insV ((numI p).map (fun v => (⟨o, r, a, b, v⟩ : In))) ∧ Below w.heap.size w w' := by
  have P0 := hid_mk (Pair.new w ⟨o, r, a, b, n⟩ ⟨0, 0, 0, 0, 0⟩ 25 25)
  have s := numberIn_any p hp ae _ (hL.below P0.out.bel)
  cases hn : numI p with
  | some v =>
    simp only [hn, endI_some] at s
    have S := hid_mk s
    clear s hn hL hp
    simp only [Option.map_some, endI_some, insV]
    go_enter Tryd.func61, Tryd.ntmps61
    go_wp2_with (go_at_call 67; refine S.out.mono ?_; rintro e w1 ⟨rfl, hb⟩; refine Hid.out ?_)
    refine Lib.hid ?_
    have P1 := hid_mk (P0.out.next hb)
    clear hb P0
    have hne := P1.out.ne
    obtain ⟨l1, c0, c1, c2, c3, c4, f0, f1, f2, f3, f4⟩ := P1.out.one
    obtain ⟨l2, d0, d1, d2, d3, d4, g0, g1, g2, g3, g4⟩ := P1.out.two
    go_wp2
    refine bodyPost_ret (v := .agg #[.int .i64 _, .int .i64 _, .int .i64 _, .int .i64 _, .int .i64 _]) (by simp [results, Tryd.results61, go_sem, d0, d1, d2, d3, d4]) rfl ⟨rfl, ?_⟩
    exact Below.setCell (Below.setCell (Below.setCell (Below.setCell (Below.setCell (Below.setCell P1.out.bel (Nat.le_refl _) _) (Nat.le_succ _) _) (Nat.le_succ _) _) (Nat.le_succ _) _) (Nat.le_succ _) _) (Nat.le_succ _) _
  | none =>
    simp only [hn, endI_none] at s
    have S := hid_mk s
    clear s hn hL hp
    simp only [Option.map_none, endI_none]
    go_enter Tryd.func61, Tryd.ntmps61
    go_wp2_with (go_at_call 67; refine S.out.mono ?_; rintro e w1 ⟨rfl, hb⟩; refine Hid.out ?_)
    refine Lib.hid ?_
    have P1 := hid_mk (P0.out.next hb)
    clear hb P0
    go_wp2
    exact ⟨rfl, rfl, P1.out.bel⟩
end Go.Proofs.YtdcghcbliajcpaaDoor
