/- What the program's and the library's tables hold, as a row's list gives it: the names of the ops, the powers of ten; strconv.Itoa, strconv.Atoi, strings.TrimPrefix by the library's contracts. -/
import Derived.Test.YtdcghcbliajcpaaDoorTxt
import Derived.Test.YtdcghcbliajcpaaDoorLays
import Derived.Lib.LaidTab
import Derived.Sort.Grow
import Derived.Lib.AtoiErrMem
namespace Go.Proofs.YtdcghcbliajcpaaDoor
open Go.ChangeShapes Go.WideShapes Go.ChangeAt Go.RowKit
set_option maxRecDepth 100000

/-- A string of these bytes. -/
def bs (l : List UInt8) : ByteArray := ⟨l.toArray⟩
theorem bs_append (x y : List UInt8) : bs x ++ bs y = bs (x ++ y) := ByteArray.mk_append_mk x y
theorem bs_size (l : List UInt8) : (bs l).size = l.length := by simp [bs, ByteArray.size]
theorem bs_list (l : List UInt8) : (bs l).data.toList = l := by simp [bs]
theorem bs_data (s : ByteArray) : bs s.data.toList = s := Lib.mk_data s
theorem bs_extract (l : List UInt8) (a b : Nat) : (bs l).extract a b = bs ((l.drop a).take (b - a)) := ByteArray.extract_mk l a b
theorem bs_inj {x y : List UInt8} (h : bs x = bs y) : x = y := by
  have := congrArg (fun s : ByteArray => s.data.toList) h
  simpa [bs] using this

/-- The names of the ops and the powers of ten lie where the program's and the library's texts lay them. -/
structure Lay (w : World) : Prop where
  names : ∀ i, i < 16 → w.cell? ⟨0, i, none⟩ = some (.string (bs (nmL (i : Int))))
  tab : Lib.TabIs Tryd.prog w "internal/strconv.uint64pow10" .u64 Lib.pow10Tab
theorem var_on {W W' : World} {n : String} {cs : Array Value} (hb : Below W.heap.size W W') (h : W.var? Tryd.prog n = some cs) : W'.var? Tryd.prog n = some cs := by
  unfold World.var? at h ⊢
  cases hg : Tryd.prog.globalNamed n with
  | none => simp [hg] at h
  | some g =>
    simp only [hg, Option.bind_some] at h ⊢
    have hlt : g < W.heap.size := by
      rcases Nat.lt_or_ge g W.heap.size with h' | h'
      · exact h'
      · simp [Array.getElem?_eq_none h'] at h
    rw [hb.block g hlt]
    exact h
theorem Lay.below {w w' : World} (h : Lay w) (hb : Below w.heap.size w w') : Lay w' :=
  ⟨fun i hi => (hb.cell (World.block_lt_of_cell? _ _ (h.names i hi))).trans (h.names i hi), var_on hb h.tab⟩
theorem Lay.drew {w : World} (h : Lay w) : Lay w.drew := h.below (Below.refl _ _).drew
theorem Lay.alloc {w : World} (h : Lay w) (o : Obj) : Lay (w.alloc o) := h.below ((Below.refl _ _).alloc (Nat.le_refl _) _)
theorem Lay.name {w : World} (h : Lay w) {o : Int} (h0 : 0 ≤ o) (h1 : o < 16) : w.cell? ⟨0, o.toNat, none⟩ = some (.string (bs (nmL o))) := by
  have := h.names o.toNat (by omega)
  rwa [Int.toNat_of_nonneg h0] at this

theorem below_grown (w : World) (k : Nat) (os : Array Obj) : Below w.heap.size w (Sort.grow (w.drewN k) os) :=
  ⟨rfl, rfl, rfl, by show w.heap.size ≤ (w.heap ++ os).size; rw [Array.size_append]; omega, fun j hj => Sort.heap_grow_old (w.drewN k) os hj⟩
theorem itoa_any (n : Int) (h0 : -9223372036854775808 ≤ n) (h1 : n ≤ 9223372036854775807) (w : World) (hL : Lay w) :
    Calls Tryd.prog 55 #[.int .i64 n] w fun e w' => e = .returned (.string (bs (Lib.itoa n))) ∧ Below w.heap.size w w' :=
  (Any.strconv_Itoa Tryd.laysM171 n h0 h1 w hL.tab).mono fun e w' ⟨he, k, os, hw⟩ => ⟨he, by rw [hw]; exact below_grown _ _ _⟩
theorem trim_any (s p : List UInt8) (w : World) :
    Calls Tryd.prog 70 #[.string (bs s), .string (bs p)] w fun e w' => e = .returned (.string (bs (Lib.trimPrefix s p))) ∧ w' = w := by
  have h := Any.strings_TrimPrefix Tryd.lays101 (bs s) (bs p) w
  rw [bs_list, bs_list] at h
  exact h
theorem atoi_ok (s : List UInt8) (hs : s.length ≤ 281474976710656) (v : Int) (h : numI s = some v) (w : World) :
    Calls Tryd.prog 71 #[.string (bs s)] w fun e w' => e = .returned (.tuple #[.int .i64 v, .nilIface]) ∧ Below w.heap.size w w' := by
  have hv : Lib.atoiAll s = .ok v := by
    unfold numI at h
    split at h
    · rename_i hh
      rw [hh, Option.some.inj h]
    · cases h
  refine (Any.strconv_Atoi_ok Tryd.laysC172 (bs s) (by rw [bs_size]; omega) v (by rw [bs_list]; exact hv) w).mono fun e w' ⟨he, hw⟩ => ⟨he, ?_⟩
  rcases hw with rfl | ⟨t, rfl⟩
  · exact Below.refl _ _
  · exact Lib.bytesWorld_below _ _ _
theorem atoi_bad (s : List UInt8) (hs : s.length ≤ 281474976710656) (h : numI s = none) (tp tp' : TypeId) (p p' : Value) (w : World) (h3 : w.cell? ⟨3, 0, none⟩ = some (.iface tp p)) (h4 : w.cell? ⟨4, 0, none⟩ = some (.iface tp' p')) :
    Calls Tryd.prog 71 #[.string (bs s)] w fun e w' => ∃ m N, e = .returned (.tuple #[.int .i64 m, .iface 124 (.pointer (some ⟨N, 0, none⟩))]) ∧ Below w.heap.size w w' := by
  rcases hh : Lib.atoiAll s with v | _ | _
  · rw [numI, hh] at h
    cases h
  · exact (Any.strconv_Atoi_syntax Tryd.laysC172 (bs s) (by rw [bs_size]; omega) (by rw [bs_list]; exact hh) _ w h3 (Or.inr ⟨_, _, rfl⟩)).mono fun e w' ⟨N, he, _, _, hb⟩ => ⟨_, N, he, hb⟩
  · exact (Any.strconv_Atoi_range Tryd.laysC172 (bs s) (by rw [bs_size]; omega) (by rw [bs_list]; exact hh) _ w h4 (Or.inr ⟨_, _, rfl⟩)).mono fun e w' ⟨N, he, _, _, hb⟩ => ⟨_, N, he, hb⟩
end Go.Proofs.YtdcghcbliajcpaaDoor
