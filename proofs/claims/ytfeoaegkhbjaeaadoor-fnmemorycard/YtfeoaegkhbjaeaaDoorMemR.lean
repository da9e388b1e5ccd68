/- What Read and Write answer, as lists. No condition. -/
import Derived.Test.YtfeoaegkhbjaeaaDoorMem
import Derived.Test.YtfeoaegkhbjaeaaDoorReach
import Derived.Test.YtfeoaegkhbjaeaaDoorTryS
namespace Go.Proofs.YtfeoaegkhbjaeaaDoor
set_option maxRecDepth 100000

/-- What Taken answers. -/
def takW (y x : Wd) : Wd := bif (bits .and .i64 y.p 8 == 8) then x else bareW x
theorem takW_V (y x : Wd) : takV (bits .and .i64 y.p 8 == 8) x.n x.i x.b x.t x.p x.s = wdV (takW y x) := by
  unfold takV takW
  cases (bits .and .i64 y.p 8 == 8) <;> rfl
/-- The trap of a read. -/
def rdZ (L : List Wd) (y : Wd) (n : Int) : Int :=
  bif tryZ y.n y.i y.b y.t y.p y.s n 1 == 0 then (bif inB n L.length then 0 else 4) else tryZ y.n y.i y.b y.t y.p y.s n 1
/-- What is read. -/
def rdW (L : List Wd) (G : List Bool) (y : Wd) (n : Int) : Wd := bif rdZ L y n == 0 then filW G (takW y (L.getD n.toNat wd0)) else wd0
/-- The trap of a write. -/
def wrZ (L : List Wd) (y : Wd) (n : Int) (x : Wd) : Int :=
  bif tryZ y.n y.i y.b y.t y.p y.s n 2 == 0 then (bif inB n L.length then (bif putB y.p x.i then 0 else 3) else 4) else tryZ y.n y.i y.b y.t y.p y.s n 2
/-- The words behind a write. -/
def wrL (L : List Wd) (G : List Bool) (y : Wd) (n : Int) (x : Wd) : List Wd := bif mokB L G then (bif wrZ L y n x == 0 then L.set n.toNat x else L) else []
end Go.Proofs.YtfeoaegkhbjaeaaDoor
