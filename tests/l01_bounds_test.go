package tests

import (
	"math"
	"testing"

	"loop.example/g00249/impl"
)

// Numbers that are no address, as far out as an int goes.
var noAddresses = []int{math.MinInt, math.MinInt + 1, math.MinInt32, -4096, -1, impl.MaxAddr + 1, impl.MaxAddr + 64, 1 << 32, math.MaxInt - 1, math.MaxInt}

// fits tells whether B and L have room for the bounds at e.
func fits(base, top, e int) bool {
	unit := 1 << e
	return base < 64*unit && top-(base-base%unit) <= 63*unit
}

// isLeastPack tells, by the words of the chapter, whether p is what the bounds are packed as.
func isLeastPack(p impl.Packed, base, top int) bool {
	for e := range p.E {
		if fits(base, top, e) {
			return false
		}
	}
	if p.E < 0 || p.E > 6 || p.B < 0 || p.B > 63 || p.L < 0 || p.L > 63 {
		return false
	}
	unit := 1 << p.E
	down := p.B*unit <= base && base < (p.B+1)*unit
	enough := (p.B+p.L)*unit >= top
	noMore := p.L == 0 || (p.B+p.L-1)*unit < top
	return down && enough && noMore
}

func hasNoPack(base, top int) bool {
	for e := range 7 {
		if fits(base, top, e) {
			return false
		}
	}
	return true
}

// Promise 1, of all bounds that there are.
func TestWhatIsPackedHasAllThatItHad(t *testing.T) {
	for base := range impl.MaxAddr + 1 {
		for top := base; top <= impl.MaxAddr; top++ {
			low, high := impl.Wide(base, top)
			if low > base || high < top || low < 0 || high > impl.MaxAddr {
				t.Fatalf("Wide(%d, %d) = %d, %d loses something", base, top, low, high)
			}
			if impl.Exact(base, top) != (low == base && high == top) {
				t.Fatalf("Exact(%d, %d) beside Wide %d, %d", base, top, low, high)
			}
			p, ok := impl.Pack(base, top)
			if !ok {
				if p != (impl.Packed{}) || !hasNoPack(base, top) || low != 0 || high != impl.MaxAddr {
					t.Fatalf("Pack(%d, %d) = %v, false; Wide %d, %d", base, top, p, low, high)
				}
				continue
			}
			if !isLeastPack(p, base, top) {
				t.Fatalf("Pack(%d, %d) = %v", base, top, p)
			}
			if a, b, ok := impl.Unpack(p); !ok || a != low || b != high {
				t.Fatalf("Unpack(%v) = %d, %d, %v; Wide %d, %d", p, a, b, ok, low, high)
			}
		}
	}
}

// What has been widened once is not widened again.
func TestWideIsExact(t *testing.T) {
	for base := 0; base <= impl.MaxAddr; base += 7 {
		for top := base; top <= impl.MaxAddr; top += 3 {
			low, high := impl.Wide(base, top)
			if !impl.Exact(low, high) {
				t.Fatalf("Wide(%d, %d) = %d, %d, which is not Exact", base, top, low, high)
			}
		}
	}
}

func TestBoundsOk(t *testing.T) {
	for _, x := range [][2]int{{0, 0}, {0, 1}, {5, 60}, {63, 63}, {0, 4096}, {4095, 4096}, {4096, 4096}} {
		if !impl.BoundsOk(x[0], x[1]) {
			t.Error("bounds refused", x)
		}
	}
	for _, x := range [][2]int{{1, 0}, {5, 4}, {4096, 0}, {4096, 4095}, {-1, -1}, {-1, 0}, {0, 4097}, {4097, 4097}, {-1, 4097}} {
		if impl.BoundsOk(x[0], x[1]) {
			t.Error("bounds accepted", x)
		}
	}
}

func TestPackEdges(t *testing.T) {
	for _, x := range []struct {
		base, top int
		p         impl.Packed
	}{
		{0, 0, impl.Packed{}},
		{5, 60, impl.Packed{B: 5, L: 55}},
		{63, 63, impl.Packed{B: 63}},
		{0, 63, impl.Packed{L: 63}},
		{63, 126, impl.Packed{B: 63, L: 63}},
		{63, 127, impl.Packed{E: 1, B: 31, L: 33}},
		{0, 64, impl.Packed{E: 1, L: 32}},
		{64, 64, impl.Packed{E: 1, B: 32}},
		{65, 65, impl.Packed{E: 1, B: 32, L: 1}},
		{2, 128, impl.Packed{E: 1, B: 1, L: 63}},
		{1, 128, impl.Packed{E: 2, L: 32}},
		{2, 129, impl.Packed{E: 2, L: 33}},
		{127, 128, impl.Packed{E: 1, B: 63, L: 1}},
		{128, 128, impl.Packed{E: 2, B: 32}},
		{130, 200, impl.Packed{E: 2, B: 32, L: 18}},
		{2047, 2047, impl.Packed{E: 5, B: 63, L: 1}},
		{2048, 2048, impl.Packed{E: 6, B: 32}},
		{0, 2016, impl.Packed{E: 5, L: 63}},
		{0, 2017, impl.Packed{E: 6, L: 32}},
		{0, 4032, impl.Packed{E: 6, L: 63}},
		{63, 4032, impl.Packed{E: 6, L: 63}},
		{64, 4096, impl.Packed{E: 6, B: 1, L: 63}},
		{4032, 4032, impl.Packed{E: 6, B: 63}},
		{4095, 4095, impl.Packed{E: 6, B: 63, L: 1}},
		{4095, 4096, impl.Packed{E: 6, B: 63, L: 1}},
	} {
		if p, ok := impl.Pack(x.base, x.top); !ok || p != x.p {
			t.Errorf("Pack(%d, %d) = %v, %v", x.base, x.top, p, ok)
		}
	}
}

// Bounds that have no Packed: whole ones, ones that would have to be, and empty ones at the far end.
func TestBoundsWithoutPack(t *testing.T) {
	for _, x := range [][2]int{{0, 4096}, {1, 4096}, {63, 4096}, {0, 4033}, {63, 4033}, {0, 4095}, {4096, 4096}} {
		if p, ok := impl.Pack(x[0], x[1]); ok || p != (impl.Packed{}) {
			t.Errorf("Pack(%v) = %v, %v", x, p, ok)
		}
		if low, high := impl.Wide(x[0], x[1]); low != 0 || high != impl.MaxAddr {
			t.Errorf("Wide(%v) = %d, %d", x, low, high)
		}
		if whole := x == [2]int{0, 4096}; impl.Exact(x[0], x[1]) != whole {
			t.Errorf("Exact(%v) = %v", x, !whole)
		}
	}
}

func TestWideAndExact(t *testing.T) {
	for _, x := range []struct {
		base, top, low, high int
	}{
		{0, 0, 0, 0}, {63, 126, 63, 126}, {63, 127, 62, 128}, {65, 65, 64, 66}, {64, 64, 64, 64},
		{130, 200, 128, 200}, {129, 201, 128, 204}, {2047, 2047, 2016, 2048}, {0, 4031, 0, 4032},
		{64, 4096, 64, 4096}, {65, 4095, 64, 4096}, {4095, 4095, 4032, 4096}, {4032, 4032, 4032, 4032},
	} {
		if low, high := impl.Wide(x.base, x.top); low != x.low || high != x.high {
			t.Errorf("Wide(%d, %d) = %d, %d", x.base, x.top, low, high)
		}
		if want := x.base == x.low && x.top == x.high; impl.Exact(x.base, x.top) != want {
			t.Errorf("Exact(%d, %d) = %v", x.base, x.top, !want)
		}
	}
}

func TestWrongBounds(t *testing.T) {
	wrong := [][2]int{{1, 0}, {5, 4}, {4096, 0}, {4096, 4095}}
	for _, x := range noAddresses {
		for _, y := range []int{0, 1, 63, 64, 4095, 4096} {
			wrong = append(wrong, [2]int{x, y}, [2]int{y, x})
		}
		for _, y := range noAddresses {
			wrong = append(wrong, [2]int{x, y})
		}
	}
	for _, x := range wrong {
		if impl.BoundsOk(x[0], x[1]) || impl.Exact(x[0], x[1]) {
			t.Error("bounds accepted", x)
		}
		if p, ok := impl.Pack(x[0], x[1]); ok || p != (impl.Packed{}) {
			t.Errorf("Pack(%v) = %v, %v", x, p, ok)
		}
		if low, high := impl.Wide(x[0], x[1]); low != 0 || high != 0 {
			t.Errorf("Wide(%v) = %d, %d", x, low, high)
		}
	}
}

func TestUnpackOfEach(t *testing.T) {
	for e, unit := range []int{1, 2, 4, 8, 16, 32, 64} {
		for b := range 64 {
			for l := range 64 {
				want := b*unit + l*unit
				if want > 4096 {
					want = 4096
				}
				low, high, ok := impl.Unpack(impl.Packed{E: e, B: b, L: l})
				if !ok || low != b*unit || high != want || !impl.BoundsOk(low, high) {
					t.Fatalf("Unpack(%d, %d, %d) = %d, %d, %v", e, b, l, low, high, ok)
				}
			}
		}
	}
}

// The second number is held back just where it would pass MaxAddr.
func TestUnpackAtMostMaxAddr(t *testing.T) {
	for _, x := range []struct {
		p         impl.Packed
		low, high int
	}{
		{impl.Packed{E: 6, B: 63, L: 63}, 4032, 4096},
		{impl.Packed{E: 6, B: 63, L: 2}, 4032, 4096},
		{impl.Packed{E: 6, B: 63, L: 1}, 4032, 4096},
		{impl.Packed{E: 6, B: 63}, 4032, 4032},
		{impl.Packed{E: 6, B: 1, L: 63}, 64, 4096},
		{impl.Packed{E: 6, B: 2, L: 63}, 128, 4096},
		{impl.Packed{E: 6, L: 63}, 0, 4032},
		{impl.Packed{E: 5, B: 63, L: 63}, 2016, 4032},
		{impl.Packed{}, 0, 0},
	} {
		if low, high, ok := impl.Unpack(x.p); !ok || low != x.low || high != x.high {
			t.Errorf("Unpack(%v) = %d, %d, %v", x.p, low, high, ok)
		}
	}
}

func TestWrongPacked(t *testing.T) {
	var wrong []impl.Packed
	for _, e := range []int{math.MinInt, -64, -8, -7, -1, 7, 8, 14, 62, 63, 64, 1 << 32, math.MaxInt} {
		wrong = append(wrong, impl.Packed{E: e}, impl.Packed{E: e, B: 1, L: 1}, impl.Packed{E: e, B: e, L: e})
	}
	for _, n := range []int{math.MinInt, math.MinInt + 1, -64, -63, -1, 64, 65, 127, 128, 1 << 32, math.MaxInt - 1, math.MaxInt} {
		for e := range 7 {
			wrong = append(wrong, impl.Packed{E: e, B: n}, impl.Packed{E: e, L: n}, impl.Packed{E: e, B: n, L: 1}, impl.Packed{E: e, B: 63, L: n}, impl.Packed{E: e, B: n, L: n})
		}
	}
	for _, p := range wrong {
		if low, high, ok := impl.Unpack(p); ok || low != 0 || high != 0 {
			t.Errorf("Unpack(%v) = %d, %d, %v", p, low, high, ok)
		}
	}
}
