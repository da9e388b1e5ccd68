package tests

import (
	"math"
	"testing"

	"loop.example/g00249/impl"
)

// Bounds that are a key's: common ones, empty ones, whole ones, ones of each E.
var exactBounds = [][2]int{
	{0, 0}, {0, 1}, {0, 63}, {0, 64}, {4, 4}, {4, 8}, {4, 10}, {8, 10}, {8, 8}, {10, 10}, {63, 63}, {63, 125}, {63, 126},
	{64, 64}, {64, 126}, {64, 200}, {62, 128}, {128, 204}, {128, 4096}, {0, 2016}, {2016, 2048}, {2048, 2048},
	{0, 4032}, {64, 4096}, {4032, 4032}, {4032, 4096}, {0, 4096},
}

// Bounds that are right, but wider when they are packed; the last ones are the empty ones that have no Packed.
var vagueBounds = [][2]int{{65, 65}, {63, 127}, {64, 125}, {130, 200}, {129, 201}, {2047, 2047}, {0, 4033}, {1, 4096}, {63, 4096}, {4095, 4096}, {4096, 4096}}

var wrongPerms = []int{math.MinInt, math.MinInt + 63, -64, -63, -1, 64, 65, 127, 1 << 32, math.MaxInt}

var wrongSeals = []int{math.MinInt, math.MinInt + 7, -8, -7, -1, 8, 9, 15, 1 << 32, math.MaxInt}

// rightKeys has keys of all exactBounds, with some Perms, sealed and not.
func rightKeys() []impl.Key {
	var keys []impl.Key
	for _, x := range exactBounds {
		for _, perms := range []int{0, impl.PmLoad, impl.PmStore, impl.PmLoad | impl.PmStore, impl.PmSeal | impl.PmLoad, impl.MaxPerms} {
			keys = append(keys, impl.Key{Base: x[0], Top: x[1], Perms: perms, Seal: (x[0] + perms) % 3 * 3})
		}
	}
	return keys
}

// wrongKeys has keys that are wrong by one thing alone, and by all.
func wrongKeys() []impl.Key {
	keys := []impl.Key{{Base: 1}, {Base: 8, Top: 4, Perms: 1}, {Base: 4096, Top: 4095}, {Base: 4096}}
	for _, x := range vagueBounds {
		keys = append(keys, impl.Key{Base: x[0], Top: x[1]}, impl.Key{Base: x[0], Top: x[1], Perms: 63, Seal: 7})
	}
	for _, n := range noAddresses {
		keys = append(keys, impl.Key{Base: n, Top: 64}, impl.Key{Top: n}, impl.Key{Base: n, Top: n}, impl.Key{Base: n, Top: 4096, Perms: 63})
	}
	for _, n := range wrongPerms {
		keys = append(keys, impl.Key{Top: 8, Perms: n}, impl.Key{Top: 4096, Perms: n}, impl.Key{Perms: n, Seal: 7})
	}
	for _, n := range wrongSeals {
		keys = append(keys, impl.Key{Top: 8, Seal: n}, impl.Key{Top: 4096, Perms: 63, Seal: n}, impl.Key{Seal: n})
	}
	for _, n := range []int{math.MinInt, math.MaxInt} {
		keys = append(keys, impl.Key{Base: n, Top: n, Perms: n, Seal: n})
	}
	return keys
}

// permsAmong tells, one by one, whether each of b's Perms is one of a's.
func permsAmong(a, b impl.Key) bool {
	for _, perm := range []int{1, 2, 4, 8, 16, 32} {
		if b.Perms&perm != 0 && a.Perms&perm == 0 {
			return false
		}
	}
	return true
}

func TestPermsAreAsNumbered(t *testing.T) {
	got := [6]int{impl.PmLoad, impl.PmStore, impl.PmRun, impl.PmTake, impl.PmPut, impl.PmSeal}
	if got != [6]int{1, 2, 4, 8, 16, 32} || impl.MaxPerms != 63 || impl.MaxSeal != 7 {
		t.Error(got, impl.MaxPerms, impl.MaxSeal)
	}
}

func TestKeyOkOfAllBounds(t *testing.T) {
	for base := 0; base <= impl.MaxAddr; base++ {
		for top := 0; top <= impl.MaxAddr; top += 1 + base%3 {
			k := impl.Key{Base: base, Top: top, Perms: top % 64, Seal: base % 8}
			if impl.KeyOk(k) != impl.Exact(base, top) {
				t.Fatalf("KeyOk(%v) = %v", k, impl.KeyOk(k))
			}
		}
	}
}

func TestKeyOkOfAllPermsAndSeals(t *testing.T) {
	for perms := -70; perms <= 140; perms++ {
		for seal := -10; seal <= 20; seal++ {
			k := impl.Key{Base: 4, Top: 8, Perms: perms, Seal: seal}
			want := perms >= 0 && perms <= 63 && seal >= 0 && seal <= 7
			if impl.KeyOk(k) != want {
				t.Errorf("KeyOk(%v) = %v", k, !want)
			}
		}
	}
}

func TestKeyOkEdges(t *testing.T) {
	for _, k := range rightKeys() {
		if !impl.KeyOk(k) {
			t.Error("refused", k)
		}
	}
	for _, k := range wrongKeys() {
		if impl.KeyOk(k) {
			t.Error("accepted", k)
		}
	}
}

// Promise 2, of all threes of the keys.
func TestWhoIsCoveredByACoveredOneIsCovered(t *testing.T) {
	keys := rightKeys()
	for _, a := range keys {
		for _, b := range keys {
			if !impl.Covers(a, b) {
				continue
			}
			for _, c := range keys {
				if impl.Covers(b, c) && !impl.Covers(a, c) {
					t.Fatal(a, "covers", b, "which covers", c)
				}
			}
		}
	}
}

func TestCoversOfAllPairs(t *testing.T) {
	keys := rightKeys()
	for _, a := range keys {
		if !impl.Covers(a, a) || !impl.Covers(impl.Root(), a) {
			t.Error("not covered", a)
		}
		for _, b := range keys {
			want := b.Base >= a.Base && b.Top <= a.Top && permsAmong(a, b)
			if impl.Covers(a, b) != want {
				t.Errorf("Covers(%v, %v) = %v", a, b, !want)
			}
		}
	}
}

func TestCoversOfAllPerms(t *testing.T) {
	for x := range 64 {
		for y := range 64 {
			a, b := impl.Key{Top: 8, Perms: x}, impl.Key{Base: 4, Top: 8, Perms: y}
			if impl.Covers(a, b) != permsAmong(a, b) {
				t.Errorf("Covers(%v, %v) = %v", a, b, impl.Covers(a, b))
			}
		}
	}
}

func TestCoversEdges(t *testing.T) {
	for _, x := range []struct {
		a, b impl.Key
		want bool
	}{
		{impl.Key{Base: 4, Top: 10}, impl.Key{Base: 4, Top: 10}, true},
		{impl.Key{Base: 4, Top: 10}, impl.Key{Base: 3, Top: 10}, false},
		{impl.Key{Base: 4, Top: 10}, impl.Key{Base: 4, Top: 11}, false},
		{impl.Key{Base: 4, Top: 10}, impl.Key{Base: 10, Top: 12}, false},
		{impl.Key{Base: 4, Top: 10}, impl.Key{Base: 4, Top: 4}, true},
		{impl.Key{Base: 4, Top: 10}, impl.Key{Base: 10, Top: 10}, true},
		// empty ones lie where they lie
		{impl.Key{Base: 4, Top: 10}, impl.Key{Base: 11, Top: 11}, false},
		{impl.Key{Base: 4, Top: 10}, impl.Key{Base: 3, Top: 3}, false},
		{impl.Key{Base: 4, Top: 4}, impl.Key{Base: 4, Top: 4}, true},
		{impl.Key{Base: 4, Top: 4}, impl.Key{Base: 4, Top: 5}, false},
		// Seals are not asked for
		{impl.Key{Base: 4, Top: 10, Perms: 1}, impl.Key{Base: 4, Top: 10, Perms: 1, Seal: 7}, true},
		{impl.Key{Base: 4, Top: 10, Perms: 1, Seal: 7}, impl.Key{Base: 4, Top: 10, Perms: 1}, true},
		{impl.Key{Base: 4, Top: 10, Perms: 1, Seal: 3}, impl.Key{Base: 5, Top: 9, Seal: 5}, true},
		{impl.Key{Base: 4, Top: 10, Perms: 1, Seal: 3}, impl.Key{Base: 5, Top: 9, Perms: 2, Seal: 3}, false},
		// the whole
		{impl.Key{Top: 4096}, impl.Key{Top: 4096}, true},
		{impl.Key{Top: 4096}, impl.Key{Base: 4032, Top: 4096}, true},
		{impl.Key{Top: 4032}, impl.Key{Top: 4096}, false},
		{impl.Key{}, impl.Key{}, true},
	} {
		if impl.Covers(x.a, x.b) != x.want {
			t.Errorf("Covers(%v, %v) = %v", x.a, x.b, !x.want)
		}
	}
}

func TestRoot(t *testing.T) {
	if k := impl.Root(); k != (impl.Key{Base: 0, Top: 4096, Perms: 63, Seal: 0}) || !impl.KeyOk(k) {
		t.Error(k)
	}
}

func TestMeetOfAllPairs(t *testing.T) {
	keys := rightKeys()
	for _, a := range keys {
		for _, b := range keys {
			want := impl.Key{Base: max(a.Base, b.Base), Top: min(a.Top, b.Top), Perms: a.Perms & b.Perms}
			right := impl.Exact(want.Base, want.Top)
			if !right {
				want = impl.Key{}
			}
			k, ok := impl.Meet(a, b)
			if ok != right || k != want {
				t.Fatalf("Meet(%v, %v) = %v, %v", a, b, k, ok)
			}
			if ok && !(impl.KeyOk(k) && impl.Covers(a, k) && impl.Covers(b, k)) {
				t.Fatalf("Meet(%v, %v) = %v is not under both", a, b, k)
			}
		}
	}
}

// Whatever two keys cover, what they Meet in covers.
func TestMeetIsTheGreatest(t *testing.T) {
	keys := rightKeys()
	for i, a := range keys {
		for _, b := range keys[i:] {
			m, ok := impl.Meet(a, b)
			if !ok {
				continue
			}
			for _, k := range keys {
				if impl.Covers(a, k) && impl.Covers(b, k) && !impl.Covers(m, k) {
					t.Fatal(a, "and", b, "cover", k, "but not", m)
				}
			}
		}
	}
}

func TestMeetEdges(t *testing.T) {
	for _, x := range []struct {
		a, b, want impl.Key
		ok         bool
	}{
		{impl.Key{Base: 2, Top: 8, Perms: 3}, impl.Key{Base: 4, Top: 10, Perms: 6}, impl.Key{Base: 4, Top: 8, Perms: 2}, true},
		{impl.Key{Base: 2, Top: 8, Perms: 3, Seal: 3}, impl.Key{Base: 4, Top: 10, Perms: 6, Seal: 3}, impl.Key{Base: 4, Top: 8, Perms: 2}, true},
		{impl.Key{Top: 8, Seal: 7}, impl.Key{Top: 8}, impl.Key{Top: 8}, true},
		{impl.Key{Top: 8, Perms: 5}, impl.Key{Top: 8, Perms: 10}, impl.Key{Top: 8}, true},
		// ones that only touch have empty bounds in common, ones that lie apart none
		{impl.Key{Top: 4}, impl.Key{Base: 4, Top: 8}, impl.Key{Base: 4, Top: 4}, true},
		{impl.Key{Top: 4, Perms: 1}, impl.Key{Base: 5, Top: 8, Perms: 1}, impl.Key{}, false},
		{impl.Key{Top: 0}, impl.Key{Base: 4, Top: 8}, impl.Key{}, false},
		{impl.Key{Base: 4, Top: 8}, impl.Key{Base: 6, Top: 6}, impl.Key{Base: 6, Top: 6}, true},
		{impl.Key{Base: 4, Top: 4}, impl.Key{Base: 4, Top: 4}, impl.Key{Base: 4, Top: 4}, true},
		{impl.Key{Base: 4, Top: 4}, impl.Key{Base: 5, Top: 5}, impl.Key{}, false},
		// what is in common is not Exact
		{impl.Key{Base: 63, Top: 125, Perms: 1}, impl.Key{Base: 64, Top: 200, Perms: 1}, impl.Key{}, false},
		{impl.Key{Base: 63, Top: 126, Perms: 1}, impl.Key{Base: 64, Top: 200, Perms: 1}, impl.Key{Base: 64, Top: 126, Perms: 1}, true},
		// the whole
		{impl.Root(), impl.Root(), impl.Root(), true},
		{impl.Root(), impl.Key{Base: 4, Top: 8, Perms: 9, Seal: 2}, impl.Key{Base: 4, Top: 8, Perms: 9}, true},
	} {
		for _, y := range [][2]impl.Key{{x.a, x.b}, {x.b, x.a}} {
			if k, ok := impl.Meet(y[0], y[1]); k != x.want || ok != x.ok {
				t.Errorf("Meet(%v, %v) = %v, %v", y[0], y[1], k, ok)
			}
		}
	}
}

func TestWrongKeysCoverAndMeetNothing(t *testing.T) {
	wrong := wrongKeys()
	others := append(rightKeys(), wrong...)
	for _, a := range wrong {
		for _, b := range others {
			for _, y := range [][2]impl.Key{{a, b}, {b, a}} {
				if impl.Covers(y[0], y[1]) {
					t.Errorf("Covers(%v, %v)", y[0], y[1])
				}
				if k, ok := impl.Meet(y[0], y[1]); ok || k != (impl.Key{}) {
					t.Errorf("Meet(%v, %v) = %v, %v", y[0], y[1], k, ok)
				}
			}
		}
	}
}
