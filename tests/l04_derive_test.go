package tests

import (
	"math"
	"slices"
	"testing"

	"loop.example/g00249/impl"
)

// Numbers at every edge of the chapter, small ones and ones as far out as an int goes.
var edgeNumbers = []int{
	math.MinInt, math.MinInt + 1, math.MinInt + 63, math.MinInt32, -65537, -65536, -4096, -64, -8, -7, -1,
	0, 1, 2, 3, 6, 7, 8, 9, 62, 63, 64, 65, 4032, 4095, 4096, 4097, 65535, 65536, 65537, 1 << 32,
	math.MaxInt - 65536, math.MaxInt - 65535, math.MaxInt - 4096, math.MaxInt - 64, math.MaxInt - 1, math.MaxInt,
}

// keysAt has right words of all rightKeys, with Ns within their bounds, at the ends, and outside them.
func keysAt() []impl.Word {
	var words []impl.Word
	for _, k := range rightKeys() {
		for _, n := range []int{0, 1, 7, 63, 4095, 4096, 65535, k.Base, k.Top, k.Top + 1, (k.Base + k.Top) / 2} {
			words = append(words, impl.Word{N: n, Is: true, Key: k})
		}
	}
	return words
}

// notKeys has words of which nothing is made: ones that are no keys, right and wrong, and keys that are wrong by N, by their key, or by both.
func notKeys() []impl.Word {
	words := []impl.Word{{}, {N: 3}, {N: 65535}, {N: 3, Key: impl.Key{Top: 24, Perms: 63}}, {N: 3, Key: impl.Root()}}
	for _, n := range wrongNs {
		words = append(words, impl.Word{N: n}, impl.Word{N: n, Is: true}, impl.Word{N: n, Is: true, Key: impl.Root()}, impl.Word{N: n, Key: impl.Root()})
	}
	for i, k := range wrongKeys() {
		words = append(words, impl.Word{N: 3, Is: true, Key: k}, impl.Word{N: 3, Key: k}, impl.Word{N: wrongNs[i%len(wrongNs)], Is: true, Key: k})
	}
	return words
}

// sealers has, by Seal, all words of some keys that may seal with it, and beside them those that may not.
func sealers() (may [8][]impl.Word, mayNot []impl.Word) {
	for _, x := range [][2]int{{0, 8}, {0, 24}, {0, 4096}, {1, 8}, {1, 2}, {3, 4}, {7, 8}} {
		for _, perms := range []int{impl.PmSeal, impl.MaxPerms} {
			for n := max(x[0], 1); n < min(x[1], 8); n++ {
				may[n] = append(may[n], impl.Word{N: n, Is: true, Key: impl.Key{Base: x[0], Top: x[1], Perms: perms}})
			}
		}
	}
	whole := impl.Key{Top: 4096, Perms: 63}
	for n := range 8 {
		mayNot = append(mayNot,
			impl.Word{N: n, Key: whole}, impl.Word{N: n}, impl.Word{N: n, Is: true, Key: impl.Key{Top: 4097, Perms: 63}},
			impl.Word{N: n, Is: true, Key: impl.Key{Top: 4096, Perms: 64 + 63}}, impl.Word{N: n, Is: true, Key: impl.Key{Top: 4096, Perms: -1}},
			impl.Word{N: n, Is: true, Key: impl.Key{Top: 4096, Perms: 63 - impl.PmSeal}}, impl.Word{N: n, Is: true, Key: impl.Key{Top: 4096}},
			impl.Word{N: n, Is: true, Key: impl.Key{Top: n, Perms: 63}}, impl.Word{N: n, Is: true, Key: impl.Key{Base: n + 1, Top: 24, Perms: 63}},
			impl.Word{N: n, Is: true, Key: impl.Key{Base: n, Top: n, Perms: 63}}, impl.Word{N: n, Is: true, Key: impl.Key{Perms: 63}})
		for seal := 1; seal < 8; seal++ {
			mayNot = append(mayNot, impl.Word{N: n, Is: true, Key: impl.Key{Top: 4096, Perms: 63, Seal: seal}})
		}
	}
	for _, n := range edgeNumbers {
		if n < 1 || n > 7 {
			mayNot = append(mayNot, impl.Word{N: n, Is: true, Key: whole})
		}
	}
	return may, append(mayNot, notKeys()...)
}

// anySealers has all of sealers in one list.
func anySealers() []impl.Word {
	may, mayNot := sealers()
	return append(slices.Concat(may[:]...), mayNot...)
}

// bareOf is the word that is answered where nothing is made.
func bareOf(w impl.Word) impl.Word {
	n := w.N % 65536
	if n < 0 {
		n += 65536
	}
	return impl.Word{N: n}
}

// allMade has what each of the five makes of w.
func allMade(w impl.Word, numbers []int, bys []impl.Word) []impl.Word {
	var made []impl.Word
	for _, n := range numbers {
		made = append(made, impl.Weaken(w, n), impl.Narrow(w, n), impl.Point(w, n))
	}
	for _, by := range bys {
		made = append(made, impl.SealBy(w, by), impl.OpenBy(w, by))
	}
	return made
}

// Promise 4, its first half, of words right and wrong.
func TestAllThatIsMadeIsRightAndUnderWhatItIsMadeOf(t *testing.T) {
	bys := anySealers()
	for _, w := range append(keysAt(), notKeys()...) {
		for _, made := range allMade(w, edgeNumbers, bys) {
			if !impl.WordOk(made) || !impl.Unders(made, []impl.Word{w}) {
				t.Fatal(made, "is made of", w)
			}
			if made.Is && !impl.Covers(w.Key, made.Key) {
				t.Fatal(made, "is not covered by", w)
			}
		}
	}
}

// However often something is made of what was made, it is under the first.
func TestWhatIsMadeAgainIsUnderTheFirst(t *testing.T) {
	by := impl.KeyWord(impl.Key{Top: 8, Perms: impl.PmSeal}, 3)
	for _, k := range []impl.Key{impl.Root(), {Top: 24, Perms: 63}, {Base: 64, Top: 200, Perms: 7}, {Base: 4, Top: 10, Perms: 9, Seal: 3}} {
		first := []impl.Word{impl.KeyWord(k, k.Base)}
		last := first
		for range 3 {
			var next []impl.Word
			for _, w := range last {
				next = append(next, allMade(w, []int{-1, 0, 4, 6, 61, 65, 130, 4096}, []impl.Word{by})...)
			}
			for _, w := range next {
				if !impl.WordOk(w) || !impl.Unders(w, first) {
					t.Fatal(w, "is made of", first)
				}
			}
			last = eachOnce(next)
		}
	}
}

func eachOnce(words []impl.Word) []impl.Word {
	seen := map[impl.Word]bool{}
	return slices.DeleteFunc(words, func(w impl.Word) bool {
		was := seen[w]
		seen[w] = true
		return was
	})
}

// Promise 4, its second half: who has another number, or may not seal, opens nothing.
func TestWhatIsSealedIsOpenedByItsKeyAlone(t *testing.T) {
	may, mayNot := sealers()
	for _, w := range keysAt() {
		if w.Key.Seal != 0 {
			continue
		}
		for seal := 1; seal < 8; seal++ {
			sealed := impl.SealBy(w, may[seal][0])
			want := w
			want.Key.Seal = seal
			if sealed != want {
				t.Fatalf("SealBy(%v, %v) = %v", w, may[seal][0], sealed)
			}
			for other := range may {
				for _, by := range may[other] {
					if got := impl.OpenBy(sealed, by); other == seal && got != w || other != seal && got != bareOf(w) {
						t.Fatalf("OpenBy(%v, %v) = %v", sealed, by, got)
					}
				}
			}
			for _, by := range mayNot {
				if got := impl.OpenBy(sealed, by); got != bareOf(w) {
					t.Fatalf("OpenBy(%v, %v) = %v", sealed, by, got)
				}
			}
		}
	}
}

func TestSealByOfAll(t *testing.T) {
	may, mayNot := sealers()
	for _, w := range keysAt() {
		for seal, bys := range may {
			want := w
			want.Key.Seal = seal
			if w.Key.Seal != 0 {
				want = bareOf(w)
			}
			for _, by := range bys {
				if got := impl.SealBy(w, by); got != want {
					t.Fatalf("SealBy(%v, %v) = %v", w, by, got)
				}
			}
		}
		for _, by := range mayNot {
			if got := impl.SealBy(w, by); got != bareOf(w) {
				t.Fatalf("SealBy(%v, %v) = %v", w, by, got)
			}
		}
	}
}

func TestOpenByOfAll(t *testing.T) {
	may, mayNot := sealers()
	for _, w := range keysAt() {
		for seal, bys := range may {
			want := bareOf(w)
			if w.Key.Seal == seal {
				want = w
				want.Key.Seal = 0
			}
			for _, by := range bys {
				if got := impl.OpenBy(w, by); got != want {
					t.Fatalf("OpenBy(%v, %v) = %v", w, by, got)
				}
			}
		}
		for _, by := range mayNot {
			if got := impl.OpenBy(w, by); got != bareOf(w) {
				t.Fatalf("OpenBy(%v, %v) = %v", w, by, got)
			}
		}
	}
}

// Each of the ways not to be one who seals, alone, beside one who is.
func TestWhoMaySeal(t *testing.T) {
	w := impl.Word{N: 4, Is: true, Key: impl.Key{Base: 4, Top: 10, Perms: 3}}
	for _, x := range []struct {
		name string
		by   impl.Word
		ok   bool
	}{
		{"PmSeal alone", impl.Word{N: 3, Is: true, Key: impl.Key{Top: 8, Perms: 32}}, true},
		{"the least number", impl.Word{N: 1, Is: true, Key: impl.Key{Top: 8, Perms: 63}}, true},
		{"the greatest number", impl.Word{N: 7, Is: true, Key: impl.Key{Top: 8, Perms: 63}}, true},
		{"its Base", impl.Word{N: 3, Is: true, Key: impl.Key{Base: 3, Top: 4, Perms: 32}}, true},
		{"the last below its Top", impl.Word{N: 7, Is: true, Key: impl.Key{Base: 4, Top: 8, Perms: 32}}, true},
		{"the whole", impl.Word{N: 5, Is: true, Key: impl.Root()}, true},
		{"0", impl.Word{N: 0, Is: true, Key: impl.Root()}, false},
		{"past MaxSeal", impl.Word{N: 8, Is: true, Key: impl.Root()}, false},
		{"goes round to a Seal", impl.Word{N: 65536 + 3, Is: true, Key: impl.Root()}, false},
		{"below 0", impl.Word{N: -3, Is: true, Key: impl.Root()}, false},
		{"at its Top", impl.Word{N: 3, Is: true, Key: impl.Key{Top: 3, Perms: 63}}, false},
		{"past its Top", impl.Word{N: 4, Is: true, Key: impl.Key{Top: 3, Perms: 63}}, false},
		{"below its Base", impl.Word{N: 3, Is: true, Key: impl.Key{Base: 4, Top: 8, Perms: 63}}, false},
		{"empty bounds", impl.Word{N: 3, Is: true, Key: impl.Key{Base: 3, Top: 3, Perms: 63}}, false},
		{"no PmSeal", impl.Word{N: 3, Is: true, Key: impl.Key{Top: 8, Perms: 31}}, false},
		{"sealed itself", impl.Word{N: 3, Is: true, Key: impl.Key{Top: 8, Perms: 63, Seal: 3}}, false},
		{"no key", impl.Word{N: 3}, false},
		{"no key, but has one", impl.Word{N: 3, Key: impl.Root()}, false},
		{"no right bounds", impl.Word{N: 3, Is: true, Key: impl.Key{Top: 4095, Perms: 63}}, false},
		{"no right Perms", impl.Word{N: 3, Is: true, Key: impl.Key{Top: 8, Perms: 127}}, false},
		{"no right Seal", impl.Word{N: 3, Is: true, Key: impl.Key{Top: 8, Perms: 63, Seal: 8}}, false},
	} {
		sealed, bare := w, impl.Word{N: 4}
		sealed.Key.Seal = x.by.N
		want := sealed
		if !x.ok {
			want = bare
		}
		if got := impl.SealBy(w, x.by); got != want {
			t.Errorf("%s: SealBy = %v", x.name, got)
		}
		opened := w
		if !x.ok {
			opened = bare
		}
		if got := impl.OpenBy(sealed, x.by); got != opened {
			t.Errorf("%s: OpenBy = %v", x.name, got)
		}
		if got := impl.OpenBy(w, x.by); got != bare {
			t.Errorf("%s: OpenBy of what is not sealed = %v", x.name, got)
		}
	}
}

func TestWeakenOfAllPermsAndMasks(t *testing.T) {
	for perms := range 64 {
		w := impl.Word{N: 5, Is: true, Key: impl.Key{Base: 4, Top: 10, Perms: perms}}
		for mask := -200; mask <= 200; mask++ {
			want := w
			want.Key.Perms = 0
			left := (mask + 256) % 64
			for _, perm := range []int{1, 2, 4, 8, 16, 32} {
				if perms/perm%2 == 1 && left/perm%2 == 1 {
					want.Key.Perms += perm
				}
			}
			if got := impl.Weaken(w, mask); got != want {
				t.Fatalf("Weaken(%v, %v) = %v", w, mask, got)
			}
		}
	}
}

func TestWeakenEdges(t *testing.T) {
	w := impl.Word{N: 65535, Is: true, Key: impl.Root()}
	for _, x := range [][2]int{
		{0, 0}, {1, 1}, {31, 31}, {32, 32}, {63, 63}, {64, 0}, {65, 1}, {127, 63}, {128, 0}, {1<<32 + 9, 9},
		{-1, 63}, {-2, 62}, {-63, 1}, {-64, 0}, {-65, 63}, {math.MinInt, 0}, {math.MinInt + 5, 5}, {math.MaxInt, 63}, {math.MaxInt - 1, 62},
	} {
		want := w
		want.Key.Perms = x[1]
		if got := impl.Weaken(w, x[0]); got != want {
			t.Errorf("Weaken(%v, %v) = %v", w, x[0], got)
		}
	}
}

func TestNarrowOfAll(t *testing.T) {
	for _, w := range keysAt() {
		for _, n := range append([]int{4, 5, 59, 61, 70, 126, 2016, 3968}, edgeNumbers...) {
			want := bareOf(w)
			if w.Key.Seal == 0 && n >= 0 && n <= 4096 && w.N+n <= 4096 {
				low, high := impl.Wide(w.N, w.N+n)
				if low >= w.Key.Base && high <= w.Key.Top {
					want = w
					want.Key.Base, want.Key.Top = low, high
				}
			}
			if got := impl.Narrow(w, n); got != want {
				t.Fatalf("Narrow(%v, %v) = %v", w, n, got)
			}
		}
	}
}

func TestNarrowEdges(t *testing.T) {
	small, whole := impl.Key{Top: 24, Perms: 63}, impl.Root()
	for _, x := range []struct {
		name      string
		k         impl.Key
		at, n     int
		base, top int
		ok        bool
	}{
		{"some", small, 4, 6, 4, 10, true},
		{"all", small, 0, 24, 0, 24, true},
		{"to the Top", small, 4, 20, 4, 24, true},
		{"past the Top by one", small, 4, 21, 0, 0, false},
		{"none", small, 4, 0, 4, 4, true},
		{"none at the Top", small, 24, 0, 24, 24, true},
		{"one at the Top", small, 24, 1, 0, 0, false},
		{"none past the Top", small, 25, 0, 0, 0, false},
		{"below 0", small, 4, -1, 0, 0, false},
		{"far below 0", small, 4, math.MinInt, 0, 0, false},
		{"below the Base", impl.Key{Base: 4, Top: 10}, 3, 2, 0, 0, false},
		{"from the Base on", impl.Key{Base: 4, Top: 10}, 4, 2, 4, 6, true},
		{"no room in an int", small, 1, math.MaxInt, 0, 0, false},
		{"no room in an int, whole", whole, 4096, math.MaxInt - 4095, 0, 0, false},
		{"an int has room", whole, 0, math.MaxInt, 0, 0, false},
		{"wider, within", impl.Key{Base: 64, Top: 204, Perms: 1}, 130, 70, 128, 200, true},
		{"wider, to the word's own", impl.Key{Base: 128, Top: 204, Perms: 1}, 129, 74, 128, 204, true},
		{"within, but wider than the word's own", impl.Key{Base: 63, Top: 125, Perms: 1}, 64, 61, 0, 0, false},
		{"the same, where the word has one more", impl.Key{Base: 63, Top: 126, Perms: 1}, 64, 61, 64, 126, true},
		{"within, but wider by far", impl.Key{Base: 2016, Top: 4000, Perms: 1}, 2048, 1951, 0, 0, false},
		{"past the Top, and wider", impl.Key{Base: 128, Top: 204, Perms: 1}, 130, 75, 0, 0, false},
		{"wider, though none", impl.Key{Base: 63, Top: 126}, 65, 0, 64, 66, true},
		{"to MaxAddr", whole, 64, 4032, 64, 4096, true},
		{"to MaxAddr, the last", whole, 4095, 1, 4032, 4096, true},
		{"past MaxAddr by one", whole, 4095, 2, 0, 0, false},
		{"at MaxAddr, none", whole, 4096, 0, 0, 4096, true},
		{"at MaxAddr, none, of less than the whole", impl.Key{Base: 64, Top: 4096}, 4096, 0, 0, 0, false},
		{"past MaxAddr, none", whole, 4097, 0, 0, 0, false},
		{"at the greatest N", whole, 65535, 0, 0, 0, false},
		{"the whole", whole, 0, 4096, 0, 4096, true},
		{"no Packed, the whole", whole, 1, 4095, 0, 4096, true},
		{"no Packed, less than the whole", impl.Key{Base: 0, Top: 4032}, 0, 4033, 0, 0, false},
		{"sealed", impl.Key{Top: 24, Perms: 63, Seal: 1}, 4, 6, 0, 0, false},
	} {
		want := impl.Word{N: x.at}
		if x.ok {
			want = impl.Word{N: x.at, Is: true, Key: impl.Key{Base: x.base, Top: x.top, Perms: x.k.Perms}}
		}
		if got := impl.Narrow(impl.Word{N: x.at, Is: true, Key: x.k}, x.n); got != want {
			t.Errorf("%s: Narrow(%v at %v, %v) = %v", x.name, x.k, x.at, x.n, got)
		}
	}
}

// Of N outside the word's bounds too: where a key points is no matter until it is used.
func TestPointOfAll(t *testing.T) {
	for _, w := range keysAt() {
		for _, x := range numbersLeft {
			want := w
			want.N = x[1]
			if w.Key.Seal != 0 {
				want = impl.Word{N: x[1]}
			}
			if got := impl.Point(w, x[0]); got != want {
				t.Fatalf("Point(%v, %v) = %v", w, x[0], got)
			}
		}
	}
}

// Whatever is sealed is no key any more, in all but OpenBy.
func TestOfWhatIsSealedNothingIsMade(t *testing.T) {
	may, _ := sealers()
	for seal := 1; seal < 8; seal++ {
		w := impl.Word{N: 5, Is: true, Key: impl.Key{Base: 4, Top: 10, Perms: 63, Seal: seal}}
		bare := impl.Word{N: 5}
		for _, n := range edgeNumbers {
			if impl.Weaken(w, n) != bare || impl.Narrow(w, n) != bare || impl.Point(w, n) != bareOf(impl.Word{N: n}) {
				t.Error("made of what is sealed", w, n)
			}
		}
		for _, by := range slices.Concat(may[:]...) {
			if got := impl.SealBy(w, by); got != bare {
				t.Errorf("SealBy(%v, %v) = %v", w, by, got)
			}
		}
	}
}

func TestOfWrongWordsNothingIsMade(t *testing.T) {
	bys := anySealers()
	for _, w := range notKeys() {
		bare := bareOf(w)
		for _, n := range edgeNumbers {
			if impl.Weaken(w, n) != bare || impl.Narrow(w, n) != bare || impl.Point(w, n) != bareOf(impl.Word{N: n}) {
				t.Error("made of", w, n)
			}
		}
		for _, by := range bys {
			if impl.SealBy(w, by) != bare || impl.OpenBy(w, by) != bare {
				t.Error("made of", w, by)
			}
		}
	}
}

// A word may seal itself, or what it is made of, and is then opened by what it was.
func TestWhoSealsItself(t *testing.T) {
	w := impl.Word{N: 3, Is: true, Key: impl.Key{Top: 8, Perms: 63}}
	sealed := impl.SealBy(w, w)
	if sealed != (impl.Word{N: 3, Is: true, Key: impl.Key{Top: 8, Perms: 63, Seal: 3}}) || impl.OpenBy(sealed, w) != w {
		t.Error(sealed)
	}
	if got := impl.OpenBy(sealed, sealed); got != (impl.Word{N: 3}) {
		t.Error("opened by what is sealed itself", got)
	}
}
