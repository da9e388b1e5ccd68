package tests

import (
	"math"
	"testing"

	"loop.example/g00249/impl"
)

// Perms that no key has all of.
var noPerms = []int{
	math.MinInt, math.MinInt + 1, math.MinInt + 63, math.MinInt32, -128, -65, -64, -63, -32, -8, -2, -1,
	64, 65, 64 + 63, 128, 128 + 8, 1 << 16, 1<<32 + 1, math.MaxInt - 63, math.MaxInt - 1, math.MaxInt,
}

// askedPerms has all that can be asked for, and what can't.
func askedPerms() []int {
	perms := append([]int{}, noPerms...)
	for perm := range 64 {
		perms = append(perms, perm)
	}
	return perms
}

// addressesOf has numbers at the ends of the key's bounds, amid them, and outside them.
func addressesOf(k impl.Key) []int {
	ends := []int{k.Base - 1, k.Base, k.Base + 1, (k.Base + k.Top) / 2, k.Top - 1, k.Top, k.Top + 1}
	return append(ends, math.MinInt, math.MinInt+1, -4096, -1, 0, 1, 4095, 4096, 65535, 65536, 65536+k.Base, k.Base-65536, math.MaxInt-1, math.MaxInt)
}

// mayAll tells, one by one, whether the key has each of these Perms, and that there are no others among them.
func mayAll(k impl.Key, perm int) bool {
	if perm < 0 || perm > 63 {
		return false
	}
	return permsAmong(k, impl.Key{Perms: perm})
}

// trapByWords is what the chapter says of a word that is right and a key.
func trapByWords(k impl.Key, n, perm int) int {
	if k.Seal > 0 {
		return impl.TpSeal
	}
	if !mayAll(k, perm) {
		return impl.TpPerm
	}
	for at := k.Base; at < k.Top; at++ {
		if at == n {
			return impl.TpNone
		}
	}
	return impl.TpBound
}

func TestTrapsAreAsNumbered(t *testing.T) {
	got := [6]int{impl.TpNone, impl.TpKey, impl.TpSeal, impl.TpPerm, impl.TpBound, impl.TpStop}
	if got != [6]int{0, 1, 2, 3, 4, 5} {
		t.Error(got)
	}
}

// Promise 5: where a key may, each one that covers it may, with all that is asked for and with less of it.
func TestWhoMayWithFewerMayWithMore(t *testing.T) {
	keys := rightKeys()
	may := 0
	for _, less := range keys {
		for _, more := range keys {
			// Covers asks for bounds and Perms alone; what is sealed may nothing, whatever it covers
			if more.Seal != 0 || !impl.Covers(more, less) {
				continue
			}
			for _, n := range addressesOf(less) {
				for _, perm := range askedPerms() {
					if impl.Try(impl.Word{N: 5, Is: true, Key: less}, n, perm) != impl.TpNone {
						continue
					}
					may++
					if got := impl.Try(impl.Word{N: 9, Is: true, Key: more}, n, perm); got != impl.TpNone {
						t.Fatalf("%v may at %v with %v, but Try of %v, which covers it, is %v", less, n, perm, more, got)
					}
				}
			}
		}
	}
	if may == 0 {
		t.Error("nobody may anything")
	}
}

func TestWhoMayWithMorePermsAskedMayWithFewer(t *testing.T) {
	for perms := range 64 {
		w := impl.Word{N: 5, Is: true, Key: impl.Key{Base: 4, Top: 10, Perms: perms}}
		for asked := range 64 {
			if impl.Try(w, 7, asked) != impl.TpNone {
				continue
			}
			for fewer := range 64 {
				if permsAmong(impl.Key{Perms: asked}, impl.Key{Perms: fewer}) && impl.Try(w, 7, fewer) != impl.TpNone {
					t.Fatalf("%v may with %v but not with %v", w, asked, fewer)
				}
			}
		}
	}
}

// What is made of a key may nothing that the key may not.
func TestWhatIsMadeMayNoMore(t *testing.T) {
	bys := anySealers()
	for i, w := range keysAt() {
		if w.Key.Seal != 0 || i%3 != 0 {
			continue
		}
		for _, made := range allMade(w, []int{-1, 0, 1, 4, 6, 9, 31, 63, 64, 4096}, bys) {
			for _, n := range addressesOf(made.Key) {
				for _, perm := range []int{0, 1, 2, 3, 32, 33, 63} {
					if impl.Try(made, n, perm) == impl.TpNone && impl.Try(w, n, perm) != impl.TpNone {
						t.Fatalf("%v may at %v with %v, but not %v, of which it is made", made, n, perm, w)
					}
				}
			}
		}
	}
}

func TestTryOfAllKeys(t *testing.T) {
	perms := askedPerms()
	for i, k := range rightKeys() {
		// where the word points is no matter: n alone is asked for
		for _, w := range []impl.Word{{N: k.Base, Is: true, Key: k}, {N: 65535 - i, Is: true, Key: k}} {
			for _, n := range addressesOf(k) {
				for _, perm := range perms {
					if got, want := impl.Try(w, n, perm), trapByWords(k, n, perm); got != want {
						t.Fatalf("Try(%v, %v, %v) = %v, not %v", w, n, perm, got, want)
					}
				}
			}
		}
	}
}

func TestTryOfAllPerms(t *testing.T) {
	for perms := range 64 {
		k := impl.Key{Base: 4, Top: 10, Perms: perms}
		for asked := -200; asked <= 200; asked++ {
			for _, n := range []int{3, 4, 9, 10} {
				if got, want := impl.Try(impl.KeyWord(k, 4), n, asked), trapByWords(k, n, asked); got != want {
					t.Fatalf("Try(%v, %v, %v) = %v, not %v", k, n, asked, got, want)
				}
			}
		}
	}
}

func TestTryEdges(t *testing.T) {
	some := impl.Key{Base: 4, Top: 10, Perms: impl.PmLoad | impl.PmTake}
	whole := impl.Root()
	for _, x := range []struct {
		name    string
		k       impl.Key
		n, perm int
		want    int
	}{
		{"at Base", some, 4, impl.PmLoad, impl.TpNone},
		{"one below Base", some, 3, impl.PmLoad, impl.TpBound},
		{"one below Top", some, 9, impl.PmLoad, impl.TpNone},
		{"at Top", some, 10, impl.PmLoad, impl.TpBound},
		{"past Top", some, 11, impl.PmLoad, impl.TpBound},
		{"below 0", some, -1, impl.PmLoad, impl.TpBound},
		{"goes round to one within", some, 65536 + 5, impl.PmLoad, impl.TpBound},
		{"goes round from below 0 to one within", some, 5 - 65536, impl.PmLoad, impl.TpBound},
		{"as great as an int has it", some, math.MaxInt, impl.PmLoad, impl.TpBound},
		{"as small as an int has it", some, math.MinInt, impl.PmLoad, impl.TpBound},
		{"empty bounds", impl.Key{Base: 4, Top: 4, Perms: 63}, 4, impl.PmLoad, impl.TpBound},
		{"empty bounds at 0", impl.Key{Perms: 63}, 0, 0, impl.TpBound},
		{"one below empty bounds", impl.Key{Base: 4, Top: 4, Perms: 63}, 3, impl.PmLoad, impl.TpBound},
		{"the whole, the first", whole, 0, 63, impl.TpNone},
		{"the whole, the last", whole, 4095, 63, impl.TpNone},
		{"the whole, at Top", whole, 4096, 63, impl.TpBound},
		{"the whole, below 0", whole, -1, 63, impl.TpBound},
		{"the whole, as great as an int has it", whole, math.MaxInt, 63, impl.TpBound},
		{"the whole, as small as an int has it", whole, math.MinInt, 63, impl.TpBound},
		{"no perm is asked for", some, 5, 0, impl.TpNone},
		{"no perm is asked for, and there is none", impl.Key{Base: 4, Top: 10}, 5, 0, impl.TpNone},
		{"the other one that it has", some, 5, impl.PmTake, impl.TpNone},
		{"all that it has", some, 5, impl.PmLoad | impl.PmTake, impl.TpNone},
		{"one that it has not", some, 5, impl.PmStore, impl.TpPerm},
		{"one that it has not beside those that it has", some, 5, impl.PmLoad | impl.PmTake | impl.PmSeal, impl.TpPerm},
		{"all", some, 5, impl.MaxPerms, impl.TpPerm},
		{"all, and it has them", whole, 5, impl.MaxPerms, impl.TpNone},
		{"all but one, and it has them", whole, 5, impl.MaxPerms - impl.PmRun, impl.TpNone},
		{"64", whole, 5, 64, impl.TpPerm},
		{"64 beside one that it has", whole, 5, 65, impl.TpPerm},
		{"128", whole, 5, 128, impl.TpPerm},
		{"-1", whole, 5, -1, impl.TpPerm},
		{"-64", whole, 5, -64, impl.TpPerm},
		{"perm as great as an int has it", whole, 5, math.MaxInt, impl.TpPerm},
		{"perm as small as an int has it", whole, 5, math.MinInt, impl.TpPerm},
		{"no Perms, and one is asked for", impl.Key{Base: 4, Top: 10}, 5, impl.PmLoad, impl.TpPerm},
	} {
		if got := impl.Try(impl.KeyWord(x.k, 5), x.n, x.perm); got != x.want {
			t.Errorf("%s: Try(%v, %v, %v) = %v, not %v", x.name, x.k, x.n, x.perm, got, x.want)
		}
	}
}

// Of each set of things that trap, alone, two, three and all at once, the one that the chapter names first counts.
func TestWhichTrapComesFirst(t *testing.T) {
	noKey := []func(w impl.Word) impl.Word{
		func(w impl.Word) impl.Word { w.Is = false; return w },
		func(w impl.Word) impl.Word { w.N = -1; return w },
		func(w impl.Word) impl.Word { w.N = 65536; return w },
		func(w impl.Word) impl.Word { w.Key.Base, w.Key.Top = 130, 200; return w },
		func(w impl.Word) impl.Word { w.Key.Base, w.Key.Top = 10, 4; return w },
		func(w impl.Word) impl.Word { w.Key.Perms += 64; return w },
		func(w impl.Word) impl.Word { w.Key.Seal += 8; return w },
		func(w impl.Word) impl.Word { w.Key.Seal -= 8; return w },
	}
	for set := range 16 {
		w := impl.Word{N: 5, Is: true, Key: impl.Key{Base: 4, Top: 10, Perms: impl.PmLoad | impl.PmPut}}
		n, perm, want := 5, impl.PmLoad, impl.TpNone
		if set&8 != 0 {
			n, want = 10, impl.TpBound
		}
		if set&4 != 0 {
			perm, want = impl.PmLoad|impl.PmStore, impl.TpPerm
		}
		if set&2 != 0 {
			w.Key.Seal, want = 3, impl.TpSeal
		}
		if set&1 == 0 {
			if got := impl.Try(w, n, perm); got != want {
				t.Errorf("Try(%v, %v, %v) = %v, not %v", w, n, perm, got, want)
			}
			continue
		}
		for _, wrong := range noKey {
			if got := impl.Try(wrong(w), n, perm); got != impl.TpKey {
				t.Errorf("Try(%v, %v, %v) = %v, not TpKey", wrong(w), n, perm, got)
			}
		}
	}
}

func TestTryOfWrongWordsIsTpKey(t *testing.T) {
	for _, w := range notKeys() {
		for _, n := range append(addressesOf(w.Key), 3, 5) {
			for _, perm := range append([]int{0, 1, 2, 32, 63}, noPerms...) {
				if got := impl.Try(w, n, perm); got != impl.TpKey {
					t.Fatalf("Try(%v, %v, %v) = %v", w, n, perm, got)
				}
			}
		}
	}
}

// Promise 4, what is sealed may not be reached: with no seal, at no address, for nothing.
func TestWhatIsSealedIsNotReached(t *testing.T) {
	for _, k := range rightKeys() {
		for seal := 1; seal <= 7; seal++ {
			k.Seal = seal
			for _, n := range addressesOf(k) {
				for _, perm := range append([]int{0, 1, k.Perms, 63}, noPerms...) {
					if got := impl.Try(impl.Word{N: 5, Is: true, Key: k}, n, perm); got != impl.TpSeal {
						t.Fatalf("Try(%v, %v, %v) = %v", k, n, perm, got)
					}
				}
			}
		}
	}
}

func TestWhatIsOpenedAgainIsReachedAsBefore(t *testing.T) {
	for _, k := range rightKeys() {
		k.Seal = 0
		w := impl.KeyWord(k, k.Base)
		for seal := 1; seal <= 7; seal++ {
			by := impl.KeyWord(impl.Key{Top: 8, Perms: impl.PmSeal}, seal)
			sealed := impl.SealBy(w, by)
			opened := impl.OpenBy(sealed, by)
			other := impl.OpenBy(sealed, impl.Point(by, seal%7+1))
			for _, n := range addressesOf(k) {
				for _, perm := range []int{0, 1, 2, 32, 63, 64, -1} {
					got := [3]int{impl.Try(sealed, n, perm), impl.Try(opened, n, perm), impl.Try(other, n, perm)}
					if got != [3]int{impl.TpSeal, trapByWords(k, n, perm), impl.TpKey} {
						t.Fatalf("Try of %v sealed by %v, opened, and opened by another, at %v with %v: %v", k, seal, n, perm, got)
					}
				}
			}
		}
	}
}

// Whatever Try is given, it answers one of the traps that it has.
func TestTryAnswersATrap(t *testing.T) {
	for _, w := range append(keysAt(), notKeys()...) {
		for i, n := range edgeNumbers {
			got := impl.Try(w, n, edgeNumbers[len(edgeNumbers)-1-i])
			if got < impl.TpNone || got > impl.TpBound {
				t.Fatalf("Try(%v, %v, ..) = %v", w, n, got)
			}
		}
	}
}

// anyWords has words of all kinds: keys, numbers, wrong ones.
func anyWords() []impl.Word {
	words := notKeys()
	for i, k := range rightKeys() {
		words = append(words, impl.Word{N: i, Is: true, Key: k})
	}
	return words
}

// What is taken, and what may be put, with keys of all Perms, sealed or not: of a word all of it, or its number.
func TestTakenAndMayPutOfAllPerms(t *testing.T) {
	words := anyWords()
	for perms := range 64 {
		take := perms/8%2 == 1
		put := perms/16%2 == 1
		for _, by := range []impl.Word{
			{N: 5, Is: true, Key: impl.Key{Base: 4, Top: 10, Perms: perms}},
			// whether by may read or store at that place is not asked for here
			{N: 65535, Is: true, Key: impl.Key{Base: 4, Top: 10, Perms: perms, Seal: 1 + perms%7}},
			{N: 0, Is: true, Key: impl.Key{Base: 4, Top: 4, Perms: perms}},
			{N: 0, Is: true, Key: impl.Key{Top: 4096, Perms: perms}},
		} {
			for _, w := range words {
				want := w
				if !take {
					want = bareOf(w)
				}
				if got := impl.Taken(by, w); got != want {
					t.Fatalf("Taken(%v, %v) = %v", by, w, got)
				}
				if got := impl.MayPut(by, w); got != (put || !w.Is) {
					t.Fatalf("MayPut(%v, %v) = %v", by, w, got)
				}
			}
		}
	}
}

func TestTakenAndMayPutEdges(t *testing.T) {
	key := impl.KeyWord(impl.Key{Base: 64, Top: 200, Perms: 63, Seal: 2}, 65535)
	all := impl.KeyWord(impl.Root(), 0)
	for _, x := range []struct {
		name  string
		by, w impl.Word
		taken impl.Word
		put   bool
	}{
		{"a key by all", all, key, key, true},
		{"a key by PmTake alone", impl.Weaken(all, impl.PmTake), key, key, false},
		{"a key by PmPut alone", impl.Weaken(all, impl.PmPut), key, impl.Plain(65535), true},
		{"a key by all but PmTake", impl.Weaken(all, 63-impl.PmTake), key, impl.Plain(65535), true},
		{"a key by all but PmPut", impl.Weaken(all, 63-impl.PmPut), key, key, false},
		{"a key by nothing", impl.Weaken(all, 0), key, impl.Plain(65535), false},
		{"a key by itself", key, key, key, true},
		{"a number by all", all, impl.Plain(7), impl.Plain(7), true},
		{"a number by nothing", impl.Weaken(all, 0), impl.Plain(7), impl.Plain(7), true},
		{"a number by a number", impl.Plain(1), impl.Plain(7), impl.Plain(7), true},
		{"a key by a number", impl.Plain(1), key, impl.Plain(65535), false},
		{"a key by a number that has all bits", impl.Plain(65535), key, impl.Plain(65535), false},
		{"a key by the zero word", impl.Word{}, key, impl.Plain(65535), false},
		{"the zero key by all", all, impl.Word{Is: true}, impl.Word{Is: true}, true},
		{"the zero key by itself", impl.Word{Is: true}, impl.Word{Is: true}, impl.Word{}, false},
	} {
		if got := impl.Taken(x.by, x.w); got != x.taken {
			t.Errorf("%s: Taken(%v, %v) = %v", x.name, x.by, x.w, got)
		}
		if got := impl.MayPut(x.by, x.w); got != x.put {
			t.Errorf("%s: MayPut(%v, %v) = %v", x.name, x.by, x.w, got)
		}
	}
}

// Of a by that is wrong the chapter asks for its Perms alone, as of one that is right; so it does of a wrong w for whether it is a key.
func TestTakenAndMayPutOfWrongWords(t *testing.T) {
	words := anyWords()
	for _, by := range notKeys() {
		take, put := by.Key.Perms&8 != 0, by.Key.Perms&16 != 0
		for _, w := range words {
			want := w
			if !take {
				want = bareOf(w)
			}
			if got := impl.Taken(by, w); got != want {
				t.Fatalf("Taken(%v, %v) = %v", by, w, got)
			}
			if got := impl.MayPut(by, w); got != (put || !w.Is) {
				t.Fatalf("MayPut(%v, %v) = %v", by, w, got)
			}
		}
	}
}

// What is taken is under what was there, and right where that was.
func TestWhatIsTakenIsUnderWhatWasThere(t *testing.T) {
	for _, by := range anyWords() {
		for _, w := range keysAt() {
			if got := impl.Taken(by, w); !impl.WordOk(got) || !impl.Unders(got, []impl.Word{w}) || got.N != w.N {
				t.Fatalf("Taken(%v, %v) = %v", by, w, got)
			}
		}
	}
}

// Who covers a key takes by it, and puts by it, all that the key does.
func TestWhoTakesAndPutsWithFewerDoesWithMore(t *testing.T) {
	w := impl.KeyWord(impl.Key{Base: 64, Top: 200, Perms: 63}, 70)
	for _, less := range rightKeys() {
		for _, more := range rightKeys() {
			if !impl.Covers(more, less) {
				continue
			}
			a, b := impl.KeyWord(less, 0), impl.KeyWord(more, 0)
			if impl.Taken(a, w) == w && impl.Taken(b, w) != w || impl.MayPut(a, w) && !impl.MayPut(b, w) {
				t.Fatal(more, "covers", less)
			}
		}
	}
}
