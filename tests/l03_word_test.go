package tests

import (
	"math"
	"slices"
	"testing"

	"loop.example/g00249/impl"
)

// Numbers, and what is left of each by 65536.
var numbersLeft = [][2]int{
	{0, 0}, {1, 1}, {5, 5}, {65534, 65534}, {65535, 65535}, {65536, 0}, {65537, 1}, {131071, 65535}, {131072, 0}, {131077, 5},
	{-1, 65535}, {-2, 65534}, {-65535, 1}, {-65536, 0}, {-65537, 65535}, {-131072, 0}, {-131073, 65535},
	{1 << 16, 0}, {1<<32 + 7, 7}, {-1<<32 - 7, 65529}, {math.MaxInt32, 65535}, {math.MinInt32, 0},
	{math.MaxInt, 65535}, {math.MaxInt - 1, 65534}, {math.MaxInt - 65535, 0}, {math.MinInt, 0}, {math.MinInt + 1, 1}, {math.MinInt + 65535, 65535},
}

// Numbers that are no word's.
var wrongNs = []int{math.MinInt, math.MinInt + 1, math.MinInt32, -65536, -1, 65536, 65537, 131072, 1 << 32, math.MaxInt - 1, math.MaxInt}

// keyOfWord is a key that words of these tests have: there are others above and below it.
var keyOfWord = impl.Key{Base: 4, Top: 10, Perms: impl.PmLoad | impl.PmStore, Seal: 3}

// anyLists has lists of all kinds: none, of no keys, of keys, of words that are wrong.
func anyLists() [][]impl.Word {
	noKeys := []impl.Word{impl.Plain(0), impl.Plain(65535)}
	var keys, wrong []impl.Word
	for i, k := range rightKeys() {
		keys = append(keys, impl.Word{N: i, Is: true, Key: k})
	}
	for _, k := range wrongKeys() {
		wrong = append(wrong, impl.Word{Is: true, Key: k}, impl.Word{N: -1, Key: k})
	}
	return [][]impl.Word{nil, {}, noKeys, keys, wrong, slices.Concat(noKeys, wrong, keys)}
}

// someCovers tells by Covers alone what is to be told of a word that is a key.
func someCovers(list []impl.Word, k impl.Key) bool {
	return slices.ContainsFunc(list, func(w impl.Word) bool { return w.Is && impl.Covers(w.Key, k) })
}

func TestMaxN(t *testing.T) {
	if impl.MaxN != 65536 {
		t.Error(impl.MaxN)
	}
}

func TestWordOkOfAllNumbers(t *testing.T) {
	for n := -70000; n <= 140000; n++ {
		want := n >= 0 && n <= 65535
		for _, w := range []impl.Word{{N: n}, {N: n, Is: true, Key: keyOfWord}} {
			if impl.WordOk(w) != want {
				t.Fatalf("WordOk(%v) = %v", w, !want)
			}
		}
	}
	for _, n := range wrongNs {
		for _, w := range []impl.Word{{N: n}, {N: n, Is: true, Key: keyOfWord}, {N: n, Is: true}, {N: n, Key: keyOfWord}} {
			if impl.WordOk(w) {
				t.Error("accepted", w)
			}
		}
	}
}

func TestWordOkOfKeys(t *testing.T) {
	for _, n := range []int{0, 5, 65535} {
		for _, k := range rightKeys() {
			if !impl.WordOk(impl.Word{N: n, Is: true, Key: k}) {
				t.Error("refused", n, k)
			}
		}
		for _, k := range wrongKeys() {
			if impl.WordOk(impl.Word{N: n, Is: true, Key: k}) {
				t.Error("accepted", n, k)
			}
		}
	}
}

func TestWordOkOfNoKeyThatHasOne(t *testing.T) {
	for _, k := range append(rightKeys(), wrongKeys()...) {
		if impl.WordOk(impl.Word{N: 5, Key: k}) != (k == impl.Key{}) {
			t.Error(k)
		}
	}
	for _, k := range []impl.Key{{Base: 1}, {Top: 1}, {Perms: 1}, {Seal: 1}, {Base: -1}, {Top: -1}, {Perms: -1}, {Seal: -1}} {
		if impl.WordOk(impl.Word{Key: k}) {
			t.Error("accepted", k)
		}
	}
	// the zero key is one where it is said to be
	if !impl.WordOk(impl.Word{}) || !impl.WordOk(impl.Word{Is: true}) {
		t.Error("refused the zero key")
	}
}

func TestPlainGoesRound(t *testing.T) {
	for n := -70000; n <= 140000; n++ {
		want := n
		for want < 0 {
			want += 65536
		}
		for want > 65535 {
			want -= 65536
		}
		if w := impl.Plain(n); w != (impl.Word{N: want}) || !impl.WordOk(w) {
			t.Fatalf("Plain(%v) = %v", n, w)
		}
	}
	for _, x := range numbersLeft {
		if w := impl.Plain(x[0]); w != (impl.Word{N: x[1]}) || !impl.WordOk(w) {
			t.Errorf("Plain(%v) = %v", x[0], w)
		}
	}
}

func TestKeyWordGoesRound(t *testing.T) {
	for _, x := range numbersLeft {
		for _, k := range rightKeys() {
			if w := impl.KeyWord(k, x[0]); w != (impl.Word{N: x[1], Is: true, Key: k}) || !impl.WordOk(w) {
				t.Errorf("KeyWord(%v, %v) = %v", k, x[0], w)
			}
		}
	}
}

func TestKeyWordOfWrongKeysIsPlain(t *testing.T) {
	for _, x := range numbersLeft {
		for _, k := range wrongKeys() {
			if w := impl.KeyWord(k, x[0]); w != (impl.Word{N: x[1]}) || !impl.WordOk(w) {
				t.Errorf("KeyWord(%v, %v) = %v", k, x[0], w)
			}
		}
	}
}

func TestBareOfAnyWord(t *testing.T) {
	keys := append(rightKeys(), wrongKeys()...)
	for _, x := range numbersLeft {
		for _, k := range keys {
			for _, w := range []impl.Word{{N: x[0]}, {N: x[0], Is: true}, {N: x[0], Key: k}, {N: x[0], Is: true, Key: k}} {
				if b := impl.Bare(w); b != (impl.Word{N: x[1]}) || impl.Bare(b) != b {
					t.Fatalf("Bare(%v) = %v", w, b)
				}
			}
		}
	}
}

// Promise 3, of words that are bare, and of words that are none but are no keys.
func TestABareWordIsUnderAnyList(t *testing.T) {
	keys := append(rightKeys(), wrongKeys()...)
	for _, list := range anyLists() {
		for _, x := range numbersLeft {
			if !impl.Unders(impl.Plain(x[0]), list) || !impl.Unders(impl.Word{N: x[0]}, list) {
				t.Error("not under", x, list)
			}
		}
		for i, k := range keys {
			n := wrongNs[i%len(wrongNs)]
			for _, w := range []impl.Word{impl.Bare(impl.Word{N: n, Is: true, Key: k}), {N: 5, Key: k}, {N: n, Key: k}} {
				if !impl.Unders(w, list) {
					t.Error("not under", w, list)
				}
			}
		}
	}
}

func TestUndersOfAllKeys(t *testing.T) {
	lists := anyLists()
	for _, k := range rightKeys() {
		above := []impl.Word{{N: 5, Is: true, Key: k}}
		for _, other := range rightKeys() {
			w := impl.Word{N: 7, Is: true, Key: other}
			if impl.Unders(w, above) != impl.Covers(k, other) {
				t.Errorf("Unders(%v, %v) = %v", w, above, impl.Unders(w, above))
			}
		}
		for _, list := range lists {
			w := impl.Word{N: 65535, Is: true, Key: k}
			if impl.Unders(w, list) != someCovers(list, k) {
				t.Errorf("Unders(%v, %v) = %v", w, list, impl.Unders(w, list))
			}
		}
	}
}

func TestUndersEdges(t *testing.T) {
	w := impl.KeyWord(keyOfWord, 5)
	opened := keyOfWord
	opened.Seal = 0
	sealed := keyOfWord
	sealed.Seal = 7
	low, high := impl.KeyWord(impl.Key{Base: 4, Top: 8, Perms: 63}, 0), impl.KeyWord(impl.Key{Base: 8, Top: 10, Perms: 63}, 0)
	weak := impl.KeyWord(impl.Key{Base: 0, Top: 4096, Perms: 63 - impl.PmStore}, 0)
	root := impl.KeyWord(impl.Root(), 0)
	for _, x := range []struct {
		name string
		w    impl.Word
		list []impl.Word
		want bool
	}{
		{"nil", w, nil, false},
		{"empty", w, []impl.Word{}, false},
		{"no keys", w, []impl.Word{impl.Plain(5), impl.Plain(0)}, false},
		{"under itself", w, []impl.Word{w}, true},
		{"under itself with another N", w, []impl.Word{impl.KeyWord(keyOfWord, 6)}, true},
		{"under itself opened", w, []impl.Word{impl.KeyWord(opened, 5)}, true},
		{"opened under itself", impl.KeyWord(opened, 5), []impl.Word{w}, true},
		{"under another seal", w, []impl.Word{impl.KeyWord(sealed, 5)}, true},
		{"the first covers", w, []impl.Word{root, impl.Plain(1), low}, true},
		{"one amid covers", w, []impl.Word{low, root, impl.Plain(1)}, true},
		{"the last alone covers", w, []impl.Word{impl.Plain(1), low, high, weak, root}, true},
		{"two cover it together, none alone", w, []impl.Word{low, high, weak}, false},
		{"wider than all", root, []impl.Word{w, low, high, weak}, false},
		{"the zero key under itself", impl.Word{Is: true}, []impl.Word{{Is: true}}, true},
		{"the zero key under no keys", impl.Word{Is: true}, []impl.Word{{}}, false},
	} {
		if impl.Unders(x.w, x.list) != x.want {
			t.Errorf("%s: Unders(%v, %v) = %v", x.name, x.w, x.list, !x.want)
		}
	}
}

func TestUndersOfWrongKeys(t *testing.T) {
	root := impl.KeyWord(impl.Root(), 0)
	for _, k := range wrongKeys() {
		w := impl.Word{N: 5, Is: true, Key: k}
		for _, list := range append(anyLists(), []impl.Word{w}, []impl.Word{root, w}) {
			if impl.Unders(w, list) {
				t.Errorf("Unders(%v, %v)", w, list)
			}
		}
		if impl.Unders(impl.Word{Is: true}, []impl.Word{w}) || !impl.Unders(root, []impl.Word{w, root}) {
			t.Error("a wrong key in the list", k)
		}
	}
}

// A key in a word that is no key covers none.
func TestUndersWordsThatAreNoKeysButHaveOne(t *testing.T) {
	for _, k := range rightKeys() {
		w := impl.KeyWord(k, 5)
		if impl.Unders(w, []impl.Word{{N: 5, Key: k}, {Key: impl.Root()}, {N: -1, Key: impl.Root()}}) {
			t.Error("under", w)
		}
	}
}

// Unders asks for keys: a wrong N, beside a right key, makes no difference.
func TestUndersAsksForNoN(t *testing.T) {
	for _, n := range wrongNs {
		wrong, right := impl.Word{N: n, Is: true, Key: keyOfWord}, impl.KeyWord(keyOfWord, 5)
		for _, x := range [][2]impl.Word{{wrong, right}, {right, wrong}, {wrong, wrong}} {
			if !impl.Unders(x[0], []impl.Word{x[1]}) {
				t.Error("not under", x)
			}
		}
		if impl.Unders(wrong, nil) || impl.Unders(impl.Word{N: n, Is: true, Key: impl.Root()}, []impl.Word{right}) {
			t.Error("under", n)
		}
	}
}

func TestUndersLeavesTheListAsItWas(t *testing.T) {
	words := append(rightKeys(), wrongKeys()...)
	for _, list := range anyLists() {
		room := append(slices.Clone(list), impl.Word{N: 1, Is: true, Key: keyOfWord}, impl.Word{N: -1})
		kept := slices.Clone(room)
		for _, k := range words {
			impl.Unders(impl.Word{N: 5, Is: true, Key: k}, room[:len(list)])
			impl.Unders(impl.Word{N: 5, Key: k}, room[:len(list)])
		}
		if !slices.Equal(room, kept) {
			t.Error("turned", list)
		}
	}
}
