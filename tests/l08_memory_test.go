package tests

import (
	"math"
	"slices"
	"strconv"
	"testing"

	"loop.example/g00249/impl"
)

// Numbers that are no address, near and as far out as an int goes.
var noCells = []int{
	math.MinInt, math.MinInt + 1, math.MinInt + 23, math.MinInt32, -65536, -25, -24, -23, -2, -1,
	24, 25, 47, 48, 64, 4095, 4096, 65535, 65536, 65536 + 3, 1 << 32, 1<<32 + 3, math.MaxInt - 23, math.MaxInt - 1, math.MaxInt,
}

// allOf is a key word that may all, everywhere.
var allOf = impl.Word{N: 3, Is: true, Key: impl.Key{Top: 4096, Perms: 63}}

// memoryOf is a memory in which the word that the function tells lies in each cell, with nothing gone.
func memoryOf(word func(cell int) impl.Word) impl.Memory {
	m := impl.Memory{Words: make([]impl.Word, 24), Gone: make([]bool, 24)}
	for cell := range m.Words {
		m.Words[cell] = word(cell)
	}
	return m
}

// fullMemories has right memories in which nothing is gone: keys that begin where they lie, and elsewhere; sealed; of one Base; of
// empty bounds; that begin behind all cells; and numbers that are addresses.
func fullMemories() []impl.Memory {
	return []impl.Memory{
		memoryOf(func(cell int) impl.Word { return impl.Word{} }),
		memoryOf(func(cell int) impl.Word { return impl.Word{N: cell} }),
		memoryOf(func(cell int) impl.Word {
			return impl.Word{N: cell, Is: true, Key: impl.Key{Base: cell, Top: cell + 4, Perms: 63}}
		}),
		memoryOf(func(cell int) impl.Word {
			return impl.Word{N: 65535 - cell, Is: true, Key: impl.Key{Base: 23 - cell, Top: 24, Perms: cell, Seal: cell % 8}}
		}),
		memoryOf(func(cell int) impl.Word { return impl.Word{N: cell, Is: true, Key: impl.Root()} }),
		memoryOf(func(cell int) impl.Word { return impl.Word{N: 7, Is: true, Key: impl.Key{Base: cell, Top: cell}} }),
		memoryOf(func(cell int) impl.Word {
			return impl.Word{N: cell, Is: true, Key: impl.Key{Base: 24 + cell, Top: 24 + 2*cell, Perms: 1}}
		}),
		memoryOf(func(cell int) impl.Word {
			k := impl.Key{Base: cell * 5 % 24, Top: 24, Perms: 25, Seal: cell % 2 * 7}
			return []impl.Word{{N: cell}, {N: 100 + cell, Is: true, Key: k}, {Is: true}, {N: k.Base, Is: true, Key: k}}[cell%4]
		}),
	}
}

// someGone has lists of so many flags: none, all, the first, the last, one amid, every other one.
func someGone(length int) [][]bool {
	lists := make([][]bool, 6)
	for i := range lists {
		lists[i] = make([]bool, length)
	}
	for at := range length {
		lists[1][at] = true
		lists[2][at] = at == 0
		lists[3][at] = at == length-1
		lists[4][at] = at == length/2
		lists[5][at] = at%2 == 1
	}
	return lists
}

// rightMemories has each of fullMemories with some addresses gone, none, and all.
func rightMemories() []impl.Memory {
	var all []impl.Memory
	for _, m := range fullMemories() {
		for _, gone := range someGone(24) {
			all = append(all, impl.Memory{Words: m.Words, Gone: gone})
		}
	}
	return all
}

// wrongMemories has memories that are not MemoryOk: lists that are too short, too long, or nil, and words that are none.
func wrongMemories() []impl.Memory {
	all := []impl.Memory{{}, {Words: []impl.Word{}, Gone: []bool{}}}
	for _, m := range fullMemories()[2:5] {
		long := slices.Concat(m.Words, m.Words)
		for _, words := range []int{0, 1, 23, 24, 25, 48} {
			for _, gone := range []int{0, 1, 23, 24, 25, 48} {
				if words == 24 && gone == 24 {
					continue
				}
				for _, list := range someGone(gone) {
					all = append(all, impl.Memory{Words: long[:words], Gone: list})
				}
			}
		}
		all = append(all, impl.Memory{Words: m.Words}, impl.Memory{Gone: m.Gone})
		for _, cell := range []int{0, 1, 12, 22, 23} {
			for _, w := range []impl.Word{{N: -1}, {N: 65536}, {N: 3, Key: impl.Key{Top: 4}}, {Is: true, Key: impl.Key{Base: 4, Top: 3}}, {N: -3, Is: true, Key: impl.Root()}} {
				words := slices.Clone(m.Words)
				words[cell] = w
				for _, list := range someGone(24) {
					all = append(all, impl.Memory{Words: words, Gone: list})
				}
			}
		}
	}
	return all
}

func sameMemory(a, b impl.Memory) bool {
	return slices.Equal(a.Words, b.Words) && slices.Equal(a.Gone, b.Gone)
}

func isZeroMemory(m impl.Memory) bool {
	return len(m.Words) == 0 && len(m.Gone) == 0
}

// isRightMemory tells of each word by chapter 3 whether it is right.
func isRightMemory(m impl.Memory) bool {
	right := 0
	for _, w := range m.Words {
		if impl.WordOk(w) {
			right++
		}
	}
	return len(m.Words) == 24 && len(m.Gone) == 24 && right == 24
}

// filterByWords holds the word's Base against one address after the other.
func filterByWords(gone []bool, w impl.Word) impl.Word {
	for at := range gone {
		if gone[at] && w.Is && w.Key.Base == at {
			return bareOf(w)
		}
	}
	return w
}

// reachByWords is what an access traps with.
func reachByWords(m impl.Memory, by impl.Word, n, perm int) int {
	if !by.Is || !impl.WordOk(by) {
		return impl.TpKey
	}
	if trap := trapByWords(by.Key, n, perm); trap != impl.TpNone {
		return trap
	}
	if n < 0 || n >= len(m.Words) {
		return impl.TpBound
	}
	return impl.TpNone
}

func readByWords(m impl.Memory, by impl.Word, n int) (impl.Word, int) {
	if trap := reachByWords(m, by, n, 1); trap != impl.TpNone {
		return impl.Word{}, trap
	}
	w := m.Words[n]
	if by.Key.Perms/8%2 == 0 {
		w = bareOf(w)
	}
	return filterByWords(m.Gone, w), impl.TpNone
}

func writeByWords(m impl.Memory, by impl.Word, n int, w impl.Word) (impl.Memory, int) {
	trap := reachByWords(m, by, n, 2)
	if trap == impl.TpNone && w.Is && by.Key.Perms/16%2 == 0 {
		trap = impl.TpPerm
	}
	if !isRightMemory(m) {
		return impl.Memory{}, trap
	}
	next := impl.Memory{Words: slices.Clone(m.Words), Gone: slices.Clone(m.Gone)}
	if trap == impl.TpNone {
		next.Words[n] = w
	}
	return next, trap
}

// cellsOf has the edges of the key, of Cells, and of the words that there are.
func cellsOf(m impl.Memory, k impl.Key) []int {
	return append(addressesOf(k), 5, 22, 23, 24, 25, len(m.Words)-1, len(m.Words), len(m.Words)+1)
}

func TestCells(t *testing.T) {
	if impl.Cells != 24 {
		t.Error(impl.Cells)
	}
}

func TestMemoryNew(t *testing.T) {
	m := impl.MemoryNew()
	if !impl.MemoryOk(m) || !sameMemory(m, fullMemories()[0]) {
		t.Error(m)
	}
	for n := range 24 {
		if w, trap := impl.Read(m, allOf, n); w != impl.Plain(0) || trap != impl.TpNone {
			t.Error(n, w, trap)
		}
	}
	other := impl.MemoryNew()
	scribble(m)
	if !sameMemory(other, fullMemories()[0]) || !sameMemory(impl.MemoryNew(), fullMemories()[0]) {
		t.Error("two of them are one memory")
	}
}

func TestMemoryOkOfAllLengths(t *testing.T) {
	for i, m := range fullMemories() {
		words, gone := slices.Concat(m.Words, m.Words, m.Words), make([]bool, 72)
		for length := range 50 {
			for flags := range 50 {
				got := impl.MemoryOk(impl.Memory{Words: words[:length], Gone: gone[:flags]})
				if got != (length == 24 && flags == 24) {
					t.Fatalf("memory %v with %v words and %v of Gone: %v", i, length, flags, got)
				}
			}
		}
	}
}

func TestMemoryOkOfSome(t *testing.T) {
	m := fullMemories()[2]
	words, gone := m.Words, m.Gone
	more := append(slices.Clone(words), impl.Plain(1))
	for _, x := range []struct {
		name string
		m    impl.Memory
		want bool
	}{
		{"of both so many", m, true},
		{"new", impl.MemoryNew(), true},
		{"zero", impl.Memory{}, false},
		{"empty", impl.Memory{Words: []impl.Word{}, Gone: []bool{}}, false},
		{"no Words", impl.Memory{Words: []impl.Word{}, Gone: gone}, false},
		{"nil for Words", impl.Memory{Gone: gone}, false},
		{"no Gone", impl.Memory{Words: words, Gone: []bool{}}, false},
		{"nil for Gone", impl.Memory{Words: words}, false},
		{"one word too few", impl.Memory{Words: words[:23], Gone: gone}, false},
		{"one word too few, with room for it", impl.Memory{Words: more[:23], Gone: gone}, false},
		{"one word too many", impl.Memory{Words: more, Gone: gone}, false},
		{"one Gone too few", impl.Memory{Words: words, Gone: gone[:23]}, false},
		{"one Gone too many", impl.Memory{Words: words, Gone: make([]bool, 25)}, false},
		{"one of each too few", impl.Memory{Words: words[1:], Gone: gone[1:]}, false},
		{"one of each too many", impl.Memory{Words: more, Gone: make([]bool, 25)}, false},
		{"one too many for one too few", impl.Memory{Words: more, Gone: make([]bool, 23)}, false},
	} {
		if impl.MemoryOk(x.m) != x.want {
			t.Errorf("%s: %v", x.name, !x.want)
		}
	}
}

// One word at each cell: it alone tells whether the memory is right.
func TestMemoryOkOfOneWord(t *testing.T) {
	words := anyWords()
	for i, m := range rightMemories() {
		if !impl.MemoryOk(m) {
			t.Fatal("refused", m)
		}
		if i%5 != 0 {
			continue
		}
		for cell := range 24 {
			room := impl.Memory{Words: slices.Clone(m.Words), Gone: m.Gone}
			for _, w := range words {
				room.Words[cell] = w
				if impl.MemoryOk(room) != impl.WordOk(w) {
					t.Fatalf("MemoryOk is %v with %v at %v", !impl.WordOk(w), w, cell)
				}
			}
		}
	}
	for _, m := range wrongMemories() {
		if impl.MemoryOk(m) {
			t.Fatal("accepted", m)
		}
	}
}

// Memories of all lengths of Gone, of which Words is no matter: words whose Base is at the edges of it.
func TestFilterOfAllGone(t *testing.T) {
	keys := append(rightKeys(), wrongKeys()...)
	for _, length := range []int{0, 1, 2, 23, 24, 25, 48} {
		lists := someGone(length)
		if length == 0 {
			lists = [][]bool{nil, {}}
		}
		bases := append(slices.Clone(noCells), length-1, length, length+1, 0, 1, 12, 22, 23)
		for i, gone := range lists {
			m := impl.Memory{Words: [][]impl.Word{nil, fullMemories()[2].Words, {{N: -1}}}[i%3], Gone: gone}
			for _, base := range bases {
				for _, n := range []int{0, 5, 65535, -1, 65536, math.MinInt, math.MaxInt} {
					for _, k := range []impl.Key{
						{Base: base, Top: base, Perms: 63}, {Base: base, Top: 24}, {Base: base, Top: 4096, Perms: 63, Seal: 3}, {Base: base, Top: -1, Perms: -1, Seal: 8},
					} {
						for _, is := range []bool{true, false} {
							w := impl.Word{N: n, Is: is, Key: k}
							if got, want := impl.Filter(m, w), filterByWords(gone, w); got != want {
								t.Fatalf("Filter by %v of %v is %v, not %v", gone, w, got, want)
							}
						}
					}
				}
			}
			for _, k := range keys {
				w := impl.Word{N: 5, Is: true, Key: k}
				if got, want := impl.Filter(m, w), filterByWords(gone, w); got != want {
					t.Fatalf("Filter by %v of %v is %v, not %v", gone, w, got, want)
				}
			}
		}
	}
}

func TestFilterEdges(t *testing.T) {
	key := func(base int) impl.Word {
		return impl.Word{N: 5, Is: true, Key: impl.Key{Base: base, Top: 40, Perms: 63}}
	}
	gone := func(length int, at ...int) impl.Memory {
		m := impl.Memory{Gone: make([]bool, length)}
		for _, n := range at {
			m.Gone[n] = true
		}
		return m
	}
	sealed := impl.Word{N: 5, Is: true, Key: impl.Key{Base: 4, Top: 10, Perms: 1, Seal: 7}}
	held := impl.Word{N: 5, Key: impl.Key{Base: 4, Top: 10, Perms: 1}}
	bare := impl.Word{N: 5}
	for _, x := range []struct {
		name    string
		m       impl.Memory
		w, want impl.Word
	}{
		{"the first is gone", gone(24, 0), key(0), bare},
		{"the first is not gone", gone(24, 1), key(0), key(0)},
		{"the last is gone", gone(24, 23), key(23), bare},
		{"the one ahead is gone", gone(24, 3), key(4), key(4)},
		{"the one behind is gone", gone(24, 5), key(4), key(4)},
		{"what is within is gone, not where it begins", gone(24, 5, 6, 7, 8, 9), key(4), key(4)},
		{"begins behind what is there", gone(24, 0, 23), key(24), key(24)},
		{"begins far behind", gone(24, 0, 23), impl.KeyWord(impl.Key{Base: 4032, Top: 4096}, 5), impl.KeyWord(impl.Key{Base: 4032, Top: 4096}, 5)},
		{"begins below 0", gone(24, 0, 23), key(-1), key(-1)},
		{"begins where an int begins", gone(24, 0, 23), key(math.MinInt), key(math.MinInt)},
		{"begins where an int ends", gone(24, 0, 23), key(math.MaxInt), key(math.MaxInt)},
		{"goes round to one that is gone", gone(24, 3), key(65536 + 3), key(65536 + 3)},
		{"sealed", gone(24, 4), sealed, bare},
		{"no key, but has one", gone(24, 4), held, held},
		{"a number that is gone", gone(24, 5), bare, bare},
		{"its N is gone, not its Base", gone(24, 5), key(4), key(4)},
		{"the zero key", gone(24, 0), impl.Word{Is: true}, impl.Word{}},
		{"the zero word", gone(24, 0), impl.Word{}, impl.Word{}},
		{"an N that goes round", gone(24, 4), impl.Word{N: -1, Is: true, Key: key(4).Key}, impl.Word{N: 65535}},
		{"an N that would go round, of what is not gone", gone(24, 5), impl.Word{N: -1, Is: true, Key: key(4).Key}, impl.Word{N: -1, Is: true, Key: key(4).Key}},
		{"a key that is wrong is one", gone(24, 4), impl.Word{N: 5, Is: true, Key: impl.Key{Base: 4, Top: 1}}, bare},
		{"Gone is nil", impl.Memory{}, key(0), key(0)},
		{"Gone is of one", gone(1, 0), key(0), bare},
		{"one behind a Gone of one", gone(1, 0), key(1), key(1)},
		{"below a Gone of one", gone(1, 0), key(-1), key(-1)},
		{"the last of a Gone that is one short", gone(23, 22), key(22), bare},
		{"one behind a Gone that is one short", gone(23, 22), key(23), key(23)},
		{"the last of a Gone that is one too long", gone(25, 24), key(24), bare},
		{"the same, not gone", gone(25, 23), key(24), key(24)},
		{"one behind a Gone that is one too long", gone(25, 24), key(25), key(25)},
	} {
		if got := impl.Filter(x.m, x.w); got != x.want {
			t.Errorf("%s: Filter of %v is %v, not %v", x.name, x.w, got, x.want)
		}
	}
}

// Who is a key's word and who is not, at the edges of bounds and of Words, in memories right and wrong.
func TestReadOfAll(t *testing.T) {
	bys := anyWords()
	for i, m := range append(rightMemories(), wrongMemories()...) {
		for j := i % 13; j < len(bys); j += 13 {
			for _, n := range cellsOf(m, bys[j].Key) {
				w, trap := impl.Read(m, bys[j], n)
				wantWord, wantTrap := readByWords(m, bys[j], n)
				if w != wantWord || trap != wantTrap {
					t.Fatalf("Read(%v, %v, %v) = %v, %v, not %v, %v", m, bys[j], n, w, trap, wantWord, wantTrap)
				}
			}
		}
	}
}

func TestReadOfEachCellWithAllPerms(t *testing.T) {
	for _, m := range append(rightMemories(), wrongMemories()...) {
		for perms := range 64 {
			by := impl.Word{N: 65535, Is: true, Key: impl.Key{Base: 2, Top: 23 + perms%4, Perms: perms}}
			n := perms * 7 % 27
			w, trap := impl.Read(m, by, n)
			wantWord, wantTrap := readByWords(m, by, n)
			if w != wantWord || trap != wantTrap {
				t.Fatalf("Read(%v, %v, %v) = %v, %v, not %v, %v", m, by, n, w, trap, wantWord, wantTrap)
			}
		}
	}
}

// trapSets gives each set of things that an access may trap with, and the first of them: no key, sealed, perm missing, out of its
// bounds; last, that Words has no such number, for which the key opens it.
func trapSets(perm int, each func(m impl.Memory, by impl.Word, n int, want int)) {
	m := fullMemories()[2]
	for set := range 32 {
		by := impl.Word{N: 5, Is: true, Key: impl.Key{Base: 4, Top: 60, Perms: 63}}
		n, want := 7, impl.TpNone
		if set&16 != 0 {
			n, want = 24, impl.TpBound
		}
		if set&8 != 0 {
			by.Key.Base, by.Key.Top, want = n+1, 60, impl.TpBound
		}
		if set&4 != 0 {
			by.Key.Perms, want = 63-perm, impl.TpPerm
		}
		if set&2 != 0 {
			by.Key.Seal, want = 3, impl.TpSeal
		}
		if set&1 == 0 {
			each(m, by, n, want)
			continue
		}
		for _, wrong := range []impl.Word{
			{N: by.N, Key: by.Key}, {N: by.N}, {N: -1, Is: true, Key: by.Key}, {N: 65536, Is: true, Key: by.Key},
			{N: by.N, Is: true, Key: impl.Key{Base: by.Key.Base, Top: 4097, Perms: by.Key.Perms, Seal: by.Key.Seal}},
			{N: by.N, Is: true, Key: impl.Key{Base: by.Key.Base, Top: by.Key.Top, Perms: by.Key.Perms + 64, Seal: by.Key.Seal}},
			{N: by.N, Is: true, Key: impl.Key{Base: by.Key.Base, Top: by.Key.Top, Perms: by.Key.Perms, Seal: by.Key.Seal + 8}},
		} {
			each(m, wrong, n, impl.TpKey)
		}
	}
}

func TestWhichTrapOfReadComesFirst(t *testing.T) {
	trapSets(impl.PmLoad, func(m impl.Memory, by impl.Word, n int, want int) {
		w, trap := impl.Read(m, by, n)
		word := impl.Word{}
		if want == impl.TpNone {
			word = m.Words[n]
		}
		if trap != want || w != word {
			t.Errorf("Read by %v at %v: %v, %v, not %v", by, n, w, trap, want)
		}
	})
}

func TestReadEdges(t *testing.T) {
	key := impl.Word{N: 9, Is: true, Key: impl.Key{Base: 4, Top: 10, Perms: 3, Seal: 2}}
	m := impl.MemoryNew()
	m.Words[0], m.Words[7], m.Words[23] = impl.Plain(1), key, impl.Plain(2)
	gone := impl.Memory{Words: m.Words, Gone: slices.Clone(m.Gone)}
	gone.Gone[4] = true
	wrong := impl.Memory{Words: []impl.Word{{N: -1}, {N: 70000, Is: true, Key: key.Key}, {N: 3, Key: key.Key}}, Gone: []bool{false, true}}
	long := impl.Memory{Words: append(slices.Clone(m.Words), key)}
	by := func(base, top, perms int) impl.Word {
		return impl.Word{Is: true, Key: impl.Key{Base: base, Top: top, Perms: perms}}
	}
	for _, x := range []struct {
		name string
		m    impl.Memory
		by   impl.Word
		n    int
		w    impl.Word
		trap int
	}{
		{"a key", m, allOf, 7, key, impl.TpNone},
		{"with PmLoad and PmTake alone", m, by(0, 24, 9), 7, key, impl.TpNone},
		{"with PmLoad alone", m, by(0, 24, 1), 7, impl.Plain(9), impl.TpNone},
		{"with all but PmTake", m, by(0, 24, 63-8), 7, impl.Plain(9), impl.TpNone},
		{"with all but PmLoad", m, by(0, 24, 62), 7, impl.Word{}, impl.TpPerm},
		{"a key that is gone", gone, allOf, 7, impl.Plain(9), impl.TpNone},
		{"a key that is gone, with PmLoad alone", gone, by(0, 24, 1), 7, impl.Plain(9), impl.TpNone},
		{"by a key that is gone itself", gone, by(4, 10, 63), 7, impl.Plain(9), impl.TpNone},
		{"a number by a key that is gone itself", gone, by(4, 10, 63), 5, impl.Plain(0), impl.TpNone},
		{"the first", m, allOf, 0, impl.Plain(1), impl.TpNone},
		{"the last", m, allOf, 23, impl.Plain(2), impl.TpNone},
		{"at Base", m, by(7, 8, 9), 7, key, impl.TpNone},
		{"below Base", m, by(8, 9, 9), 7, impl.Word{}, impl.TpBound},
		{"at Top", m, by(6, 7, 9), 7, impl.Word{}, impl.TpBound},
		{"below 0", m, allOf, -1, impl.Word{}, impl.TpBound},
		{"at Cells", m, allOf, 24, impl.Word{}, impl.TpBound},
		{"the last that a key can open", m, allOf, 4095, impl.Word{}, impl.TpBound},
		{"one behind that", m, allOf, 4096, impl.Word{}, impl.TpBound},
		{"goes round to the first", m, allOf, 65536, impl.Word{}, impl.TpBound},
		{"as great as an int has it", m, allOf, math.MaxInt, impl.Word{}, impl.TpBound},
		{"as small as an int has it", m, allOf, math.MinInt, impl.Word{}, impl.TpBound},
		{"Words is nil", impl.Memory{Gone: m.Gone}, allOf, 0, impl.Word{}, impl.TpBound},
		{"both are nil", impl.Memory{}, allOf, 0, impl.Word{}, impl.TpBound},
		{"both are nil, no key", impl.Memory{}, impl.Plain(0), 0, impl.Word{}, impl.TpKey},
		{"both are nil, no perms", impl.Memory{}, by(0, 24, 0), 0, impl.Word{}, impl.TpPerm},
		{"the last of Words that are cut short", impl.Memory{Words: m.Words[:8]}, allOf, 7, key, impl.TpNone},
		{"one past Words that are cut short", impl.Memory{Words: m.Words[:7]}, allOf, 7, impl.Word{}, impl.TpBound},
		{"Words that go on behind Cells", long, allOf, 24, key, impl.TpNone},
		{"one past Words that go on", long, allOf, 25, impl.Word{}, impl.TpBound},
		{"Gone is nil", impl.Memory{Words: m.Words}, allOf, 7, key, impl.TpNone},
		{"a wrong word", wrong, allOf, 0, impl.Word{N: -1}, impl.TpNone},
		{"a wrong word, bare", wrong, by(0, 24, 1), 0, impl.Plain(65535), impl.TpNone},
		{"a wrong word that is a key", wrong, allOf, 1, impl.Word{N: 70000, Is: true, Key: key.Key}, impl.TpNone},
		{"a wrong word that is a key, bare", wrong, by(0, 24, 1), 1, impl.Plain(4464), impl.TpNone},
		{"a wrong word that has a key", wrong, allOf, 2, impl.Word{N: 3, Key: key.Key}, impl.TpNone},
		{"a wrong word that has a key, bare", wrong, by(0, 24, 1), 2, impl.Plain(3), impl.TpNone},
		{"one past wrong words", wrong, allOf, 3, impl.Word{}, impl.TpBound},
	} {
		if w, trap := impl.Read(x.m, x.by, x.n); w != x.w || trap != x.trap {
			t.Errorf("%s: %v, %v, not %v, %v", x.name, w, trap, x.w, x.trap)
		}
	}
}

func TestWriteOfAll(t *testing.T) {
	bys, words := anyWords(), append(anyWords(), impl.Plain(5), impl.Word{N: 9, Is: true, Key: impl.Root()})
	slices.Reverse(words)
	for i, m := range append(rightMemories(), wrongMemories()...) {
		for j := i % 17; j < len(bys); j += 17 {
			w := words[(i+j)%len(words)]
			for _, n := range cellsOf(m, bys[j].Key) {
				next, trap := impl.Write(m, bys[j], n, w)
				want, wantTrap := writeByWords(m, bys[j], n, w)
				if !sameMemory(next, want) || trap != wantTrap {
					t.Fatalf("Write(%v, %v, %v, %v) = %v, %v, not %v, %v", m, bys[j], n, w, next, trap, want, wantTrap)
				}
			}
		}
	}
}

// Each word, at each cell, with all Perms: it alone turns.
func TestWriteOfEachCellWithAllPerms(t *testing.T) {
	words := []impl.Word{impl.Plain(5), allOf, {Is: true}, {N: 8, Is: true, Key: impl.Key{Base: 4, Top: 10, Seal: 2}}, {N: -1}, {N: 5, Key: impl.Root()}}
	for i, m := range append(rightMemories(), wrongMemories()...) {
		for perms := range 64 {
			by := impl.Word{N: 65535, Is: true, Key: impl.Key{Base: 2, Top: 23 + perms%4, Perms: perms}}
			n, w := (i+perms*7)%27, words[(i+perms)%len(words)]
			next, trap := impl.Write(m, by, n, w)
			want, wantTrap := writeByWords(m, by, n, w)
			if !sameMemory(next, want) || trap != wantTrap {
				t.Fatalf("Write(%v, %v, %v, %v) = %v, %v, not %v, %v", m, by, n, w, next, trap, want, wantTrap)
			}
		}
	}
}

// With each of the things that trap, a number and a key are put, the latter with PmPut and without it, into a memory that is right and
// into one that is not.
func TestWhichTrapOfWriteComesFirst(t *testing.T) {
	key := impl.KeyWord(impl.Key{Base: 4, Top: 10, Perms: 1}, 4)
	trapSets(impl.PmStore, func(m impl.Memory, by impl.Word, n int, want int) {
		noPut := by
		noPut.Key.Perms &^= impl.PmPut
		first := want
		if want == impl.TpNone {
			first = impl.TpPerm
		}
		for _, x := range []struct {
			by, w impl.Word
			want  int
		}{{by, impl.Plain(4), want}, {by, key, want}, {noPut, impl.Plain(4), want}, {noPut, key, first}, {noPut, impl.Word{N: 4, Key: key.Key}, want}} {
			next, trap := impl.Write(m, x.by, n, x.w)
			lies := impl.Memory{Words: slices.Clone(m.Words), Gone: m.Gone}
			if x.want == impl.TpNone {
				lies.Words[n] = x.w
			}
			if trap != x.want || !sameMemory(next, lies) {
				t.Errorf("Write by %v of %v at %v: %v, %v, not %v", x.by, x.w, n, next, trap, x.want)
			}
			next, trap = impl.Write(impl.Memory{Words: m.Words, Gone: m.Gone[:23]}, x.by, n, x.w)
			if trap != x.want || !isZeroMemory(next) {
				t.Errorf("Write by %v of %v at %v into a wrong memory: %v, %v, not %v", x.by, x.w, n, next, trap, x.want)
			}
		}
	})
}

func TestWriteEdges(t *testing.T) {
	key := impl.Word{N: 9, Is: true, Key: impl.Key{Base: 4, Top: 10, Perms: 3, Seal: 2}}
	m := fullMemories()[1]
	by := func(base, top, perms int) impl.Word {
		return impl.Word{Is: true, Key: impl.Key{Base: base, Top: top, Perms: perms}}
	}
	for _, x := range []struct {
		name string
		by   impl.Word
		n    int
		w    impl.Word
		trap int
	}{
		{"a key", allOf, 7, key, impl.TpNone},
		{"a key by PmStore and PmPut alone", by(0, 24, 18), 7, key, impl.TpNone},
		{"a key by PmStore alone", by(0, 24, 2), 7, key, impl.TpPerm},
		{"a key by all but PmPut", by(0, 24, 63-16), 7, key, impl.TpPerm},
		{"a key by all but PmStore", by(0, 24, 63-2), 7, key, impl.TpPerm},
		{"a number by PmStore alone", by(0, 24, 2), 7, impl.Plain(500), impl.TpNone},
		{"a number by all but PmStore", by(0, 24, 63-2), 7, impl.Plain(500), impl.TpPerm},
		{"the zero key by PmStore alone", by(0, 24, 2), 7, impl.Word{Is: true}, impl.TpPerm},
		{"the first", allOf, 0, key, impl.TpNone},
		{"the last", allOf, 23, key, impl.TpNone},
		{"at Base", by(7, 8, 18), 7, key, impl.TpNone},
		{"below Base", by(8, 9, 18), 7, key, impl.TpBound},
		{"at Top", by(6, 7, 18), 7, key, impl.TpBound},
		{"below 0", allOf, -1, key, impl.TpBound},
		{"at Cells", allOf, 24, key, impl.TpBound},
		{"at Cells, a key by PmStore alone", by(0, 4096, 2), 24, key, impl.TpBound},
		{"at Top, a key by PmStore alone", by(6, 7, 2), 7, key, impl.TpBound},
		{"the last that a key can open", allOf, 4095, key, impl.TpBound},
		{"goes round to one", allOf, 65536 + 7, key, impl.TpBound},
		{"as great as an int has it", allOf, math.MaxInt, key, impl.TpBound},
		{"as small as an int has it", allOf, math.MinInt, key, impl.TpBound},
		{"what lies there already", allOf, 7, m.Words[7], impl.TpNone},
		{"by a number", impl.Plain(7), 7, impl.Plain(7), impl.TpKey},
		{"by what is sealed", key, 7, impl.Plain(7), impl.TpSeal},
		// the chapter asks for nothing of w: what is no word lies there, too
		{"what is no word", allOf, 7, impl.Word{N: -1}, impl.TpNone},
		{"what is a key that is none", allOf, 7, impl.Word{Is: true, Key: impl.Key{Base: 8, Top: 4}}, impl.TpNone},
		{"what is a key that is none, by PmStore alone", by(0, 24, 2), 7, impl.Word{Is: true, Key: impl.Key{Base: 8, Top: 4}}, impl.TpPerm},
		{"what has a key, by PmStore alone", by(0, 24, 2), 7, impl.Word{N: 5, Key: key.Key}, impl.TpNone},
	} {
		want := impl.Memory{Words: slices.Clone(m.Words), Gone: m.Gone}
		if x.trap == impl.TpNone {
			want.Words[x.n] = x.w
		}
		if next, trap := impl.Write(m, x.by, x.n, x.w); trap != x.trap || !sameMemory(next, want) {
			t.Errorf("%s: %v, %v, not %v, %v", x.name, next, trap, want, x.trap)
		}
	}
}

// What lies in no memory, and in one that is cut short or goes on, is not written; the code is told by the words that there are.
func TestWriteIntoWrongMemories(t *testing.T) {
	m := fullMemories()[2]
	long := slices.Concat(m.Words, m.Words)
	noPut := impl.Weaken(allOf, 63-impl.PmPut)
	for _, x := range []struct {
		name string
		m    impl.Memory
		by   impl.Word
		n    int
		w    impl.Word
		want int
	}{
		{"both nil", impl.Memory{}, allOf, 0, allOf, impl.TpBound},
		{"both nil, no key", impl.Memory{}, impl.Plain(3), 0, allOf, impl.TpKey},
		{"both nil, may not put", impl.Memory{}, noPut, 0, allOf, impl.TpBound},
		{"Words is nil", impl.Memory{Gone: m.Gone}, allOf, 0, allOf, impl.TpBound},
		{"Gone is nil", impl.Memory{Words: m.Words}, allOf, 0, allOf, impl.TpNone},
		{"Gone is nil, may not put", impl.Memory{Words: m.Words}, noPut, 0, allOf, impl.TpPerm},
		{"Gone is nil, at Cells", impl.Memory{Words: m.Words}, allOf, 24, allOf, impl.TpBound},
		{"the last of Words cut short", impl.Memory{Words: m.Words[:8], Gone: m.Gone}, allOf, 7, allOf, impl.TpNone},
		{"one past Words cut short", impl.Memory{Words: m.Words[:8], Gone: m.Gone}, allOf, 8, allOf, impl.TpBound},
		{"Words go on behind Cells", impl.Memory{Words: long[:25], Gone: m.Gone}, allOf, 24, allOf, impl.TpNone},
		{"Words go on, may not put", impl.Memory{Words: long[:25], Gone: m.Gone}, noPut, 24, allOf, impl.TpPerm},
		{"one past Words that go on", impl.Memory{Words: long[:25], Gone: m.Gone}, allOf, 25, allOf, impl.TpBound},
		{"both go on", impl.Memory{Words: long[:25], Gone: make([]bool, 25)}, allOf, 5, allOf, impl.TpNone},
		{"below 0", impl.Memory{Words: long[:25], Gone: m.Gone}, allOf, -1, allOf, impl.TpBound},
	} {
		if next, code := impl.Write(x.m, x.by, x.n, x.w); code != x.want || !isZeroMemory(next) {
			t.Errorf("%s: %v, %v, not %v", x.name, next, code, x.want)
		}
	}
	// a wrong word is not mended by what is written over it
	wrong := impl.Memory{Words: slices.Clone(m.Words), Gone: m.Gone}
	wrong.Words[7] = impl.Word{N: -1}
	for n := range 24 {
		if next, code := impl.Write(wrong, allOf, n, impl.Plain(0)); code != impl.TpNone || !isZeroMemory(next) {
			t.Error(n, next, code)
		}
	}
}

func TestDropAtEachAddress(t *testing.T) {
	for _, m := range rightMemories() {
		for n := range 24 {
			want := impl.Memory{Words: m.Words, Gone: slices.Clone(m.Gone)}
			want.Gone[n] = true
			once := impl.Drop(m, n)
			if !sameMemory(once, want) || !impl.MemoryOk(once) {
				t.Fatalf("Drop(%v, %v) = %v", m, n, once)
			}
			if twice := impl.Drop(once, n); !sameMemory(twice, want) {
				t.Fatalf("gone twice at %v: %v, once: %v", n, twice, once)
			}
			if other := impl.Drop(impl.Drop(m, 23-n), n); !sameMemory(other, impl.Drop(once, 23-n)) {
				t.Fatalf("gone at %v and at %v: not as the other way round: %v", n, 23-n, other)
			}
		}
	}
}

func TestSweepAtEachAddress(t *testing.T) {
	for _, m := range rightMemories() {
		for n := range 24 {
			want := impl.Memory{Words: slices.Clone(m.Words), Gone: m.Gone}
			want.Words[n] = filterByWords(m.Gone, m.Words[n])
			once := impl.Sweep(m, n)
			if !sameMemory(once, want) || !impl.MemoryOk(once) {
				t.Fatalf("Sweep(%v, %v) = %v", m, n, once)
			}
			if twice := impl.Sweep(once, n); !sameMemory(twice, want) {
				t.Fatalf("swept twice at %v: %v, once: %v", n, twice, once)
			}
		}
	}
}

func TestDropAndSweepAtNoAddress(t *testing.T) {
	for _, m := range rightMemories() {
		for _, n := range noCells {
			if got := impl.Drop(m, n); !sameMemory(got, m) {
				t.Fatalf("Drop(%v, %v) = %v", m, n, got)
			}
			if got := impl.Sweep(m, n); !sameMemory(got, m) {
				t.Fatalf("Sweep(%v, %v) = %v", m, n, got)
			}
		}
	}
}

func TestDropAndSweepOfWrongMemories(t *testing.T) {
	for _, m := range wrongMemories() {
		for _, n := range append([]int{0, 1, 7, 12, 22, 23}, noCells...) {
			if got := impl.Drop(m, n); !isZeroMemory(got) {
				t.Fatalf("Drop(%v, %v) = %v", m, n, got)
			}
			if got := impl.Sweep(m, n); !isZeroMemory(got) {
				t.Fatalf("Sweep(%v, %v) = %v", m, n, got)
			}
		}
	}
}

func sweepEach(m impl.Memory, cells ...int) impl.Memory {
	for _, cell := range cells {
		m = impl.Sweep(m, cell)
	}
	return m
}

// sweptSomehow has m unswept, with each cell alone swept, once and twice, with all of them swept, up and down and twice over, and with
// some of them swept.
func sweptSomehow(m impl.Memory) []impl.Memory {
	var up, some []int
	all := []impl.Memory{m}
	for cell := range 24 {
		up = append(up, cell)
		if cell%3 != 1 {
			some = append(some, cell)
		}
		all = append(all, sweepEach(m, cell), sweepEach(m, cell, cell), sweepEach(m, cell, (cell+5)%24))
	}
	down := slices.Clone(up)
	slices.Reverse(down)
	return append(all, sweepEach(m, up...), sweepEach(m, down...), sweepEach(m, append(up, up...)...), sweepEach(m, some...), sweepEach(m, append(some, -1, 24)...))
}

// readsOf asks what is read of each cell, with all Perms and without PmTake, for what is wanted there.
func readsOf(t *testing.T, m impl.Memory, want []impl.Word) {
	t.Helper()
	for cell, w := range want {
		if got, trap := impl.Read(m, allOf, cell); got != w || trap != impl.TpNone {
			t.Fatalf("read at %v of %v: %v, %v, not %v", cell, m, got, trap, w)
		}
		if got, trap := impl.Read(m, impl.Weaken(allOf, impl.PmLoad), cell); got != bareOf(w) || trap != impl.TpNone {
			t.Fatalf("read at %v of %v without PmTake: %v, %v", cell, m, got, trap)
		}
	}
}

// Promise 8, for each address that is gone, alone: it is a bare word that is read where a key begins there, whatever is swept first,
// behind it and ahead of it; all else is read as it was.
func TestWhatIsGoneIsReadAsABareWordSweptOrNot(t *testing.T) {
	bares := 0
	for _, m := range fullMemories() {
		readsOf(t, m, m.Words)
		for n := range 24 {
			want := slices.Clone(m.Words)
			for cell, w := range want {
				if w.Is && w.Key.Base == n {
					want[cell] = impl.Plain(w.N)
					bares++
				}
			}
			for _, swept := range sweptSomehow(impl.Drop(m, n)) {
				readsOf(t, swept, want)
			}
			readsOf(t, impl.Drop(sweepEach(m, n, 0, 23), n), want)
			readsOf(t, impl.Drop(impl.Drop(m, n), n), want)
			readsOf(t, impl.Drop(sweepEach(impl.Drop(m, n), 0, n, 23), n), want)
		}
	}
	if bares < 24*4 {
		t.Error("little was gone:", bares)
	}
}

// Promise 8, of several that are gone, with what was gone swept between.
func TestWhatIsGoneTogetherIsReadAsBareWords(t *testing.T) {
	for i, m := range rightMemories() {
		for first := range 24 {
			second := (first*5 + i) % 24
			gone := slices.Clone(m.Gone)
			gone[first], gone[second] = true, true
			want := slices.Clone(m.Words)
			for cell, w := range want {
				want[cell] = filterByWords(gone, w)
			}
			for _, m := range []impl.Memory{
				impl.Drop(impl.Drop(m, first), second), impl.Drop(impl.Drop(m, second), first),
				impl.Drop(sweepEach(impl.Drop(m, first), 0, 3, 5, 7, 11, 13, 17, 19, 23, second), second),
				sweepEach(impl.Drop(impl.Drop(m, first), second), first, second, 12),
			} {
				readsOf(t, m, want)
			}
		}
	}
}

// For good: a key to what is gone is read as a bare word, too, when it is written behind that, swept or not, as often as one likes.
func TestWhatIsGoneStaysGone(t *testing.T) {
	for n := range 24 {
		key := impl.Word{N: 100 + n, Is: true, Key: impl.Key{Base: n, Top: n + 3, Perms: 63, Seal: n % 8}}
		m := impl.Drop(impl.MemoryNew(), n)
		for cell := range 24 {
			next, trap := impl.Write(m, allOf, cell, key)
			if trap != impl.TpNone || next.Words[cell] != key {
				t.Fatal(n, cell, next, trap)
			}
			m = next
			if w, trap := impl.Read(m, allOf, cell); w != impl.Plain(100+n) || trap != impl.TpNone {
				t.Fatal(n, cell, w, trap)
			}
			if cell%2 == 0 {
				m = impl.Sweep(m, cell)
			}
			if cell%3 == 0 {
				m = impl.Drop(m, (n+cell)%24)
			}
			for at := range cell + 1 {
				if w, trap := impl.Read(m, allOf, at); w != impl.Plain(100+n) || trap != impl.TpNone {
					t.Fatal(n, cell, at, w, trap)
				}
			}
		}
	}
}

// Many calls, one behind the other, held against a memory of which everything that was ever gone and written is known. Nothing that is
// swept is seen, and nothing that is gone comes back.
func TestManyCallsOneBehindTheOther(t *testing.T) {
	turn := 1
	pick := func(of int) int {
		turn = (turn*1103515245 + 12345) % (1 << 31)
		return turn / 65536 % of
	}
	for range 40 {
		m := impl.MemoryNew()
		seen, gone := make([]impl.Word, 24), make([]bool, 24)
		for range 120 {
			n := pick(28) - 2
			switch pick(7) {
			case 0:
				m = impl.Drop(m, n)
				if n >= 0 && n < 24 {
					gone[n] = true
				}
			case 1, 2:
				m = impl.Sweep(m, n)
			default:
				base := pick(30)
				w := impl.Word{N: pick(65536), Is: pick(4) > 0}
				if w.Is {
					w.Key = impl.Key{Base: base, Top: base + pick(6), Perms: pick(64), Seal: pick(8)}
				}
				next, trap := impl.Write(m, allOf, n, w)
				if want := n >= 0 && n < 24; want != (trap == impl.TpNone) {
					t.Fatal(n, w, trap)
				}
				m = next
				if trap == impl.TpNone {
					seen[n] = w
				}
			}
			for cell := range seen {
				// bare for good: also where the word that lies there is not swept
				seen[cell] = filterByWords(gone, seen[cell])
			}
			readsOf(t, m, seen)
			if !slices.Equal(m.Gone, gone) || !impl.MemoryOk(m) {
				t.Fatal(m, gone)
			}
		}
	}
}

// What is read, and what lies there behind a call, is under what was there, or what was put.
func TestWhatIsReadIsUnderWhatLies(t *testing.T) {
	for _, m := range rightMemories() {
		for _, by := range []impl.Word{allOf, impl.Weaken(allOf, impl.PmLoad), impl.KeyWord(impl.Key{Base: 4, Top: 10, Perms: 9}, 0)} {
			for n := range 24 {
				w, trap := impl.Read(m, by, n)
				if !impl.WordOk(w) || !impl.Unders(w, []impl.Word{m.Words[n]}) || trap == impl.TpNone && w.N != m.Words[n].N {
					t.Fatal(m, by, n, w, trap)
				}
			}
		}
	}
}

// scribble writes over all of a memory, and over the room behind it.
func scribble(m impl.Memory) {
	words, gone := m.Words[:cap(m.Words)], m.Gone[:cap(m.Gone)]
	for i := range words {
		words[i] = impl.Word{N: -5 - i, Is: true, Key: impl.Key{Base: i, Top: -i, Perms: 99, Seal: 99}}
	}
	for i := range gone {
		gone[i] = !gone[i]
	}
}

// room is a memory that is cut from longer lists, with words and flags ahead of it and behind it.
type room struct {
	words, keptWords []impl.Word
	gone, keptGone   []bool
	m                impl.Memory
}

func roomFor(m impl.Memory) room {
	var r room
	fill := []impl.Word{{N: 77}, {N: -77, Is: true, Key: impl.Key{Base: 1, Top: 2, Perms: 3, Seal: 4}}, {N: 78, Is: true, Key: impl.Root()}}
	r.words = slices.Concat(fill, m.Words, fill, fill)
	r.gone = slices.Concat([]bool{true, false, true}, m.Gone, []bool{false, true, true, false, true, false})
	r.keptWords, r.keptGone = slices.Clone(r.words), slices.Clone(r.gone)
	r.m = impl.Memory{Words: r.words[3 : 3+len(m.Words)], Gone: r.gone[3 : 3+len(m.Gone)]}
	return r
}

func (r room) isAsItWas() bool {
	return slices.Equal(r.words, r.keptWords) && slices.Equal(r.gone, r.keptGone)
}

// memoryCalls has calls that answer a memory: ones that turn something and ones that leave it as it was, for each reason that there is.
func memoryCalls() map[string]func(m impl.Memory) impl.Memory {
	write := func(by impl.Word, n int, w impl.Word) func(m impl.Memory) impl.Memory {
		return func(m impl.Memory) impl.Memory {
			next, _ := impl.Write(m, by, n, w)
			return next
		}
	}
	calls := map[string]func(m impl.Memory) impl.Memory{
		"write no key": write(impl.Plain(3), 3, allOf), "write sealed": write(impl.SealBy(allOf, allOf), 3, allOf),
		"write no perm": write(impl.Weaken(allOf, 0), 3, allOf), "write out of bounds": write(impl.KeyWord(impl.Key{Base: 4, Top: 8, Perms: 63}, 0), 3, allOf),
		"write no cell": write(allOf, 24, allOf), "write no put": write(impl.Weaken(allOf, impl.PmStore), 3, allOf),
	}
	for _, n := range []int{0, 1, 12, 22, 23, -1, 24, 25, math.MinInt, math.MaxInt} {
		name := " at " + strconv.Itoa(n)
		calls["drop"+name] = func(m impl.Memory) impl.Memory { return impl.Drop(m, n) }
		calls["sweep"+name] = func(m impl.Memory) impl.Memory { return impl.Sweep(m, n) }
		calls["write a key"+name] = write(allOf, n, allOf)
		calls["write a number"+name] = write(allOf, n, impl.Plain(9))
		calls["write what is none"+name] = write(allOf, n, impl.Word{N: -9})
	}
	return calls
}

func copyOfMemory(m impl.Memory) impl.Memory {
	return impl.Memory{Words: slices.Clone(m.Words), Gone: slices.Clone(m.Gone)}
}

// Promise 29 and new memory: no argument is written into, nor what is ahead of it or behind it; and what is written into an answer, or
// into the argument later on, is seen in no other answer.
func TestMemoriesShareNothing(t *testing.T) {
	calls := memoryCalls()
	for i, m := range append(rightMemories(), wrongMemories()...) {
		if i%3 != 0 && i > 60 {
			continue
		}
		for name, call := range calls {
			r := roomFor(m)
			first := call(r.m)
			want := copyOfMemory(first)
			second := call(r.m)
			if !r.isAsItWas() || !sameMemory(second, want) {
				t.Fatalf("%s: an argument was written into, or it is not the same again", name)
			}
			scribble(first)
			if !r.isAsItWas() || !sameMemory(second, want) {
				t.Fatalf("%s: an answer shares memory", name)
			}
			third := call(r.m)
			scribble(impl.Memory{Words: r.words, Gone: r.gone})
			if !sameMemory(second, want) || !sameMemory(third, want) {
				t.Fatalf("%s: an answer shares memory with its argument, or another one", name)
			}
		}
	}
}

// Each call is asked again of what another one answered: none of them writes into it.
func TestMemoryCallsLeaveEarlierAnswersAsTheyWere(t *testing.T) {
	calls := memoryCalls()
	for i, m := range rightMemories() {
		if i%7 != 0 {
			continue
		}
		for first, call := range calls {
			answer := call(m)
			kept := copyOfMemory(answer)
			for second, again := range calls {
				scribble(again(answer))
				if !sameMemory(answer, kept) {
					t.Fatalf("%s of what %s answered wrote into it", second, first)
				}
			}
		}
	}
}

// What is only asked of turns nothing.
func TestWhatAsksOfMemoryLeavesItAsItWas(t *testing.T) {
	for _, m := range append(rightMemories(), wrongMemories()...) {
		r := roomFor(m)
		ok := impl.MemoryOk(r.m)
		for _, n := range []int{-1, 0, 3, 23, 24, len(m.Words)} {
			w, trap := impl.Read(r.m, allOf, n)
			impl.Read(r.m, impl.Weaken(allOf, impl.PmLoad), n)
			impl.Read(r.m, impl.Plain(n), n)
			if again, same := impl.Read(r.m, allOf, n); again != w || same != trap {
				t.Fatal(w, trap, again, same)
			}
			impl.Filter(r.m, impl.Word{N: n, Is: true, Key: impl.Key{Base: n, Top: 30}})
		}
		if !r.isAsItWas() || impl.MemoryOk(r.m) != ok {
			t.Fatal("turned", m)
		}
	}
}

// Nothing is kept: what was asked ahead of a call does not turn its answer.
func TestMemoryKeepsNothing(t *testing.T) {
	memories := append(rightMemories(), wrongMemories()...)
	calls := memoryCalls()
	var names []string
	for name := range calls {
		names = append(names, name)
	}
	slices.Sort(names)
	type answer struct {
		m, next impl.Memory
		name    string
	}
	var answers []answer
	for i, m := range memories {
		name := names[i%len(names)]
		answers = append(answers, answer{m, calls[name](m), name})
	}
	slices.Reverse(answers)
	for _, x := range answers {
		if got := calls[x.name](x.m); !sameMemory(got, x.next) {
			t.Fatalf("%s of %v: %v, then %v", x.name, x.m, x.next, got)
		}
	}
	if !sameMemory(impl.MemoryNew(), fullMemories()[0]) {
		t.Error(impl.MemoryNew())
	}
}
