package tests

import (
	"fmt"
	"math"
	"slices"
	"testing"

	"loop.example/g00249/impl"
)

// guessByWords goes over the places that there are, one by one.
func guessByWords(list []int, pc impl.Word) impl.Word {
	for place, n := range list {
		if place == pc.N && n != -1 {
			return pointByWords(pc, n)
		}
	}
	return pointByWords(pc, pc.N+1)
}

func learnByWords(list []int, pc, next impl.Word) []int {
	learnt := slices.Clone(list)
	for place := range list {
		if place == pc.N {
			learnt[place] = bareOf(next).N
		}
	}
	return learnt
}

// Numbers that are no guess, near and as far out as an int goes.
var noGuesses = []int{
	math.MinInt, math.MinInt + 1, math.MinInt32, -65537, -65536, -3, -2,
	65536, 65537, 131071, 131072, 1 << 32, 1<<32 - 1, math.MaxInt - 65536, math.MaxInt - 1, math.MaxInt,
}

// Numbers that are guesses, and the one that says that there is none.
var someGuesses = []int{-1, 0, 1, 2, 23, 24, 46, 47, 48, 49, 255, 4095, 4096, 32767, 32768, 65534, 65535}

// rightGuesses has lists that are GuessOk: of nothing learnt, of the same everywhere, of one place, of all kinds.
func rightGuesses() [][]int {
	var lists [][]int
	for i, n := range someGuesses {
		one := slices.Repeat([]int{-1}, 48)
		one[i*17%48] = n
		lists = append(lists, slices.Repeat([]int{n}, 48), one)
	}
	pick := picker(11)
	for range 20 {
		list := slices.Repeat([]int{-1}, 48)
		for range pick(60) {
			list[pick(48)] = []int{pick(48), pick(65536), -1}[pick(3)]
		}
		lists = append(lists, list)
	}
	return lists
}

// wrongGuesses has lists that are wrong by their length, by one number, and by all.
func wrongGuesses() [][]int {
	lists := [][]int{nil, {}}
	for i, length := range []int{1, 2, 3, 23, 46, 47, 49, 50, 64, 96, 200} {
		list := slices.Repeat([]int{-1}, length)
		full := slices.Repeat([]int{5}, length)
		mixed := make([]int, length)
		for place := range mixed {
			mixed[place] = someGuesses[(i+place)%len(someGuesses)]
		}
		lists = append(lists, list, full, mixed)
	}
	for i, n := range noGuesses {
		one := slices.Repeat([]int{7, -1, 40}, 16)
		one[[]int{0, 47, 24, 1, 46}[i%5]] = n
		lists = append(lists, one, slices.Repeat([]int{n}, 48), slices.Repeat([]int{n, -1}, i), slices.Repeat([]int{n, 3}, 30))
	}
	return lists
}

func anyGuesses() [][]int {
	return append(rightGuesses(), wrongGuesses()...)
}

// sameAt has words of all kinds with the same N: no key, keys with and without room for much, sealed, wrong.
func sameAt(n int) []impl.Word {
	return []impl.Word{
		{N: n}, pcAt(n), allAt(n), keyOf(n, 4, 10, 63), keyOf(n, 64, 64, 4), keyOf(n, 0, 0, 0), keyOf(n, 0, 48, 4),
		key24(n, 63, 1), key24(n, 4, 7), {N: n, Key: runs}, {N: n, Is: true, Key: impl.Key{Top: 60, Perms: 4, Seal: 8}},
		{N: n, Is: true, Key: impl.Key{Top: 4097, Perms: 63}}, {N: n, Is: true, Key: impl.Key{Base: 2, Top: 1}}, {N: n, Is: true, Key: impl.Key{Top: 60, Perms: 64}},
	}
}

func allAt(n int) impl.Word {
	return impl.Word{N: n, Is: true, Key: impl.Root()}
}

// placesAsked has Ns at all places of lists that are right, behind them, below 0, and far beyond both ends.
func placesAsked() []int {
	places := slices.Concat(edgeNumbers, noCells, []int{math.MinInt + 47, 65583, 131072, 1<<32 + 47, math.MaxInt - 47})
	for n := -60; n <= 110; n++ {
		places = append(places, n)
	}
	slices.Sort(places)
	return slices.Compact(places)
}

// guessesAs holds a guess against what is to come of it.
func guessesAs(t *testing.T, list []int, pc, want impl.Word) {
	t.Helper()
	if got := impl.Guess(list, pc); got != want {
		t.Fatalf("Guess(%v, %v) = %v, not %v", list, pc, got, want)
	}
}

// learnsAs holds what was learnt against what is to come of it.
func learnsAs(t *testing.T, list []int, pc, next impl.Word, want []int) {
	t.Helper()
	if got := impl.Learn(list, pc, next); !slices.Equal(got, want) {
		t.Fatalf("Learn(%v, %v, %v) = %v, not %v", list, pc, next, got, want)
	}
}

// isGuessed holds what was learnt against promise 11: at its place it is guessed, by whatever word stands there, and at all other
// places it is guessed as it was.
func isGuessed(t *testing.T, list []int, pc, next impl.Word) {
	t.Helper()
	learnt := impl.Learn(list, pc, next)
	if len(learnt) != len(list) {
		t.Fatalf("Learn(%v, %v, %v) = %v: of another length", list, pc, next, learnt)
	}
	there := pc.N >= 0 && pc.N < len(list)
	if there {
		n := bareOf(next).N
		if got := impl.Guess(learnt, pc); learnt[pc.N] != n || got != impl.Point(pc, n) || got.N != n {
			t.Fatalf("Learn(%v, %v, %v): guessed %v", list, pc, next, got)
		}
		for _, other := range sameAt(pc.N) {
			guessesAs(t, learnt, other, impl.Point(other, n))
		}
	}
	for place := -2; place < len(list)+3; place++ {
		if there && place == pc.N {
			continue
		}
		if there && place >= 0 && place < len(list) && learnt[place] != list[place] {
			t.Fatalf("Learn(%v, %v, %v) = %v: turned at %v", list, pc, next, learnt, place)
		}
		other := impl.Point(pc, place)
		if got, was := impl.Guess(learnt, other), impl.Guess(list, other); got != was {
			t.Fatalf("Learn(%v, %v, %v): %v guessed at %v, not %v", list, pc, next, got, other, was)
		}
	}
}

// Promise 11, over picked lists, right and wrong, and picked pairs of words.
func TestWhatWasLearntIsGuessed(t *testing.T) {
	pick := picker(1)
	lists, wrong := anyGuesses(), anyWords()
	learnt := 0
	for row := range 6000 {
		list := lists[row%len(lists)]
		pc, next := pickWord(pick), pickWord(pick)
		if pick(4) > 0 {
			pc.N = pick(50)
		}
		if pick(4) == 0 {
			next = wrong[pick(len(wrong))]
		}
		if pick(8) == 0 {
			next.N = edgeNumbers[pick(len(edgeNumbers))]
		}
		if pick(8) == 0 {
			pc = wrong[pick(len(wrong))]
		}
		isGuessed(t, list, pc, next)
		if pc.N >= 0 && pc.N < len(list) && impl.Guess(impl.Learn(list, pc, next), pc) != impl.Guess(list, pc) {
			learnt++
		}
	}
	if learnt < 2000 {
		t.Error("little was learnt:", learnt)
	}
}

// The same at each place that there is, by words of all kinds, with each number by one of these.
func TestWhatWasLearntIsGuessedAtEachPlace(t *testing.T) {
	lists := rightGuesses()
	for place := range 48 {
		words := sameAt(place)
		for i := range max(len(words), len(someGuesses)) {
			n := someGuesses[i%len(someGuesses)]
			isGuessed(t, lists[(place+i*3)%len(lists)], words[i%len(words)], sameAt(n)[(i+place)%len(words)])
		}
	}
}

// The same of every number that a word has, and of those that go round to one.
func TestEveryNumberIsLearnt(t *testing.T) {
	list := slices.Repeat([]int{-1, 3}, 24)
	for n := -66000; n <= 132000; n += 7 {
		learnt := impl.Learn(list, pcAt(6), pcAt(n))
		if want := (n + 131072) % 65536; learnt[6] != want || impl.Guess(learnt, pcAt(6)) != pcAt(want) || !impl.GuessOk(learnt) {
			t.Fatal(n, learnt)
		}
	}
	for _, x := range numbersLeft {
		for _, next := range sameAt(x[0]) {
			want := slices.Clone(list)
			want[47] = x[1]
			learnsAs(t, list, pcAt(47), next, want)
		}
	}
}

// What programs do is learnt: run again, each place is guessed to go on where it went.
func TestWhatARunDidIsGuessed(t *testing.T) {
	list := round(t)
	guesses, wrong := impl.GuessNew(), 0
	for turn := range 3 {
		s := impl.StateNew()
		for range 60 {
			next := impl.Step(list, s)
			if impl.Guess(guesses, s.Pc) != next.Pc {
				wrong++
			}
			guesses = impl.Learn(guesses, s.Pc, next.Pc)
			s = next
		}
		// only the very first time is the last place not known to go back
		if wrong != 1 || s.Trap != impl.TpNone || !impl.GuessOk(guesses) {
			t.Fatal(turn, wrong, s.Trap, guesses)
		}
	}
}

func TestGuessOkOfAllLengths(t *testing.T) {
	for length := range 200 {
		for _, n := range someGuesses {
			if got := impl.GuessOk(slices.Repeat([]int{n}, length)); got != (length == 48) {
				t.Fatal(length, n, got)
			}
		}
	}
	if impl.GuessOk(nil) || impl.GuessOk([]int{}) || impl.MaxCode != 48 || impl.MaxN != 65536 {
		t.Error("no numbers are right, or MaxCode and MaxN are others")
	}
}

// One number alone, at each place, is right or not.
func TestGuessOkOfOneNumber(t *testing.T) {
	for place := range 48 {
		for _, filled := range []int{-1, 0, 65535} {
			list := slices.Repeat([]int{filled}, 48)
			for _, n := range slices.Concat(someGuesses, noGuesses, edgeNumbers, wrongNs) {
				list[place] = n
				if got := impl.GuessOk(list); got != (n >= -1 && n <= 65535) {
					t.Fatal(place, filled, n, got)
				}
			}
		}
	}
}

func TestGuessOkOfAllNumbers(t *testing.T) {
	list := make([]int, 48)
	for n := -70000; n <= 140000; n++ {
		list[n&31] = n
		if got := impl.GuessOk(list); got != (n >= -1 && n <= 65535) {
			t.Fatal(n, got)
		}
		list[n&31] = 0
	}
}

func TestGuessOkOfLists(t *testing.T) {
	for _, list := range rightGuesses() {
		if !impl.GuessOk(list) {
			t.Error("not right:", list)
		}
	}
	for _, list := range wrongGuesses() {
		if impl.GuessOk(list) {
			t.Error("right:", list)
		}
	}
}

func TestGuessNew(t *testing.T) {
	first, second := impl.GuessNew(), impl.GuessNew()
	if !slices.Equal(first, slices.Repeat([]int{-1}, 48)) || !slices.Equal(second, first) || !impl.GuessOk(first) {
		t.Fatal(first, second)
	}
	scribbleNumbers(first)
	if third := impl.GuessNew(); !slices.Equal(second, slices.Repeat([]int{-1}, 48)) || !slices.Equal(third, second) {
		t.Error("new ones share memory:", second, third)
	}
	for place := range 48 {
		guessesAs(t, second, pcAt(place), pcAt(place+1))
	}
}

// Whatever list, at whatever place, by whatever word: as Point answers.
func TestGuessOfAll(t *testing.T) {
	places := placesAsked()
	for _, list := range anyGuesses() {
		for _, place := range places {
			for _, pc := range sameAt(place) {
				guessesAs(t, list, pc, guessByWords(list, pc))
			}
		}
	}
}

func TestGuessByAllWords(t *testing.T) {
	for i, list := range anyGuesses() {
		for j, pc := range slices.Concat(anyWords(), workWords()) {
			guessesAs(t, list, pc, guessByWords(list, pc))
			pc.N = (i + j) % 50
			guessesAs(t, list, pc, guessByWords(list, pc))
		}
	}
}

// Each number at a place, guessed by a word that opens it and by others.
func TestGuessOfEachNumber(t *testing.T) {
	for _, x := range numbersLeft {
		if x[0] == -1 {
			continue
		}
		for _, place := range []int{0, 1, 23, 46, 47} {
			list := impl.GuessNew()
			list[place] = x[0]
			guessesAs(t, list, pcAt(place), pcAt(x[1]))
			guessesAs(t, list, keyOf(place, 4, 10, 8), keyOf(x[1], 4, 10, 8))
			guessesAs(t, list, impl.Word{N: place}, impl.Word{N: x[1]})
			guessesAs(t, list, key24(place, 63, 3), impl.Word{N: x[1]})
		}
	}
}

func TestGuessEdges(t *testing.T) {
	list := slices.Repeat([]int{-1}, 48)
	list[0], list[1], list[20], list[30], list[46], list[47] = 9, 0, 65535, 4096, 47, 3
	wrong := []int{-2, -65536, -65537, math.MinInt, 65536, 65541, math.MaxInt, -1}
	long := slices.Concat(list, []int{8, -1})
	number := func(n int) impl.Word { return impl.Word{N: n} }
	for _, x := range []struct {
		name     string
		list     []int
		pc, want impl.Word
	}{
		{"the first place", list, pcAt(0), pcAt(9)},
		{"0", list, pcAt(1), pcAt(0)},
		{"none there", list, pcAt(2), pcAt(3)},
		{"none there, ahead of one that has", list, pcAt(19), pcAt(20)},
		{"the greatest", list, pcAt(20), pcAt(65535)},
		{"past the bounds", list, pcAt(30), pcAt(4096)},
		{"where it would go on", list, pcAt(46), pcAt(47)},
		{"the last place", list, pcAt(47), pcAt(3)},
		{"one behind it", list, pcAt(48), pcAt(49)},
		{"one behind it that there is", long, pcAt(48), pcAt(8)},
		{"none there behind it", long, pcAt(49), pcAt(50)},
		{"behind what is longer", long, pcAt(50), pcAt(51)},
		{"goes round", list, pcAt(65535), pcAt(0)},
		{"next to going round", list, pcAt(65534), pcAt(65535)},
		{"round to the first place", list, pcAt(65536), number(1)},
		{"round to a place", list, number(65536 + 20), number(21)},
		{"round to a place, of a key", list, pcAt(65536 + 20), number(21)},
		{"below 0", list, number(-1), number(0)},
		{"below 0, of a key", list, pcAt(-1), number(0)},
		{"further below 0", list, number(-2), number(65535)},
		{"as far below as the last place", list, number(-48), number(65489)},
		{"the least", list, number(math.MinInt), number(1)},
		{"the least, of a key", list, allAt(math.MinInt), number(1)},
		{"the greatest int", list, number(math.MaxInt), number(0)},
		{"the greatest int, of a key", list, allAt(math.MaxInt), number(0)},
		{"no list", nil, pcAt(0), pcAt(1)},
		{"no list, below 0", nil, number(-1), number(0)},
		{"an empty list", []int{}, pcAt(0), pcAt(1)},
		{"a shorter list", list[:1], pcAt(0), pcAt(9)},
		{"behind a shorter list", list[:1], pcAt(1), pcAt(2)},
		{"far behind a shorter list", list[:20], pcAt(47), pcAt(48)},
		{"-2", wrong, pcAt(0), pcAt(65534)},
		{"-65536", wrong, pcAt(1), pcAt(0)},
		{"-65537", wrong, pcAt(2), pcAt(65535)},
		{"the least number", wrong, pcAt(3), pcAt(0)},
		{"65536", wrong, pcAt(4), pcAt(0)},
		{"65541", wrong, pcAt(5), pcAt(5)},
		{"the greatest number", wrong, pcAt(6), pcAt(65535)},
		{"-1 among wrong ones", wrong, pcAt(7), pcAt(8)},
		{"no key", list, number(0), number(9)},
		{"no key, none there", list, number(2), number(3)},
		{"no key, but has one", list, impl.Word{N: 0, Key: runs}, number(9)},
		{"a key that is wrong", list, impl.Word{N: 0, Is: true, Key: impl.Key{Top: 4097}}, number(9)},
		{"a key that is wrong, none there", list, impl.Word{N: 2, Is: true, Key: impl.Key{Top: 4097}}, number(3)},
		{"sealed", list, key24(0, 63, 1), number(9)},
		{"sealed, none there", list, key24(2, 63, 7), number(3)},
		{"sealed, one behind", list, key24(48, 63, 7), number(49)},
		{"no Perms", list, keyOf(0, 0, 48, 0), keyOf(9, 0, 48, 0)},
		{"no room for the number", list, keyOf(30, 4, 8, 4), keyOf(4096, 4, 8, 4)},
		{"no room for one more", list, keyOf(2, 2, 3, 4), keyOf(3, 2, 3, 4)},
		{"no room at all", list, keyOf(0, 10, 10, 63), keyOf(9, 10, 10, 63)},
		{"whole bounds", list, allAt(20), allAt(65535)},
	} {
		if got := impl.Guess(x.list, x.pc); got != x.want {
			t.Errorf("%s: Guess = %v, not %v", x.name, got, x.want)
		}
	}
}

// Whatever list, at whatever place, by whatever words.
func TestLearnOfAll(t *testing.T) {
	places := placesAsked()
	for i, list := range anyGuesses() {
		for j, place := range places {
			for k, pc := range sameAt(place) {
				n := edgeNumbers[(i+j*3+k*5)%len(edgeNumbers)]
				next := sameAt(n)[(i+j+k)%14]
				learnsAs(t, list, pc, next, learnByWords(list, pc, next))
			}
		}
	}
}

func TestLearnOfAllWords(t *testing.T) {
	words := slices.Concat(anyWords(), workWords())
	for i, list := range anyGuesses() {
		for j, pc := range words {
			next := words[(i*31+j*7)%len(words)]
			learnsAs(t, list, pc, next, learnByWords(list, pc, next))
			pc.N = (i + j) % 52
			learnsAs(t, list, pc, next, learnByWords(list, pc, next))
		}
	}
}

func TestLearnEdges(t *testing.T) {
	list := slices.Repeat([]int{-1}, 48)
	list[0], list[7], list[47] = 5, 0, 65535
	wrong := []int{-2, 65536, -1, math.MinInt, math.MaxInt}
	for _, x := range []struct {
		name     string
		list     []int
		pc, next impl.Word
		at, n    int // what is learnt where, if not at -1
	}{
		{"a place", list, pcAt(3), pcAt(9), 3, 9},
		{"the first place", list, pcAt(0), pcAt(9), 0, 9},
		{"the last place", list, pcAt(47), pcAt(9), 47, 9},
		{"what was there", list, pcAt(0), pcAt(5), 0, 5},
		{"as it would go on", list, pcAt(3), pcAt(4), 3, 4},
		{"itself", list, pcAt(3), pcAt(3), 3, 3},
		{"0", list, pcAt(3), pcAt(0), 3, 0},
		{"the greatest", list, pcAt(3), pcAt(65535), 3, 65535},
		{"MaxN", list, pcAt(3), pcAt(65536), 3, 0},
		{"past MaxN", list, pcAt(3), pcAt(65537), 3, 1},
		{"-1 is a number here", list, pcAt(3), pcAt(-1), 3, 65535},
		{"below -1", list, pcAt(3), pcAt(-2), 3, 65534},
		{"-MaxN", list, pcAt(0), pcAt(-65536), 0, 0},
		{"the least", list, pcAt(3), pcAt(math.MinInt), 3, 0},
		{"the greatest int", list, pcAt(3), pcAt(math.MaxInt), 3, 65535},
		{"one behind the last place", list, pcAt(48), pcAt(9), -1, 0},
		{"far behind it", list, pcAt(4096), pcAt(9), -1, 0},
		{"below 0", list, pcAt(-1), pcAt(9), -1, 0},
		{"as far below as the last place", list, pcAt(-48), pcAt(9), -1, 0},
		{"round to a place", list, pcAt(65536 + 3), pcAt(9), -1, 0},
		{"round to a place from below", list, pcAt(3 - 65536), pcAt(9), -1, 0},
		{"at the least", list, pcAt(math.MinInt), pcAt(9), -1, 0},
		{"at the greatest int", list, pcAt(math.MaxInt), pcAt(9), -1, 0},
		{"no list", nil, pcAt(0), pcAt(9), -1, 0},
		{"an empty list", []int{}, pcAt(0), pcAt(9), -1, 0},
		{"no list, below 0", nil, pcAt(-1), pcAt(9), -1, 0},
		{"one number", []int{-1}, pcAt(0), pcAt(9), 0, 9},
		{"behind one number", []int{-1}, pcAt(1), pcAt(9), -1, 0},
		{"a shorter list, its last place", list[:47], pcAt(46), pcAt(9), 46, 9},
		{"behind a shorter list", list[:47], pcAt(47), pcAt(9), -1, 0},
		{"a longer list, its last place", slices.Concat(list, list), pcAt(95), pcAt(9), 95, 9},
		{"a longer list, behind MaxCode", slices.Concat(list, list), pcAt(48), pcAt(9), 48, 9},
		{"behind a longer list", slices.Concat(list, list), pcAt(96), pcAt(9), -1, 0},
		{"over a wrong number", wrong, pcAt(0), pcAt(9), 0, 9},
		{"among wrong numbers", wrong, pcAt(2), pcAt(9), 2, 9},
		{"over the last of wrong numbers", wrong, pcAt(4), pcAt(9), 4, 9},
		{"behind wrong numbers", wrong, pcAt(5), pcAt(9), -1, 0},
		{"no keys", list, impl.Word{N: 3}, impl.Word{N: 9}, 3, 9},
		{"sealed ones", list, key24(3, 63, 1), key24(9, 0, 7), 3, 9},
		{"wrong ones", list, impl.Word{N: 3, Is: true}, impl.Word{N: 9, Key: runs}, 3, 9},
		{"keys that are wrong", list, keyOf(3, 8, 4, 64), keyOf(9, -4, 5000, -1), 3, 9},
		{"keys without room", list, keyOf(3, 8, 8, 0), keyOf(9, 0, 0, 0), 3, 9},
	} {
		want := slices.Clone(x.list)
		if x.at >= 0 {
			want[x.at] = x.n
		}
		if got := impl.Learn(x.list, x.pc, x.next); !slices.Equal(got, want) {
			t.Errorf("%s: Learn = %v, not %v", x.name, got, want)
		}
	}
}

// At one place the later one counts; at two places both do, whichever came first.
func TestLearnTwice(t *testing.T) {
	for _, list := range anyGuesses() {
		for _, places := range [][2]int{{0, 0}, {0, 1}, {0, 47}, {47, 47}, {3, 20}, {20, 3}, {46, 47}, {47, 48}, {-1, 0}, {5, 5}, {96, 2}} {
			a, b := places[0], places[1]
			for _, x := range [][2]int{{4, 9}, {9, 4}, {0, 65535}, {65535, 0}, {7, 7}, {-1, 3}, {3, -1}} {
				first, second := pcAt(x[0]), pcAt(x[1])
				got := impl.Learn(impl.Learn(list, pcAt(a), first), pcAt(b), second)
				want := learnByWords(learnByWords(list, pcAt(a), first), pcAt(b), second)
				if !slices.Equal(got, want) {
					t.Fatal(list, places, x, got)
				}
				turned := impl.Learn(impl.Learn(list, pcAt(b), second), pcAt(a), first)
				if a == b {
					want = learnByWords(list, pcAt(a), first)
				}
				if !slices.Equal(turned, want) {
					t.Fatal(list, places, x, turned)
				}
			}
		}
	}
}

// Long rows: whatever was learnt ahead stays till something else is learnt there, and what never was is still -1.
func TestLearnOftenOneBehindTheOther(t *testing.T) {
	pick := picker(111)
	for row := range 60 {
		list := impl.GuessNew()
		want := slices.Repeat([]int{-1}, 48)
		for range 120 {
			pc, next := pickWord(pick), pickWord(pick)
			pc.N = pick(60) - 6
			if pc.N >= 0 && pc.N < 48 && row%3 > 0 {
				pc.N -= pc.N % (1 + row%5)
			}
			list = impl.Learn(list, pc, next)
			if pc.N >= 0 && pc.N < 48 {
				want[pc.N] = next.N
			}
			if !slices.Equal(list, want) || !impl.GuessOk(list) {
				t.Fatal(row, list, want)
			}
		}
	}
}

// What is learnt is right again, where it was right, and only there.
func TestWhatIsLearntIsRight(t *testing.T) {
	for i, list := range anyGuesses() {
		for j, place := range placesAsked() {
			learnt := impl.Learn(list, pcAt(place), impl.Word{N: edgeNumbers[(i+j)%len(edgeNumbers)]})
			right := len(list) == 48
			for at, n := range list {
				right = right && (at == place || n >= -1 && n <= 65535)
			}
			if impl.GuessOk(learnt) != right {
				t.Fatal(list, place, learnt)
			}
		}
	}
}

// scribbleNumbers writes over all of a list, and over the room behind it.
func scribbleNumbers(list []int) {
	all := list[:cap(list)]
	for i := range all {
		all[i] = -900 - i
	}
}

// guessCase is what is asked of guesses.
type guessCase struct {
	list     []int
	pc, next impl.Word
}

func guessCases() []guessCase {
	var all []guessCase
	words := workWords()
	for i, list := range anyGuesses() {
		for j, place := range []int{0, 1, 24, 46, 47, 48, 95, -1, math.MinInt, math.MaxInt, len(list) - 1, len(list)} {
			all = append(all, guessCase{list, sameAt(place)[(i+j)%14], words[(i*7+j)%len(words)]})
		}
	}
	return all
}

// Promise 29 and new memory: no list is written into, nor what is ahead of it or behind it; what is written into an answer, or into
// what was given later on, is seen in no other answer. That holds of what is as it was, too.
func TestGuessesShareNothing(t *testing.T) {
	for _, x := range guessCases() {
		room := slices.Concat([]int{-7, 7, 70}, x.list, []int{-9, 9, 90, -1})
		kept := slices.Clone(room)
		list := room[3 : 3+len(x.list)]
		ok, guess := impl.GuessOk(list), impl.Guess(list, x.pc)
		first := impl.Learn(list, x.pc, x.next)
		want := learnByWords(x.list, x.pc, x.next)
		second := impl.Learn(list, x.pc, x.next)
		if !slices.Equal(room, kept) || !slices.Equal(first, want) || !slices.Equal(second, want) {
			t.Fatalf("%v: the list was written into, or it is not the same again", x)
		}
		scribbleNumbers(first)
		if !slices.Equal(room, kept) || !slices.Equal(second, want) {
			t.Fatalf("%v: an answer shares memory", x)
		}
		third := impl.Learn(list, x.pc, x.next)
		again := impl.Learn(third, x.pc, x.next)
		scribbleNumbers(again)
		if impl.GuessOk(list) != ok || impl.Guess(list, x.pc) != guess || !slices.Equal(third, want) {
			t.Fatalf("%v: turned by what was asked", x)
		}
		scribbleNumbers(room)
		if !slices.Equal(second, want) || !slices.Equal(third, want) {
			t.Fatalf("%v: an answer shares memory with its argument, or another one", x)
		}
	}
}

// What is answered has no order but that of the places: the same calls, many times over.
func TestGuessesAreTheSameAgain(t *testing.T) {
	pick := picker(4)
	full := make([]int, 48)
	for place := range full {
		full[place] = pick(65536)
	}
	for i, list := range [][]int{full, slices.Repeat([]int{-1, 5, 70000}, 40), slices.Repeat([]int{9, -1}, 24), {3, -2, -1}, {8}, nil} {
		for _, place := range []int{0, 2, 47, 48} {
			pc, next := pcAt(place), pcAt(60+i)
			guess, learnt := guessByWords(list, pc), learnByWords(list, pc, next)
			for range 400 {
				guessesAs(t, list, pc, guess)
				learnsAs(t, list, pc, next, learnt)
			}
		}
		if ok := impl.GuessOk(list); ok != (i == 0 || i == 2) {
			t.Error(list, ok)
		}
	}
}

// Nothing is kept: what was asked ahead of a call does not turn its answer.
func TestGuessesKeepNothing(t *testing.T) {
	cases := guessCases()
	told := func(x guessCase) string {
		return fmt.Sprint(impl.GuessOk(x.list), impl.Guess(x.list, x.pc), impl.Learn(x.list, x.pc, x.next), impl.GuessNew())
	}
	var answers []string
	for _, x := range cases {
		answers = append(answers, told(x))
	}
	for i := len(cases) - 1; i >= 0; i-- {
		other := cases[i*13%len(cases)]
		impl.Learn(impl.Learn(impl.GuessNew(), other.pc, other.next), cases[i].pc, other.pc)
		if got := told(cases[i]); got != answers[i] {
			t.Fatalf("%v: %v, then %v", cases[i], answers[i], got)
		}
	}
	if !slices.Equal(impl.GuessNew(), slices.Repeat([]int{-1}, 48)) {
		t.Error(impl.GuessNew())
	}
}

// Promise 29: whatever they are given, they answer.
func TestGuessesAnswerAtAnyArguments(t *testing.T) {
	for i, n := range edgeNumbers {
		for j, m := range edgeNumbers {
			pc := impl.Word{N: n, Is: (i+j)%3 > 0, Key: impl.Key{Base: m, Top: n, Perms: m, Seal: n}}
			next := impl.Word{N: m, Is: (i+j)%2 > 0, Key: impl.Key{Base: n, Top: m, Perms: n, Seal: m}}
			list := slices.Repeat([]int{m, n}, (i*j)%40)
			guessesAs(t, list, pc, guessByWords(list, pc))
			learnsAs(t, list, pc, next, learnByWords(list, pc, next))
			if got := impl.GuessOk(list); got != (len(list) == 48 && min(n, m) >= -1 && max(n, m) <= 65535) {
				t.Fatal(list, got)
			}
		}
	}
	long := slices.Repeat([]int{-1, 4, math.MinInt}, 30000)
	long[70001] = math.MaxInt
	learnsAs(t, long, pcAt(70000), pcAt(6), learnByWords(long, pcAt(70000), pcAt(6)))
	guessesAs(t, long, pcAt(70001), impl.Word{N: 65535})
	if impl.GuessOk(long) {
		t.Error("a long list is right")
	}
}
