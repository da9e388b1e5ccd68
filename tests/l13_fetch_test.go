package tests

import (
	"fmt"
	"slices"
	"testing"

	"loop.example/g00249/impl"
)

// pullByWords goes through what the chapter tells.
func pullByWords(list []impl.Ins, c impl.Core) (impl.Core, bool) {
	if !coreByWords(c) {
		return impl.Core{}, false
	}
	next := copyOfCore(c)
	if c.Stop || len(c.Rob) > 5 || c.S.Trap > 0 {
		return next, false
	}
	e := impl.Entry{Pc: c.Next, Guess: guessByWords(c.Guesses, c.Next)}
	x, trap := fetchByWords(list, c.Next)
	if trap == impl.TpNone {
		e.X = x
	} else {
		e.Done, e.E, e.Guess, next.Stop = true, trapsOnly(trap, c.Next), c.Next, true
	}
	next.Rob, next.Next = append(next.Rob, e), e.Guess
	return next, true
}

// pullsAs holds what is fetched against what is to come of it.
func pullsAs(t *testing.T, list []impl.Ins, c, want impl.Core, begun bool) {
	t.Helper()
	if got, ok := impl.Pull(list, c); ok != begun || !sameCore(got, want) {
		t.Fatalf("Pull(%v, %v) = %v, %v, not %v, %v", list, c, got, ok, want, begun)
	}
}

// pulled holds what is fetched against promise 13 and the chapter's words, and answers it.
func pulled(t *testing.T, list []impl.Ins, c impl.Core) (impl.Core, bool) {
	t.Helper()
	next, begun := impl.Pull(list, c)
	if !sameState(next.S, c.S) || !slices.Equal(next.Guesses, c.Guesses) {
		t.Fatalf("Pull(%v, %v) turned what is for good: %v", list, c, next)
	}
	more := 0
	if begun {
		more = 1
	}
	if len(next.Rob) != len(c.Rob)+more || !slices.Equal(next.Rob[:len(c.Rob)], c.Rob) {
		t.Fatalf("Pull(%v, %v), %v, turned what was under way: %v", list, c, begun, next.Rob)
	}
	if !begun && (next.Next != c.Next || next.Stop != c.Stop) {
		t.Fatalf("Pull(%v, %v) turned what comes next: %v", list, c, next)
	}
	if !impl.CoreOk(next) {
		t.Fatalf("Pull(%v, %v) is not right: %v", list, c, next)
	}
	want, wantBegun := pullByWords(list, c)
	if begun != wantBegun || !sameCore(next, want) {
		t.Fatalf("Pull(%v, %v) = %v, %v, not %v, %v", list, c, next, begun, want, wantBegun)
	}
	return next, begun
}

// notBegun is the entry of what trapped when it was fetched.
func notBegun(pc impl.Word, trap int) impl.Entry {
	return impl.Entry{Pc: pc, Done: true, E: trapsOnly(trap, pc), Guess: pc}
}

// began is a core that was at work, and has begun a place that is guessed to go on there.
func began(c impl.Core, x impl.Ins, guess impl.Word) impl.Core {
	next := copyOfCore(c)
	next.Rob, next.Next = append(next.Rob, impl.Entry{Pc: c.Next, X: x, Guess: guess}), guess
	return next
}

// stopped is a core that was at work, behind that trap.
func stopped(c impl.Core, trap int) impl.Core {
	next := copyOfCore(c)
	next.Rob, next.Stop = append(next.Rob, notBegun(c.Next, trap)), true
	return next
}

// atWork is a core that fetches, with so many entries, and goes on at next.
func atWork(entries int, next impl.Word) impl.Core {
	c := fullCore(entries)
	c.Next = next
	return c
}

// pickNext is mostly where there is a place.
func pickNext(pick func(of int) int, places int) impl.Word {
	switch pick(8) {
	case 0:
		return pickWord(pick)
	case 1:
		return key24(pick(24), 63-pick(2)*4, pick(2)*3)
	}
	return []impl.Word{pcAt(pick(places + 1)), allAt(pick(places + 1))}[pick(2)]
}

// goneOn is a core somewhere on its way: places are begun, worked in some order, learnt, and are no more.
func goneOn(t *testing.T, pick func(of int) int, list []impl.Ins) impl.Core {
	c := impl.CoreNew(fewKeys(pick))
	for range pick(14) {
		switch pick(6) {
		case 0:
			if len(c.Rob) > 0 && c.Rob[0].Done {
				c.Rob = c.Rob[1:]
			}
		case 1, 2:
			for i := range c.Rob {
				e := &c.Rob[i]
				a, there := impl.Value(c, i, e.X.A)
				b, also := impl.Value(c, i, e.X.B)
				if there && also && !e.Done && pick(2) == 0 {
					e.Done, e.E = true, effectByWords(e.X, e.Pc, a, b, pickWord(pick))
				}
			}
		case 3:
			c.Guesses = impl.Learn(c.Guesses, pcAt(pick(len(list)+1)), pcAt(pick(len(list)+1)))
		default:
			c, _ = pulled(t, list, c)
		}
	}
	return c
}

// Promise 13, over picked cores with 0 to MaxRob entries, done and not done.
func TestWhatIsBegunTurnsNothingForGood(t *testing.T) {
	pick := picker(13)
	began, refused, traps, learnt, unlearnt := [7]int{}, [7]int{}, [6]int{}, 0, 0
	for row := range 12000 {
		list := pickList(pick, pick(50))
		c := pickCore(pick, row%7)
		c.Next, c.Stop = pickNext(pick, len(list)), pick(5) == 0
		if pick(7) == 0 {
			c.S.Trap = pick(6)
		}
		next, ok := pulled(t, list, c)
		if !ok {
			refused[row%7]++
			continue
		}
		began[row%7]++
		last := next.Rob[len(c.Rob)]
		traps[last.E.Trap]++
		switch {
		case last.Done:
		case last.Pc.N < 48 && c.Guesses[last.Pc.N] >= 0:
			learnt++
		default:
			unlearnt++
		}
	}
	for entries := range 6 {
		if began[entries] < 800 || refused[entries] < 200 {
			t.Error("little was begun:", began, refused)
		}
	}
	if began[6] > 0 || traps[impl.TpNone] < 2000 || slices.Min(traps[impl.TpKey:impl.TpStop]) < 150 || learnt < 800 || unlearnt < 800 {
		t.Error("little was begun:", began, traps, learnt, unlearnt)
	}
}

// Promise 13, over cores somewhere on their way: what is for good goes on as it would have gone, and each register has for each entry
// what it had.
func TestWhatIsBegunTurnsNothingOnTheWay(t *testing.T) {
	pick := picker(130)
	ahead, done := [7]int{}, 0
	for range 2500 {
		list := pickList(pick, 4+pick(12))
		c := goneOn(t, pick, list)
		next, ok := pulled(t, list, c)
		if !sameState(impl.Step(list, next.S), impl.Step(list, c.S)) {
			t.Fatal("what is for good goes on elsewhere:", list, c)
		}
		for i := range len(c.Rob) + 1 {
			for r := range 8 {
				sourceAs(t, next, i, r, impl.Source(c, i, r))
				want, there := impl.Value(c, i, r)
				valueAs(t, next, i, r, want, there)
			}
		}
		if !ok {
			continue
		}
		ahead[len(c.Rob)]++
		for _, e := range c.Rob {
			if e.Done {
				done++
			}
		}
	}
	if slices.Min(ahead[:6]) < 50 || done < 500 {
		t.Error("little was on its way:", ahead, done)
	}
}

// One behind the other from a new core on: each one stands where the one ahead of it was guessed to go on, till all are under way or one
// traps. Nothing is worked, so nothing else ends it.
func TestWhatIsBegunStandsInARow(t *testing.T) {
	pick := picker(131)
	full, stopped := 0, 0
	for range 1500 {
		list := pickList(pick, 1+pick(10))
		s := pickState(pick)
		c := impl.CoreNew(s)
		for range pick(20) {
			c.Guesses = impl.Learn(c.Guesses, pcAt(pick(len(list))), pcAt(pick(len(list)+2)))
		}
		at := s.Pc
		for len(c.Rob) < 6 && !c.Stop {
			next, ok := pulled(t, list, c)
			if !ok || len(next.Rob) != len(c.Rob)+1 || next.Rob[len(c.Rob)].Pc != at || next.Rob[len(c.Rob)].Guess != next.Next {
				t.Fatal("not in a row:", list, c, next)
			}
			at, c = next.Next, next
		}
		if c.Stop {
			stopped++
		} else {
			full++
		}
		for range 2 {
			pullsAs(t, list, c, c, false)
		}
		if !sameState(c.S, s) {
			t.Fatal("turned:", s, c.S)
		}
	}
	if full < 300 || stopped < 300 {
		t.Error("little was begun:", full, stopped)
	}
}

// A core that is not right, for each reason, is zero, whatever else would hinder it.
func TestPullOfWrongCores(t *testing.T) {
	for i, x := range wrongCores() {
		for _, list := range [][]impl.Ins{somePlaces(15), somePlaces(1 + i%60), nil} {
			for _, stop := range []bool{false, true} {
				c := x.c
				c.Stop = stop
				if got, ok := impl.Pull(list, c); ok || !isZeroCore(got) {
					t.Fatalf("%s: Pull = %v, %v", x.name, got, ok)
				}
				c.S.Trap = 1 + i%5
				if got, ok := impl.Pull(list, c); !coreByWords(c) && (ok || !isZeroCore(got)) {
					t.Fatalf("%s, with a Trap: Pull = %v, %v", x.name, got, ok)
				}
			}
		}
	}
	for _, entries := range []int{7, 8, 100} {
		c := atWork(entries, pcAt(3))
		if got, ok := impl.Pull(somePlaces(15), c); ok || !isZeroCore(got) {
			t.Fatal(entries, "entries:", got, ok)
		}
	}
}

// What hinders it, alone and together: every field is as it was.
func TestPullThatBeginsNothing(t *testing.T) {
	list := somePlaces(15)
	for _, next := range []impl.Word{pcAt(0), pcAt(9), pcAt(15), allAt(14), {}, key24(3, 63, 2), key24(3, 59, 0), {N: 65535}} {
		for entries := range 7 {
			for trap := range 6 {
				for _, stop := range []bool{false, true} {
					c := atWork(entries, next)
					c.S.Trap, c.Stop = trap, stop
					hindered := stop || entries == 6 || trap > 0
					if !hindered {
						if got, ok := pulled(t, list, c); !ok || len(got.Rob) != entries+1 {
							t.Fatal(entries, "entries, of which there may be 6:", got, ok)
						}
						continue
					}
					pullsAs(t, list, c, c, false)
					pullsAs(t, nil, c, c, false)
				}
			}
		}
	}
	for _, c := range rightCores() {
		for _, x := range []impl.Core{{S: c.S, Rob: c.Rob, Stop: true}, {S: withTrap(c.S, 5), Rob: c.Rob}, {S: c.S, Rob: fullCore(6).Rob}, {S: withTrap(c.S, 1), Rob: fullCore(6).Rob, Stop: true}} {
			x.Next, x.Guesses = c.Next, c.Guesses
			pullsAs(t, list, x, x, false)
		}
	}
}

// Of all kinds of cores, whatever hinders them.
func TestPullOfAllCores(t *testing.T) {
	for i, c := range append(rightCores(), mixedCore()) {
		list := somePlaces(i % 61)
		pulled(t, list, c)
		c.Stop = false
		pulled(t, list, c)
		for trap := range 6 {
			c.S.Trap = trap
			pulled(t, list, c)
		}
		for _, n := range []int{0, 7, 14, 47, 48} {
			c.S.Trap, c.Next = 0, pcAt(n)
			pulled(t, list, c)
		}
	}
}

// longList is longer than a program may be; its places can be told apart.
func longList(length int) []impl.Ins {
	list := make([]impl.Ins, length)
	for i := range list {
		list[i] = impl.Ins{Op: impl.OpSet, R: i % 8, N: i / 8 % 128}
	}
	return list
}

func TestPullThatBegins(t *testing.T) {
	jump, halt, load := impl.Ins{Op: impl.OpJump, R: 2, A: 3}, impl.Ins{Op: impl.OpHalt}, impl.Ins{Op: impl.OpLoad, R: 1, A: 2, N: -3}
	short, long := []impl.Ins{jump, load, halt}, longList(4200)
	wrong := []impl.Ins{{Op: 16}, load, {Op: impl.OpHalt, R: 1}, {}}
	full := longList(48)
	for _, x := range []struct {
		name  string
		list  []impl.Ins
		next  impl.Word
		learn int
		x     impl.Ins
		guess impl.Word
	}{
		{"the first place", short, pcAt(0), -1, jump, pcAt(1)},
		{"the first place, learnt", short, pcAt(0), 2, jump, pcAt(2)},
		{"learnt, that it stays", short, pcAt(1), 1, load, pcAt(1)},
		{"learnt, back to 0", short, pcAt(2), 0, halt, pcAt(0)},
		{"learnt, to no place", short, pcAt(1), 65535, load, pcAt(65535)},
		{"the last place", short, pcAt(2), -1, halt, pcAt(3)},
		{"the last place, learnt", short, pcAt(2), 1, halt, pcAt(1)},
		{"a list of one place", short[:1], pcAt(0), -1, jump, pcAt(1)},
		{"the last place that a program may have", full, pcAt(47), -1, full[47], pcAt(48)},
		{"the last one that is learnt", full, pcAt(47), 46, full[47], pcAt(46)},
		{"one behind it, of which none is learnt", long, pcAt(48), 7, long[48], pcAt(49)},
		{"far behind", long, allAt(4095), 7, long[4095], allAt(4096)},
		{"the last place of its key", long, keyOf(9, 4, 10, 4), -1, long[9], keyOf(10, 4, 10, 4)},
		{"the first place of its key", long, keyOf(4, 4, 10, 63), -1, long[4], keyOf(5, 4, 10, 63)},
		{"learnt, out of its key", long, keyOf(4, 4, 10, 4), 3, long[4], keyOf(3, 4, 10, 4)},
		{"by a key with more than its list", short, allAt(1), -1, load, allAt(2)},
		{"what is wrong is elsewhere", wrong, pcAt(1), -1, load, pcAt(2)},
		{"what is wrong is where it goes on", wrong, pcAt(1), 3, load, pcAt(3)},
	} {
		for entries := range 6 {
			c := atWork(entries, x.next)
			c.Guesses = slices.Repeat([]int{11}, 48)
			if x.next.N < 48 {
				c.Guesses[x.next.N] = x.learn
			}
			want := began(c, x.x, x.guess)
			got, ok := impl.Pull(x.list, c)
			if !ok || !sameCore(got, want) {
				t.Errorf("%s, %v entries ahead: %v, %v, not %v", x.name, entries, got, ok, want)
			}
			if e := got.Rob[entries]; e.Done || e.E != (impl.Effect{}) || got.Stop {
				t.Errorf("%s, %v entries ahead: done %v", x.name, entries, e)
			}
		}
	}
}

func TestPullThatTraps(t *testing.T) {
	list := somePlaces(15)
	for _, x := range []struct {
		name string
		list []impl.Ins
		next impl.Word
		trap int
	}{
		{"a number", list, impl.Plain(3), impl.TpKey},
		{"0", list, impl.Word{}, impl.TpKey},
		{"the greatest number", list, impl.Plain(65535), impl.TpKey},
		{"a number, and no list", nil, impl.Plain(3), impl.TpKey},
		{"sealed", list, key24(3, 63, 1), impl.TpSeal},
		{"sealed, by the last one", list, key24(3, 4, 7), impl.TpSeal},
		{"sealed, and may not be run", list, key24(3, 59, 7), impl.TpSeal},
		{"sealed, and out of its bounds", list, key24(24, 63, 7), impl.TpSeal},
		{"may not be run", list, key24(3, 59, 0), impl.TpPerm},
		{"may nothing", list, key24(3, 0, 0), impl.TpPerm},
		{"may not be run, and out of its bounds", list, key24(24, 59, 0), impl.TpPerm},
		{"may not be run, and no list", nil, key24(3, 59, 0), impl.TpPerm},
		{"just below its bounds", list, keyOf(3, 4, 10, 4), impl.TpBound},
		{"at its end", list, keyOf(10, 4, 10, 4), impl.TpBound},
		{"far beyond its end", list, keyOf(65535, 4, 10, 4), impl.TpBound},
		{"of no bounds", list, keyOf(4, 4, 4, 4), impl.TpBound},
		{"at the end of the list", list, pcAt(15), impl.TpBound},
		{"one beyond", list, pcAt(16), impl.TpBound},
		{"the last one that a key opens", list, allAt(4095), impl.TpBound},
		{"beyond all keys", list, allAt(4096), impl.TpBound},
		{"beyond all keys, but not all places", longList(4200), allAt(4096), impl.TpBound},
		{"an empty list", []impl.Ins{}, pcAt(0), impl.TpBound},
		{"no list", nil, pcAt(0), impl.TpBound},
		{"the last place, of no list", nil, pcAt(47), impl.TpBound},
		{"what lies behind the list", list[:3], pcAt(3), impl.TpBound},
		{"no place", []impl.Ins{{}, list[0]}, pcAt(0), impl.TpBound},
		{"an op that is none", []impl.Ins{list[0], {Op: 16}}, pcAt(1), impl.TpBound},
		{"a place with what it has not", []impl.Ins{list[0], {Op: impl.OpHalt, R: 1}}, pcAt(1), impl.TpBound},
	} {
		for entries := range 6 {
			for _, learnt := range []int{-1, 0, 65535} {
				c := atWork(entries, x.next)
				c.Guesses = slices.Repeat([]int{learnt}, 48)
				got, ok := impl.Pull(x.list, c)
				if want := stopped(c, x.trap); !ok || !sameCore(got, want) {
					t.Errorf("%s, %v entries ahead: %v, %v, not %v", x.name, entries, got, ok, want)
				}
				pullsAs(t, x.list, got, got, false)
				pullsAs(t, list, got, got, false)
			}
		}
	}
}

// What is wrong with Next, alone and together, ahead of what is wrong with the place; a Next that is not right is none.
func TestWhichTrapOfPullComesFirst(t *testing.T) {
	x := impl.Ins{Op: impl.OpLoad, R: 1, A: 2, N: -3}
	for n := range 50 {
		list := slices.Repeat([]impl.Ins{x}, n+1)
		wrong := append(slices.Clone(list[:n]), impl.Ins{Op: impl.OpSet, R: 1, A: 1})
		reachSets(n, impl.PmRun, func(next impl.Word, trap int) {
			c := atWork(n%6, next)
			c.Guesses = impl.GuessNew()
			if !impl.WordOk(next) {
				pullsAs(t, list, c, impl.Core{}, false)
				return
			}
			if trap != impl.TpNone {
				pullsAs(t, list, c, stopped(c, trap), true)
			} else {
				on := impl.Word{N: n + 1, Is: true, Key: next.Key}
				pullsAs(t, list, c, began(c, x, on), true)
				trap = impl.TpBound
			}
			for _, list := range [][]impl.Ins{list[:n], nil, wrong} {
				pullsAs(t, list, c, stopped(c, trap), true)
			}
		})
	}
}

// By all words, at lists of all kinds: those that are right tell what is fetched, those that are not make the core none.
func TestPullByAllWords(t *testing.T) {
	words := slices.Concat(keysAt(), anyWords(), workWords(), rightWords())
	for _, n := range []int{-1, 0, 4, 47, 48, 59, 60, 65535, 65536} {
		words = append(words, sameAt(n)...)
	}
	lists := [][]impl.Ins{nil, somePlaces(1), somePlaces(7), somePlaces(48), longList(65), {{}, {}}}
	for i, next := range words {
		for j, list := range lists {
			c := atWork((i+j)%6, next)
			if !impl.WordOk(next) {
				pullsAs(t, list, c, impl.Core{}, false)
				continue
			}
			pulled(t, list, c)
		}
	}
}

// Each place that there is, of each op: what is begun has it as it is; what is no place traps, wherever it is, and does so alone.
func TestPullOfEachPlace(t *testing.T) {
	list := somePlaces(15)
	for i, x := range rightPlaces() {
		if i%7 != 0 {
			continue
		}
		at := i / 7 % 15
		one := slices.Clone(list)
		one[at] = x
		c := atWork(i%6, pcAt(at))
		c.Guesses = impl.GuessNew()
		pullsAs(t, one, c, began(c, x, pcAt(at+1)), true)
	}
	for i, x := range wrongPlaces() {
		at := i % 15
		one := slices.Clone(list)
		one[at] = x
		for _, n := range []int{at, (at + 1) % 15, (at + 14) % 15} {
			c := atWork(i%6, pcAt(n))
			c.Guesses = impl.GuessNew()
			want := began(c, one[n], pcAt(n+1))
			if n == at {
				want = stopped(c, impl.TpBound)
			}
			pullsAs(t, one, c, want, true)
		}
	}
}

// The place at Next alone counts: of lists of all lengths, longer than MaxCode, too, and with nothing but wrong places elsewhere.
func TestPullOfListsOfAllLengths(t *testing.T) {
	for length := range 60 {
		list := longList(length)
		room := append(slices.Clone(list), impl.Ins{Op: impl.OpHalt}, impl.Ins{Op: impl.OpHalt})
		for n := range 62 {
			for _, next := range []impl.Word{pcAt(n), allAt(n)} {
				c := atWork(n%6, next)
				c.Guesses = impl.GuessNew()
				want := stopped(c, impl.TpBound)
				if n < length && (n < 60 || next != pcAt(n)) {
					on := impl.Word{N: n + 1, Is: true, Key: next.Key}
					want = began(c, list[n], on)
				}
				pullsAs(t, room[:length], c, want, true)
				alone := make([]impl.Ins, length)
				if n < length {
					alone[n] = list[n]
				}
				pullsAs(t, alone, c, want, true)
			}
		}
	}
}

// What was learnt of each place, and of no other one, is where what is begun there is guessed to go on.
func TestPullGoesOnAsWasLearnt(t *testing.T) {
	list := longList(60)
	for place := range 60 {
		for _, learnt := range someGuesses {
			for _, other := range []int{-1, 21} {
				c := atWork(place%6, pcAt(place))
				c.Guesses = slices.Repeat([]int{other}, 48)
				on := place + 1
				if place < 48 {
					c.Guesses[place] = learnt
					if learnt >= 0 {
						on = learnt
					}
				}
				pullsAs(t, list, c, began(c, list[place], pcAt(on)), true)
			}
		}
	}
}

// What is under way does not count for what is begun, be it done, trapped or the same place; nor does the state, but for its Trap.
func TestPullAsksForNothingElse(t *testing.T) {
	list := somePlaces(15)
	pick := picker(132)
	for _, n := range []int{0, 8, 14} {
		for row := range 600 {
			c := pickCore(pick, row%6)
			c.Next, c.Stop, c.Guesses = pcAt(n), false, impl.GuessNew()
			if row%3 == 0 {
				for i := range c.Rob {
					c.Rob[i].Pc, c.Rob[i].X, c.Rob[i].Guess = pcAt(n), list[n], pcAt(n)
				}
			}
			if row%5 == 0 && len(c.Rob) > 0 {
				c.Rob[len(c.Rob)-1] = notBegun(pcAt(n), 1+pick(5))
			}
			c.S.Pc = []impl.Word{pcAt(n), pickWord(pick), {}}[pick(3)]
			pullsAs(t, list, c, began(c, list[n], pcAt(n+1)), true)
		}
	}
}

// pullCase is what is fetched.
type pullCase struct {
	list []impl.Ins
	c    impl.Core
}

// pullCases has all kinds: what begins, traps, is hindered, and is no core.
func pullCases() []pullCase {
	var all []pullCase
	for i, c := range someCores() {
		all = append(all, pullCase{somePlaces(i % 50), c})
	}
	for entries := range 7 {
		for _, next := range []impl.Word{pcAt(0), pcAt(9), pcAt(15), {}, key24(3, 63, 2)} {
			c := atWork(entries, next)
			stopped := c
			stopped.Stop = true
			trapped := c
			trapped.S = withTrap(c.S, 1+entries%5)
			all = append(all, pullCase{somePlaces(15), c}, pullCase{somePlaces(15), stopped}, pullCase{nil, c}, pullCase{nil, trapped})
		}
		for n := 46; n < 52; n++ { // of which nothing is learnt from 48 on, whatever lies behind the guesses
			all = append(all, pullCase{longList(55), atWork(entries, pcAt(n))})
		}
	}
	return all
}

// Promise 29 and new memory: neither a list nor a core is written into, nor what is ahead of their lists or behind; what is written into
// an answer, or into what was given later on, is seen in no other answer.
func TestPullsShareNothing(t *testing.T) {
	for _, x := range pullCases() {
		h, places := coreHallFor(x.c), hallFor(x.list, impl.State{})
		first, begun := impl.Pull(places.list, h.c)
		want := copyOfCore(first)
		second, again := impl.Pull(places.list, h.c)
		if !h.isAsItWas() || !places.isAsItWas() || again != begun || !sameCore(second, want) {
			t.Fatalf("Pull(%v, %v): an argument was written into, or it is not the same again", x.list, x.c)
		}
		byWords, ok := pullByWords(x.list, x.c)
		if ok != begun || !sameCore(byWords, want) {
			t.Fatalf("Pull(%v, %v) with more behind its lists = %v, %v, not %v, %v", x.list, x.c, want, begun, byWords, ok)
		}
		scribbleCore(first)
		if !h.isAsItWas() || !places.isAsItWas() || !sameCore(second, want) {
			t.Fatalf("Pull(%v, %v): an answer shares memory", x.list, x.c)
		}
		third, _ := impl.Pull(places.list, h.c)
		scribble(impl.Memory{Words: h.mem.words, Gone: h.mem.gone})
		scribbleCore(impl.Core{S: impl.State{Regs: h.regs}, Rob: h.rob, Guesses: h.guesses})
		clear(places.places)
		if !sameCore(second, want) || !sameCore(third, want) {
			t.Fatalf("Pull(%v, %v): an answer shares memory with its argument, or another one", x.list, x.c)
		}
		if !liesApart(second.S) {
			t.Fatalf("Pull(%v, %v): registers lie in memory, or memory in registers", x.list, x.c)
		}
		if !slices.Equal(second.Rob, want.Rob) || !slices.Equal(second.Guesses, want.Guesses) {
			t.Fatalf("Pull(%v, %v): entries or guesses lie in the state", x.list, x.c)
		}
	}
}

// Two that go on from one answer go on apart, however much room that has behind its entries.
func TestPullsFromOneCoreGoApart(t *testing.T) {
	one, other := longList(15), somePlaces(15)
	for entries := range 6 {
		c := atWork(entries, pcAt(3))
		c.Rob = slices.Grow(c.Rob, 20)
		for range 6 - entries {
			first, _ := impl.Pull(one, c)
			kept := copyOfCore(first)
			second, _ := impl.Pull(other, c)
			third, _ := impl.Pull(nil, c)
			if !sameCore(first, kept) || sameCore(first, second) || !third.Stop || second.Stop {
				t.Fatal("not apart:", first, second, third)
			}
			c = first
		}
		pullsAs(t, one, c, c, false)
	}
}

// Nothing is kept: what was fetched ahead of a call does not turn its answer.
func TestPullsKeepNothing(t *testing.T) {
	cases := pullCases()
	told := func(x pullCase) string {
		return fmt.Sprint(impl.Pull(x.list, x.c))
	}
	var answers []string
	for _, x := range cases {
		answers = append(answers, told(x))
	}
	for i := len(cases) - 1; i >= 0; i-- {
		impl.Pull(cases[i*17%len(cases)].list, cases[i*29%len(cases)].c)
		if got := told(cases[i]); got != answers[i] {
			t.Fatalf("%v: %v, then %v", cases[i], answers[i], got)
		}
		want, ok := pullByWords(cases[i].list, cases[i].c)
		pullsAs(t, cases[i].list, cases[i].c, want, ok)
	}
}

// Promise 29: whatever it is given, it answers.
func TestPullAnswersAtAnyArguments(t *testing.T) {
	for i, n := range edgeNumbers {
		for j, m := range edgeNumbers {
			c, e := farCore(i, j)
			w, x := e.Pc, e.X
			pullsAs(t, []impl.Ins{x, x}, c, impl.Core{}, false)
			right := mixedCore()
			right.Rob = right.Rob[:j%6]
			for _, next := range []impl.Word{w, pcAt(0), allAt(1), {N: n, Is: true, Key: impl.Root()}} {
				right.Next = next
				want, ok := pullByWords([]impl.Ins{x, x}, right)
				pullsAs(t, []impl.Ins{x, x}, right, want, ok)
				half := copyOfCore(right)
				half.Guesses[i%48] = m
				want, ok = pullByWords([]impl.Ins{x, x}, half)
				pullsAs(t, []impl.Ins{x, x}, half, want, ok)
			}
		}
	}
	pullsAs(t, longList(100000), impl.Core{S: impl.StateNew(), Rob: make([]impl.Entry, 100000), Guesses: impl.GuessNew()}, impl.Core{}, false)
}
