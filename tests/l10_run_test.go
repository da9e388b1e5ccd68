package tests

import (
	"math"
	"slices"
	"strings"
	"testing"

	"loop.example/g00249/impl"
)

// sweepByWords writes over one word, where there is one with that number.
func sweepByWords(m impl.Memory, n int) impl.Memory {
	next := copyOfMemory(m)
	for cell, w := range m.Words {
		if cell == n {
			next.Words[cell] = filterByWords(m.Gone, w)
		}
	}
	return next
}

// runByWords is a run by the references of chapters 8 and 9.
func runByWords(list []impl.Ins, s impl.State, sweeps []int) impl.State {
	if !stateByWords(s) {
		return impl.State{}
	}
	next := copyOfState(s)
	for _, n := range sweeps {
		switch {
		case len(sweeps) >= 601:
		case n >= 0:
			next.Mem = sweepByWords(next.Mem, n)
		default:
			next = stepByWords(list, next)
		}
	}
	return next
}

// keysByWords goes over the words by one number: registers, then Pc, then memory.
func keysByWords(s impl.State) []impl.Word {
	var keys []impl.Word
	for at := range len(s.Regs) + 1 + len(s.Mem.Words) {
		w := s.Pc
		if at < len(s.Regs) {
			w = s.Regs[at]
		} else if at > len(s.Regs) {
			w = s.Mem.Words[at-len(s.Regs)-1]
		}
		if w.Is {
			keys = append(keys, w)
		}
	}
	return keys
}

// closedByWords holds each key of t against each of s.
func closedByWords(s, t impl.State) bool {
	if !stateByWords(s) || !stateByWords(t) {
		return false
	}
	for _, w := range keysIn(t) {
		if !slices.ContainsFunc(keysIn(s), func(over impl.Word) bool { return impl.Covers(over.Key, w.Key) }) {
			return false
		}
	}
	return true
}

// runsTo holds a run against what is to come of it.
func runsTo(t *testing.T, list []impl.Ins, s impl.State, sweeps []int, want impl.State) {
	t.Helper()
	if got := impl.Run(list, s, sweeps); !sameState(got, want) {
		t.Fatalf("Run(%v, %v, %v) = %v, not %v", list, s, sweeps, got, want)
	}
}

// pickSweep is a number that steps, one that sweeps, or one that sweeps nothing.
func pickSweep(pick func(of int) int) int {
	switch pick(8) {
	case 0:
		return edgeNumbers[pick(len(edgeNumbers))]
	case 1:
		return pick(24)
	case 2:
		return noCells[pick(len(noCells))]
	}
	return -1 - pick(3)
}

func pickSweeps(pick func(of int) int, length int) []int {
	sweeps := make([]int, length)
	for i := range sweeps {
		sweeps[i] = pickSweep(pick)
	}
	return sweeps
}

func pickList(pick func(of int) int, length int) []impl.Ins {
	list := make([]impl.Ins, length)
	for i := range list {
		list[i] = pickPlace(pick)
	}
	return list
}

// round is a program that goes round and round, 20 steps each time: it makes a key to one more address, which lies there then, lets that
// be gone, and reads a number there. It goes on till there is no such cell.
func round(t *testing.T) []impl.Ins {
	pass := strings.Repeat("move r3 r3\n", 12)
	list, ok := impl.CodeRead("set r1 1\nadd r2 r2 r1\npoint r4 r0 r2 0\nbound r5 r4 r1\nstore r4 r5 0\n" + pass + "gone r5\nload r6 r4 0\nis r7 r5\nzero r3 -19\n")
	if !ok {
		t.Fatal("no program")
	}
	return list
}

func TestMaxSteps(t *testing.T) {
	if impl.MaxSteps != 600 {
		t.Error(impl.MaxSteps)
	}
}

// isPartAndRest holds a run against promise 10, at each k from none to all.
func isPartAndRest(t *testing.T, list []impl.Ins, s impl.State, sweeps []int) {
	t.Helper()
	whole := impl.Run(list, s, sweeps)
	for k := range len(sweeps) + 1 {
		part := impl.Run(list, s, sweeps[:k])
		if rest := impl.Run(list, part, sweeps[k:]); !sameState(rest, whole) {
			t.Fatalf("Run(%v, %v, %v) = %v, but with %v of them first %v", list, s, sweeps, whole, k, rest)
		}
	}
}

// Promise 10, over picked programs and states, most of which go on for some steps.
func TestARunIsAPartOfItAndThenTheRest(t *testing.T) {
	pick := picker(10)
	turned, swept, trapped := 0, 0, 0
	for row := range 1500 {
		s, list := pickState(pick), pickList(pick, pick(24))
		for range 4 {
			s.Regs[pick(8)] = key24(pick(24), 63, 0)
		}
		if row%5 == 0 {
			s.Trap = pick(6)
		}
		sweeps := pickSweeps(pick, pick(40))
		isPartAndRest(t, list, s, sweeps)
		last := impl.Run(list, s, sweeps)
		runsTo(t, list, s, sweeps, runByWords(list, s, sweeps))
		if turnedBetween(s, last) > 2 {
			turned++
		}
		steps := slices.DeleteFunc(slices.Clone(sweeps), func(n int) bool { return n >= 0 })
		if !sameState(impl.Run(list, s, steps), last) {
			swept++
		}
		if last.Trap != impl.TpNone && impl.Run(list, s, sweeps[:min(3, len(sweeps))]).Trap == impl.TpNone {
			trapped++
		}
	}
	if turned < 200 || swept < 100 || trapped < 200 {
		t.Error("little was run:", turned, "turned,", swept, "swept,", trapped, "came to a trap on the way")
	}
}

// The same of states of all kinds, wrong ones too, and of one that is given in several pieces.
func TestARunIsAPartOfItAndThenTheRestOfAllStates(t *testing.T) {
	pick := picker(100)
	for _, s := range append(rightStates(), wrongStates()...) {
		for _, list := range [][]impl.Ins{nil, somePlaces(15), pickList(pick, 15)} {
			sweeps := pickSweeps(pick, pick(12))
			isPartAndRest(t, list, s, sweeps)
			whole, next := impl.Run(list, s, sweeps), impl.Run(list, s, nil)
			for _, n := range sweeps {
				next = impl.Run(list, next, []int{n})
			}
			if !sameState(next, whole) {
				t.Fatalf("Run(%v, %v, %v) = %v, but one by one %v", list, s, sweeps, whole, next)
			}
		}
	}
}

// The same of the longest run that there is, by programs that go on to its end.
func TestTheLongestRunIsAPartOfItAndThenTheRest(t *testing.T) {
	pick, list := picker(1000), round(t)
	s := impl.StateNew()
	sweeps := make([]int, 600)
	for i := range sweeps {
		sweeps[i] = -1
		if i%5 == 4 {
			sweeps[i] = pick(24)
		}
	}
	whole := impl.Run(list, s, sweeps)
	runsTo(t, list, s, sweeps, runByWords(list, s, sweeps))
	isPartAndRest(t, list, s, sweeps)
	// the 465th of 480 steps comes to where there is no such cell
	if whole.Trap != impl.TpBound || whole.Regs[2].N != 24 || whole.Regs[6] != impl.Plain(23) || !whole.Mem.Gone[23] || whole.Mem.Gone[0] {
		t.Error(whole)
	}
	endless := []impl.Ins{{Op: impl.OpAdd, R: 1, A: 1, B: 2}, {Op: impl.OpZero, A: 3, N: -1}}
	s.Regs[2] = impl.Plain(1)
	steps := slices.Repeat([]int{-1}, 600)
	isPartAndRest(t, endless, s, steps)
	if got := impl.Run(endless, s, steps); got.Regs[1].N != 300 || got.Trap != impl.TpNone {
		t.Error(got)
	}
}

// One number alone: below 0 it is a step, whatever it is; from 0 on it sweeps that address, where there is one.
func TestRunOfOneNumber(t *testing.T) {
	list := somePlaces(15)
	numbers := slices.Concat(edgeNumbers, noCells)
	for n := -70; n <= 70; n++ {
		numbers = append(numbers, n)
	}
	for _, s := range rightStates() {
		for _, n := range numbers {
			want := copyOfState(s)
			if n < 0 {
				want = impl.Step(list, s)
			} else if n < 24 {
				want.Mem.Words[n] = filterByWords(s.Mem.Gone, s.Mem.Words[n])
			}
			runsTo(t, list, s, []int{n}, want)
		}
	}
}

// halfGone is a state with keys to all addresses in memory, every other one of which is gone.
func halfGone() impl.State {
	s := impl.StateNew()
	for cell := range s.Mem.Words {
		s.Mem.Words[cell], s.Mem.Gone[cell] = keyOf(100+cell, cell, 24, 9), cell%2 == 0
	}
	return s
}

func TestRunEdges(t *testing.T) {
	count := slices.Repeat([]impl.Ins{{Op: impl.OpPoint, R: 1, A: 1, N: 1}}, 48) // r1 is one more at each step
	halt := slices.Insert(slices.Clone(count), 2, impl.Ins{Op: impl.OpHalt})
	for _, x := range []struct {
		name     string
		list     []impl.Ins
		sweeps   []int
		steps    int   // that are done
		swept    []int // cells that have a number then, of those that are gone
		pc, trap int
	}{
		{"nil", count, nil, 0, nil, 0, impl.TpNone},
		{"none", count, []int{}, 0, nil, 0, impl.TpNone},
		{"a step", count, []int{-1}, 1, nil, 1, impl.TpNone},
		{"far below 0", count, []int{math.MinInt}, 1, nil, 1, impl.TpNone},
		{"each below 0 is one step", count, []int{-2, -24, -65536, math.MinInt + 4}, 4, nil, 4, impl.TpNone},
		{"0", count, []int{0}, 0, []int{0}, 0, impl.TpNone},
		{"what is not gone", count, []int{1, 3, 23}, 0, nil, 0, impl.TpNone},
		{"the last", count, []int{22, 23}, 0, []int{22}, 0, impl.TpNone},
		{"no cell", count, []int{24, 25, 26, 48, 4096, 65536, math.MaxInt}, 0, nil, 0, impl.TpNone},
		{"the same twice", count, []int{4, 4}, 0, []int{4}, 0, impl.TpNone},
		{"both", count, []int{4, -1, 6, -1, -1, 24, 8}, 3, []int{4, 6, 8}, 3, impl.TpNone},
		{"up to the end", count, slices.Repeat([]int{-1}, 48), 48, nil, 48, impl.TpNone},
		{"past the end", count, slices.Repeat([]int{-1}, 49), 48, nil, 48, impl.TpBound},
		{"far past the end", count, append(slices.Repeat([]int{-1}, 599), 2), 48, []int{2}, 48, impl.TpBound},
		{"one too many", count, slices.Repeat([]int{-1}, 601), 0, nil, 0, impl.TpNone},
		{"sweeps, one too many", count, slices.Repeat([]int{4}, 601), 0, nil, 0, impl.TpNone},
		{"sweeps, as many as may be", count, slices.Repeat([]int{4}, 600), 0, []int{4}, 0, impl.TpNone},
		{"far too many", count, slices.Repeat([]int{-1, 4}, 5000), 0, nil, 0, impl.TpNone},
		{"no list", nil, []int{4}, 0, []int{4}, 0, impl.TpNone},
		{"a step of no list", nil, []int{-1, 4, -1}, 0, []int{4}, 0, impl.TpBound},
		{"a step of an empty list", []impl.Ins{}, []int{-1}, 0, nil, 0, impl.TpBound},
		{"what is no place", []impl.Ins{count[0], {}}, []int{-1, -1, 6, -1}, 1, []int{6}, 1, impl.TpBound},
		{"on the way to halt", halt, []int{-1, -1}, 2, nil, 2, impl.TpNone},
		{"halt", halt, []int{-1, -1, -1}, 2, nil, 2, impl.TpStop},
		{"behind halt", halt, []int{-1, -1, -1, -1, -1, 10, -1, 12}, 2, []int{10, 12}, 2, impl.TpStop},
	} {
		s := halfGone()
		want := copyOfState(s)
		want.Regs[1], want.Pc.N, want.Trap = impl.Plain(x.steps), x.pc, x.trap
		for _, cell := range x.swept {
			want.Mem.Words[cell] = impl.Plain(100 + cell)
		}
		if got := impl.Run(x.list, s, x.sweeps); !sameState(got, want) {
			t.Errorf("%s: %v, not %v", x.name, got, want)
		}
	}
}

// What is gone on the way is swept by what comes behind it, not by what comes ahead.
func TestSweepsHaveTheirPlaceInARun(t *testing.T) {
	list := []impl.Ins{{Op: impl.OpStore, A: 0, B: 0, N: 5}, {Op: impl.OpGone, A: 0}, {Op: impl.OpStore, A: 0, B: 0, N: 6}, {Op: impl.OpHalt}}
	s := impl.StateNew()
	key := s.Regs[0]
	for _, x := range []struct {
		sweeps    []int
		five, six impl.Word
	}{
		{[]int{5, -1, 5, -1}, key, impl.Plain(0)},
		{[]int{-1, -1, 5}, impl.Plain(0), impl.Plain(0)},
		{[]int{5, 6, -1, 5, 6, -1, 6, -1, -1}, key, key},
		{[]int{-1, -1, 5, 6, -1, -1, -1}, impl.Plain(0), key},
		{[]int{-1, -1, -1, -1, -1, 6}, key, impl.Plain(0)},
		{[]int{-1, -1, -1, 5, 6, -1}, impl.Plain(0), impl.Plain(0)},
	} {
		got := impl.Run(list, s, x.sweeps)
		if got.Mem.Words[5] != x.five || got.Mem.Words[6] != x.six || !got.Mem.Gone[0] {
			t.Error(x, got)
		}
	}
}

// Runs of all lengths round MaxSteps, and of some far beyond.
func TestRunsThatAreTooLong(t *testing.T) {
	list := []impl.Ins{{Op: impl.OpPoint, R: 1, A: 1, N: 1}, {Op: impl.OpZero, A: 2, N: -1}}
	for _, length := range []int{590, 597, 598, 599, 600, 601, 602, 603, 610, 1199, 1200, 1201, 4096, 65536, 65536 + 8} {
		for _, s := range []impl.State{impl.StateNew(), halfGone(), withTrap(halfGone(), impl.TpPerm)} {
			want := copyOfState(s)
			if length <= 600 {
				want.Mem.Words[2] = filterByWords(s.Mem.Gone, s.Mem.Words[2])
			}
			if length <= 600 && s.Trap == impl.TpNone {
				want.Regs[1], want.Pc.N = impl.Plain(length/2), (length-1)%2
			}
			runsTo(t, list, s, append(slices.Repeat([]int{-1}, length-1), 2), want)
		}
		for _, s := range wrongStates() {
			if got := impl.Run(list, s, make([]int, length)); !isZeroState(got) {
				t.Fatal(s, got)
			}
		}
	}
}

func TestRunOfWrongStates(t *testing.T) {
	long := slices.Repeat([]int{-1}, 601)
	for _, s := range wrongStates() {
		for _, sweeps := range [][]int{nil, {}, {-1}, {0}, {23}, {24}, {math.MinInt}, {math.MaxInt}, {0, -1}, long[:600], long, make([]int, 601)} {
			for _, list := range [][]impl.Ins{nil, somePlaces(15)} {
				if got := impl.Run(list, s, sweeps); !isZeroState(got) {
					t.Fatalf("Run(%v, %v, %v numbers) = %v", list, s, len(sweeps), got)
				}
			}
		}
	}
}

// A state with a Trap takes no step, but is swept.
func TestRunOfTrappedStates(t *testing.T) {
	list := slices.Repeat([]impl.Ins{{Op: impl.OpSet, R: 1, N: 1}}, 15)
	for _, right := range rightStates() {
		for trap := 1; trap <= 5; trap++ {
			s := withTrap(right, trap)
			runsTo(t, list, s, []int{-1}, s)
			runsTo(t, list, s, []int{-1, 24, -1, -5}, s)
			want := copyOfState(s)
			for cell, w := range s.Mem.Words {
				want.Mem.Words[cell] = filterByWords(s.Mem.Gone, w)
				runsTo(t, list, s, []int{-1, cell, -1}, impl.State{Regs: s.Regs, Pc: s.Pc, Mem: impl.Sweep(s.Mem, cell), Trap: trap})
			}
			all := []int{-1}
			for cell := range 24 {
				all = append(all, cell, -1)
			}
			runsTo(t, list, s, all, want)
		}
	}
}

// Each trap on the way: what is behind it turns nothing but what is swept, and the trap stays.
func TestRunToATrap(t *testing.T) {
	load, set := impl.Ins{Op: impl.OpLoad, R: 3, A: 2}, impl.Ins{Op: impl.OpSet, R: 4, N: 4}
	for trap, word := range []impl.Word{{}, impl.Plain(3), key24(3, 63, 1), key24(3, 2, 0), keyOf(3, 4, 8, 63), {}} {
		list := []impl.Ins{set, load, set, {Op: impl.OpSet, R: 5, N: 5}}
		switch trap {
		case impl.TpNone:
			continue
		case impl.TpStop:
			list[1] = impl.Ins{Op: impl.OpHalt}
		}
		s := halfGone()
		s.Regs[2] = word
		want := copyOfState(s)
		want.Regs[4], want.Pc.N, want.Trap = impl.Plain(4), 1, trap
		runsTo(t, list, s, []int{-1, -1}, want)
		runsTo(t, list, s, []int{-1, -1, -1, -1, -1, 25}, want)
		want.Mem.Words[8], want.Mem.Words[0] = impl.Plain(108), impl.Plain(100)
		runsTo(t, list, s, []int{-1, 0, -1, -1, 8, -1, -1}, want)
	}
}

// wordAt is word number at of a state: a register, the Pc, or one of memory.
func wordAt(s *impl.State, at int) *impl.Word {
	switch {
	case at < 8:
		return &s.Regs[at]
	case at == 8:
		return &s.Pc
	}
	return &s.Mem.Words[at-9]
}

// noKeys is a state of numbers alone.
func noKeys() impl.State {
	s := impl.State{Regs: make([]impl.Word, 8), Mem: impl.MemoryNew()}
	for at := range 33 {
		wordAt(&s, at).N = at
	}
	return s
}

func TestKeysOfEachWord(t *testing.T) {
	s := impl.StateNew()
	if keys := impl.Keys(s); !slices.Equal(keys, []impl.Word{s.Regs[0], s.Pc}) {
		t.Error(keys)
	}
	if keys := impl.Keys(noKeys()); len(keys) != 0 {
		t.Error(keys)
	}
	for _, key := range append(keysAt()[:40], impl.Word{Is: true}, key24(3, 9, 2), allOf) {
		for at := range 33 {
			one := noKeys()
			*wordAt(&one, at) = key
			if keys := impl.Keys(one); !slices.Equal(keys, []impl.Word{key}) {
				t.Fatal(at, keys)
			}
			for behind := at + 1; behind < 33; behind++ {
				two := copyOfState(one)
				*wordAt(&two, behind) = key24(behind, 1, 0)
				if keys := impl.Keys(two); !slices.Equal(keys, []impl.Word{key, key24(behind, 1, 0)}) {
					t.Fatal(at, behind, keys)
				}
				*wordAt(&two, behind) = key
				if keys := impl.Keys(two); !slices.Equal(keys, []impl.Word{key, key}) {
					t.Fatal(at, behind, "a key twice:", keys)
				}
			}
		}
	}
}

// All words are keys: they are told one behind the other, the same ones as often as they stand there.
func TestKeysOfAllWords(t *testing.T) {
	s, all := noKeys(), []impl.Word(nil)
	for at := range 33 {
		*wordAt(&s, at) = key24(at, 63-at, at%8)
		all = append(all, *wordAt(&s, at))
	}
	if keys := impl.Keys(s); !slices.Equal(keys, all) {
		t.Error(keys)
	}
	for at := range 33 {
		*wordAt(&s, at) = allOf
	}
	if keys := impl.Keys(s); !slices.Equal(keys, slices.Repeat([]impl.Word{allOf}, 33)) {
		t.Error(keys)
	}
}

// What has a key, but is none, is not told; what is gone, or traps, turns nothing in that.
func TestKeysAsksWhetherAWordIsOne(t *testing.T) {
	for _, w := range append(notKeys(), anyWords()...) {
		for at := range 33 {
			s := noKeys()
			*wordAt(&s, at) = w
			keys := impl.Keys(s)
			if want := keysByWords(s); !slices.Equal(keys, want) || (len(keys) == 1) != w.Is {
				t.Fatal(w, at, keys)
			}
		}
	}
	s := halfGone()
	want := slices.Concat([]impl.Word{s.Regs[0], s.Pc}, s.Mem.Words)
	for _, trap := range append([]int{0, 1, 2, 3, 4, 5}, noTraps...) {
		s.Trap = trap
		if keys := impl.Keys(s); !slices.Equal(keys, want) {
			t.Fatal(trap, keys)
		}
	}
}

func TestKeysOfAllStates(t *testing.T) {
	pick := picker(33)
	states := append(rightStates(), wrongStates()...)
	for range 4000 {
		states = append(states, pickState(pick))
	}
	for _, s := range states {
		if keys, want := impl.Keys(s), keysByWords(s); !slices.Equal(keys, want) {
			t.Fatalf("Keys(%v) = %v, not %v", s, keys, want)
		}
	}
}

// Keys is asked of what is there, be it a state or not: of lists of all lengths.
func TestKeysOfWrongStates(t *testing.T) {
	words := slices.DeleteFunc(rightWords(), func(w impl.Word) bool { return w.N%3 == 1 })
	for _, regs := range []int{0, 1, 7, 8, 9, 16, 40} {
		for _, cells := range []int{0, 1, 23, 24, 25, 48, 100} {
			for _, gone := range []int{0, 24, 30} {
				s := impl.State{Regs: words[:regs], Pc: words[regs], Mem: impl.Memory{Words: words[50 : 50+cells], Gone: make([]bool, gone)}, Trap: regs}
				want := slices.DeleteFunc(slices.Concat(s.Regs, []impl.Word{s.Pc}, s.Mem.Words), func(w impl.Word) bool { return !w.Is })
				if keys := impl.Keys(s); !slices.Equal(keys, want) {
					t.Fatal(regs, cells, keys)
				}
			}
		}
	}
	if keys := impl.Keys(impl.State{}); len(keys) != 0 {
		t.Error(keys)
	}
	pc := impl.State{Pc: allOf, Trap: -1}
	if keys := impl.Keys(pc); !slices.Equal(keys, []impl.Word{allOf}) {
		t.Error(keys)
	}
}

func TestClosedOfWrongStates(t *testing.T) {
	none := noKeys()
	for _, wrong := range wrongStates() {
		for _, right := range []impl.State{impl.StateNew(), none, rightStates()[1]} {
			if impl.Closed(wrong, right) || impl.Closed(right, wrong) || impl.Closed(wrong, wrong) {
				t.Fatal("closed:", wrong, right)
			}
		}
		right := copyOfState(wrong)
		right.Trap = impl.TpNone
		if !stateByWords(right) {
			continue
		}
		if impl.Closed(wrong, right) || impl.Closed(right, wrong) || !impl.Closed(right, right) {
			t.Fatal("closed, but for its Trap:", wrong)
		}
	}
	if impl.Closed(impl.State{}, impl.State{}) || impl.Closed(none, impl.State{}) || impl.Closed(impl.State{}, none) {
		t.Error("the zero state")
	}
}

func TestClosedOfTheSameAndOfNoKeys(t *testing.T) {
	none, others := noKeys(), impl.State{Regs: make([]impl.Word, 8), Mem: impl.MemoryNew()}
	if !impl.Closed(none, none) || !impl.Closed(none, others) || !impl.Closed(others, none) {
		t.Error("neither has a key")
	}
	for _, s := range append(rightStates(), none, others) {
		if !impl.Closed(s, s) || !impl.Closed(s, copyOfState(s)) {
			t.Fatal("not the same:", s)
		}
		if !impl.Closed(s, none) || impl.Closed(none, s) != (len(keysIn(s)) == 0) {
			t.Fatal("of no keys:", s)
		}
	}
	for at := range 33 {
		one := noKeys()
		*wordAt(&one, at) = keyOf(0, 4, 4, 0)
		if impl.Closed(none, one) || !impl.Closed(one, none) || !impl.Closed(one, one) {
			t.Error(at, "the least key")
		}
	}
}

// The one key of the first state and the one of the second stand at any places.
func TestClosedOfEachWord(t *testing.T) {
	over := impl.Word{N: 6, Is: true, Key: impl.Key{Base: 4, Top: 10, Perms: 27, Seal: 2}}
	for _, x := range []struct {
		name string
		w    impl.Word
		want bool
	}{
		{"the same", over, true},
		{"another N", keyOf(65535, 4, 10, 27), true},
		{"not sealed", keyOf(6, 4, 10, 27), true},
		{"sealed by another", impl.Word{N: 6, Is: true, Key: impl.Key{Base: 4, Top: 10, Perms: 27, Seal: 7}}, true},
		{"weaker", keyOf(6, 4, 10, 25), true},
		{"with no Perms", keyOf(6, 4, 10, 0), true},
		{"narrower", keyOf(6, 5, 9, 27), true},
		{"empty", keyOf(6, 10, 10, 27), true},
		{"a number", impl.Plain(6), true},
		{"wider below", keyOf(6, 3, 10, 27), false},
		{"wider above", keyOf(6, 4, 11, 27), false},
		{"stronger", keyOf(6, 4, 10, 31), false},
		{"another Perm", keyOf(6, 4, 10, 4), false},
		{"elsewhere", keyOf(6, 10, 16, 27), false},
		{"all", allOf, false},
	} {
		for at := range 33 {
			for where := range 33 {
				first, second := noKeys(), noKeys()
				*wordAt(&first, at), *wordAt(&second, where) = over, x.w
				if impl.Closed(first, second) != x.want {
					t.Fatal(x.name, at, where)
				}
			}
		}
	}
}

// Many keys, of which one alone is under none: in a register, in Pc, in memory, the first, the last.
func TestClosedWhereOneKeyIsUnderNone(t *testing.T) {
	first, second := noKeys(), noKeys()
	for at := range 33 {
		*wordAt(&first, at) = keyOf(0, at, at+4, 31)
		*wordAt(&second, 32-at) = keyOf(9, at, at+4, at%32)
	}
	if !impl.Closed(first, second) || impl.Closed(second, first) {
		t.Error("all of them are under one")
	}
	for at := range 33 {
		// two keys together open what neither does alone
		for _, w := range []impl.Word{key24(0, 1, 0), keyOf(0, 4, 9, 1), keyOf(0, 4, 8, 32), keyOf(0, 36, 37, 1), allOf} {
			x := copyOfState(second)
			*wordAt(&x, at) = w
			if impl.Closed(first, x) {
				t.Fatal("closed, with", w, "at", at)
			}
		}
		// what only has a key is none: not below, and not above
		x, y := copyOfState(second), copyOfState(first)
		*wordAt(&x, at) = impl.Plain(3)
		*wordAt(&y, at) = impl.Plain(3)
		if !impl.Closed(first, x) || impl.Closed(y, first) {
			t.Fatal("with a number at", at)
		}
	}
}

// Whatever is gone, trapped, or run by another Pc: keys alone are asked for.
func TestClosedAsksForKeysAlone(t *testing.T) {
	s := halfGone()
	x := copyOfState(s)
	clear(x.Mem.Gone)
	for trap := range 6 {
		x.Trap = trap
		x.Pc.N = trap
		x.Regs[5] = impl.Plain(trap)
		if !impl.Closed(s, x) || !impl.Closed(x, s) {
			t.Fatal(trap)
		}
	}
}

// Pairs of all kinds of states, and of threes: what is closed by what is closed is closed.
func TestClosedOfAllStates(t *testing.T) {
	pick := picker(7)
	states := append(rightStates(), wrongStates()...)
	for range 60 {
		states = append(states, fewKeys(pick))
	}
	closed := map[[2]int]bool{}
	for i, s := range states {
		for j, x := range states {
			got := impl.Closed(s, x)
			if got != closedByWords(s, x) {
				t.Fatalf("Closed(%v, %v) = %v", s, x, got)
			}
			if got && i != j {
				closed[[2]int{i, j}] = true
			}
		}
	}
	for pair := range closed {
		for k, x := range states {
			if closed[[2]int{pair[1], k}] && !impl.Closed(states[pair[0]], x) {
				t.Fatalf("%v, %v, %v", states[pair[0]], states[pair[1]], x)
			}
		}
	}
	if len(closed) < 100 || len(closed) > len(states)*len(states)/2 {
		t.Error("closed:", len(closed), "of", len(states), "states")
	}
}

// countOps counts which ops a run does, step by step, by the reference.
func countOps(list []impl.Ins, s impl.State, sweeps []int, done *[16]int) {
	for i, n := range sweeps {
		now := runByWords(list, s, sweeps[:i])
		next := runByWords(list, now, []int{n})
		if n < 0 && now.Trap == impl.TpNone && next.Trap == impl.TpNone {
			done[list[now.Pc.N].Op]++
		}
	}
}

// What a run leaves is closed by what it began with: long rows of runs, in which each op has its turn, with sweeps between. Behind what
// traps the row goes on elsewhere, by the same keys.
func TestWhatWasRunIsClosed(t *testing.T) {
	pick := picker(64)
	done, fewer := [16]int{}, 0
	for row := range 150 {
		list := pickList(pick, 40)
		for i, x := range list {
			if impl.Sets(x) == 0 {
				list[i].R = 7 // one key stays, to make more of
			}
		}
		first := fewKeys(pick)
		s := first
		for range 40 {
			sweeps := pickSweeps(pick, pick(12))
			next := impl.Run(list, s, sweeps)
			if !impl.Closed(s, next) || !impl.Closed(first, next) || !closedByWords(first, next) {
				t.Fatalf("Run(%v, %v, %v) = %v, which is not closed by %v", list, s, sweeps, next, first)
			}
			if !impl.Closed(next, s) {
				fewer++
			}
			countOps(list, s, sweeps, &done)
			s = next
			if s.Trap != impl.TpNone || row%2 == 0 && pick(4) == 0 {
				s = goOn(s, pick(40))
			}
		}
	}
	if fewer < 50 || slices.Min(done[1:15]) < 40 {
		t.Error("little was done:", fewer, "had fewer keys then, by op:", done)
	}
}

// The same of one long run of 600, by the program that goes round.
func TestALongRunIsClosed(t *testing.T) {
	list, s := round(t), impl.StateNew()
	sweeps := make([]int, 600)
	for i := range sweeps {
		sweeps[i] = i/9%24 - i%2*24
	}
	for k := 0; k <= 600; k += 5 {
		part := impl.Run(list, s, sweeps[:k])
		whole := impl.Run(list, s, sweeps)
		if !impl.Closed(s, part) || !impl.Closed(s, whole) || !impl.StateOk(part) {
			t.Fatal(k, part)
		}
		forged := copyOfState(whole)
		forged.Mem.Words[k%24] = impl.KeyWord(impl.Root(), 0)
		if impl.Closed(s, forged) || impl.Closed(part, forged) {
			t.Fatal(k, "a key that was not there")
		}
	}
}

// runCase is what a run is asked of.
type runCase struct {
	stepCase
	sweeps []int
}

// runCases has runs of all kinds: none, of steps, of sweeps, of both, too long, of states with a Trap and of wrong ones.
func runCases() []runCase {
	all := []runCase{{stepCase{nil, halfGone()}, nil}, {stepCase{somePlaces(15), halfGone()}, make([]int, 601)}}
	rows := [][]int{nil, {}, {-1}, {5}, {24}, {-1, 5}, {5, -1, -1}, {0, 1, 2, 3}, {-1, -1, -1, -1}, make([]int, 601), slices.Repeat([]int{-1, 3}, 30)}
	for i, x := range stepCases() {
		all = append(all, runCase{x, rows[i%len(rows)]}, runCase{x, rows[(i+i/len(rows)+3)%len(rows)]})
	}
	return all
}

// Promise 29 and new memory: neither list, state nor numbers are written into, nor what is ahead of them or behind; what is written into
// an answer, or into what was given later on, is seen in no other answer.
func TestRunsShareNothing(t *testing.T) {
	for _, x := range runCases() {
		h := hallFor(x.list, x.s)
		long := slices.Concat([]int{-7, 7}, x.sweeps, []int{-9, 9, 9})
		kept := slices.Clone(long)
		sweeps := long[2 : 2+len(x.sweeps)]
		first := impl.Run(h.list, h.s, sweeps)
		want := copyOfState(first)
		second := impl.Run(h.list, h.s, sweeps)
		if !h.isAsItWas() || !slices.Equal(long, kept) || !sameState(second, want) || !sameState(want, runByWords(x.list, x.s, x.sweeps)) {
			t.Fatalf("Run(%v, %v, %v): an argument was written into, or it is not the same again", x.list, x.s, x.sweeps)
		}
		scribbleState(first)
		if !h.isAsItWas() || !slices.Equal(long, kept) || !sameState(second, want) {
			t.Fatalf("Run(%v, %v, %v): an answer shares memory", x.list, x.s, x.sweeps)
		}
		third := impl.Run(h.list, h.s, sweeps)
		scribble(impl.Memory{Words: h.mem.words, Gone: h.mem.gone})
		scribbleState(impl.State{Regs: h.regs})
		clear(h.places)
		clear(long)
		if !sameState(second, want) || !sameState(third, want) {
			t.Fatalf("Run(%v, %v, %v): an answer shares memory with its argument, or another one", x.list, x.s, x.sweeps)
		}
	}
}

func TestTheListsOfARunShareNothing(t *testing.T) {
	for _, x := range runCases() {
		if !liesApart(impl.Run(x.list, x.s, x.sweeps)) {
			t.Fatal("registers lie in memory, or memory in registers:", x)
		}
	}
}

func TestKeysAndClosedShareNothing(t *testing.T) {
	for _, x := range runCases() {
		h, other := hallFor(x.list, x.s), hallFor(nil, impl.Run(x.list, x.s, x.sweeps))
		closed := impl.Closed(h.s, other.s)
		first, second := impl.Keys(h.s), impl.Keys(h.s)
		want := keysByWords(x.s)
		if !slices.Equal(first, want) || !h.isAsItWas() || !other.isAsItWas() || closed != stateByWords(x.s) {
			t.Fatal("turned, or not closed:", x)
		}
		scribbleState(impl.State{Regs: first})
		if !slices.Equal(second, want) || !h.isAsItWas() || impl.Closed(h.s, other.s) != closed {
			t.Fatal("keys share memory:", x)
		}
		scribble(impl.Memory{Words: h.mem.words, Gone: h.mem.gone})
		scribbleState(impl.State{Regs: h.regs})
		if !slices.Equal(second, want) {
			t.Fatal("keys lie in the state:", x)
		}
	}
}

// Nothing is kept: what was asked ahead of a call does not turn its answer.
func TestRunsKeepNothing(t *testing.T) {
	cases := runCases()
	var answers []impl.State
	var keys [][]impl.Word
	for _, x := range cases {
		answers = append(answers, impl.Run(x.list, x.s, x.sweeps))
		keys = append(keys, impl.Keys(x.s))
	}
	for i := len(cases) - 1; i >= 0; i-- {
		x := cases[i]
		impl.Closed(cases[i*7%len(cases)].s, x.s)
		if got := impl.Run(x.list, x.s, x.sweeps); !sameState(got, answers[i]) || !sameState(got, runByWords(x.list, x.s, x.sweeps)) {
			t.Fatalf("Run of %v: %v, then %v", x, answers[i], got)
		}
		if got := impl.Keys(x.s); !slices.Equal(got, keys[i]) || !slices.Equal(got, keysByWords(x.s)) {
			t.Fatalf("Keys of %v: %v, then %v", x.s, keys[i], got)
		}
	}
}

// Promise 29: whatever they are given, they answer.
func TestRunsAnswerAtAnyArguments(t *testing.T) {
	for i, n := range edgeNumbers {
		for j, m := range edgeNumbers {
			w := impl.Word{N: n, Is: (i+j)%3 > 0, Key: impl.Key{Base: m, Top: n, Perms: m, Seal: n}}
			x := impl.Ins{Op: []int{n, 1 + (i+j)%15}[i%2], R: m, A: n, B: m, N: n}
			s := impl.State{Regs: slices.Repeat([]impl.Word{w}, (i+j)%10), Pc: w, Mem: impl.Memory{Words: slices.Repeat([]impl.Word{w}, (i+j)%30), Gone: make([]bool, j)}, Trap: m}
			if got := impl.Run([]impl.Ins{x, x}, s, []int{n, m, -1, n}); !isZeroState(got) || impl.Closed(s, s) || impl.Closed(impl.StateNew(), s) {
				t.Fatal(s, got)
			}
			if keys := impl.Keys(s); !slices.Equal(keys, keysByWords(s)) {
				t.Fatal(s, keys)
			}
			right := halfGone()
			right.Pc.N = 0
			runsTo(t, []impl.Ins{x, x}, right, []int{n, m, -1, n}, runByWords([]impl.Ins{x, x}, right, []int{n, m, -1, n}))
		}
	}
}
