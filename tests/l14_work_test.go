package tests

import (
	"fmt"
	"math"
	"runtime"
	"slices"
	"sync"
	"testing"
	"time"

	"loop.example/g00249/impl"
)

// readyByWords counts what hinders an entry.
func readyByWords(c impl.Core, i int) bool {
	if !coreByWords(c) || i < 0 || i >= len(c.Rob) || c.Rob[i].Done {
		return false
	}
	x, hinders := c.Rob[i].X, 0
	for field, r := range map[string]int{"A": x.A, "B": x.B} {
		if _, there := valueByWords(c, i, r); names(x.Op, field) && !there {
			hinders++
		}
	}
	for _, e := range c.Rob[:i] {
		if x.Op == 10 && (e.X.Op == 14 || e.X.Op == 11 && !e.Done) {
			hinders++
		}
	}
	return hinders == 0
}

// foundByWords goes over all entries from the first on, and keeps what the last one that is as asked put there.
func foundByWords(c impl.Core, i int, by impl.Word, n int) (impl.Word, int) {
	w, trap := readByWords(c.S.Mem, by, n)
	if trap > 0 {
		return impl.Word{}, trap
	}
	for number, e := range c.Rob {
		if number >= i || e.X.Op != 11 || !e.Done || e.E.Trap != 0 || e.E.At != n {
			continue
		}
		w = e.E.Put
		if by.Key.Perms/8%2 == 0 {
			w = bareOf(w)
		}
		w = filterByWords(c.S.Mem.Gone, w)
	}
	return w, impl.TpNone
}

// workedByWords is what an entry that is ready does.
func workedByWords(c impl.Core, i int) impl.Effect {
	e, got, trap := c.Rob[i], impl.Word{}, impl.TpNone
	a, _ := valueByWords(c, i, e.X.A)
	b, _ := valueByWords(c, i, e.X.B)
	switch e.X.Op {
	case impl.OpLoad:
		got, trap = foundByWords(c, i, a, a.N+e.X.N)
	case impl.OpStore:
		_, trap = writeByWords(c.S.Mem, a, a.N+e.X.N, b)
	}
	does := effectByWords(e.X, e.Pc, a, b, got)
	if does.Trap == impl.TpNone && trap != impl.TpNone {
		return trapsOnly(trap, e.Pc)
	}
	return does
}

// doByWords goes through what the chapter tells.
func doByWords(c impl.Core, i int) (impl.Core, bool) {
	if !coreByWords(c) {
		return impl.Core{}, false
	}
	if !readyByWords(c, i) {
		return copyOfCore(c), false
	}
	return doneBy(c, i, workedByWords(c, i)), true
}

// doneBy is a core in which entry i has done that.
func doneBy(c impl.Core, i int, e impl.Effect) impl.Core {
	next := turnedCore(c, i, func(at *impl.Entry) { at.Done, at.E = true, e })
	if e.Trap == impl.TpNone && e.Next == c.Rob[i].Guess {
		return next
	}
	next.Rob = next.Rob[:i+1]
	next.Stop = e.Trap != impl.TpNone
	if !next.Stop {
		next.Next = e.Next
	}
	return next
}

// readyAs holds whether an entry is ready against what is to come of it.
func readyAs(t *testing.T, c impl.Core, i int, want bool) {
	t.Helper()
	if got := impl.Ready(c, i); got != want {
		t.Fatalf("Ready(%v, %v) = %v", c, i, got)
	}
}

// foundAs holds what is found against what is to come of it.
func foundAs(t *testing.T, c impl.Core, i int, by impl.Word, n int, want impl.Word, trap int) {
	t.Helper()
	if got, gotTrap := impl.Found(c, i, by, n); got != want || gotTrap != trap {
		t.Fatalf("Found(%v, %v, %v, %v) = %v, %v, not %v, %v", c, i, by, n, got, gotTrap, want, trap)
	}
}

// doesAs holds what is done against what is to come of it.
func doesAs(t *testing.T, c impl.Core, i int, want impl.Core, done bool) {
	t.Helper()
	if got, ok := impl.Do(c, i); ok != done || !sameCore(got, want) {
		t.Fatalf("Do(%v, %v) = %v, %v, not %v, %v", c, i, got, ok, want, done)
	}
}

// isTakenBack holds what came of entry i of a right core against promise 14.
func isTakenBack(t *testing.T, c impl.Core, i int, next impl.Core, done bool) {
	t.Helper()
	is := func(what string, ok bool) {
		t.Helper()
		if !ok {
			t.Fatalf("Do(%v, %v) = %v, %v: %s", c, i, next, done, what)
		}
	}
	is("what is for good", sameState(next.S, c.S) && slices.Equal(next.Guesses, c.Guesses))
	is("right", impl.CoreOk(next))
	if !done {
		is("as it was", sameCore(next, c))
		return
	}
	is("there", i >= 0 && i < len(next.Rob))
	is("ahead", slices.Equal(next.Rob[:i], c.Rob[:i]))
	was, e := c.Rob[i], next.Rob[i]
	is("itself", e.Pc == was.Pc && e.X == was.X && e.Guess == was.Guess && e.Done && !was.Done)
	switch {
	case e.E.Trap != impl.TpNone:
		is("behind a trap", len(next.Rob) == i+1 && next.Stop && next.Next == c.Next)
		is("a trap", e.E == trapsOnly(e.E.Trap, e.Pc))
	case e.E.Next != e.Guess:
		is("behind a wrong guess", len(next.Rob) == i+1 && !next.Stop && next.Next == e.E.Next)
	default:
		is("behind a right guess", slices.Equal(next.Rob[i+1:], c.Rob[i+1:]) && next.Stop == c.Stop && next.Next == c.Next)
	}
}

// worked holds what is done in a right core against promise 14 and the chapter's words, and answers it.
func worked(t *testing.T, c impl.Core, i int) (impl.Core, bool) {
	t.Helper()
	readyAs(t, c, i, readyByWords(c, i))
	next, done := impl.Do(c, i)
	isTakenBack(t, c, i, next, done)
	want, wantDone := doByWords(c, i)
	if done != wantDone || !sameCore(next, want) {
		t.Fatalf("Do(%v, %v) = %v, %v, not %v, %v", c, i, next, done, want, wantDone)
	}
	return next, done
}

// busyCore is a picked core of which much is ready: registers mostly have keys to memory, which places load from and store to, and half
// of what is ready was guessed right.
func busyCore(pick func(of int) int, entries int) impl.Core {
	c := pickCore(pick, entries)
	for r := range c.S.Regs {
		if pick(4) > 0 {
			c.S.Regs[r] = key24(pick(4), 63-[]int{0, 0, 0, 8, 16, 1, 2, 4}[pick(8)], 0)
		}
	}
	for i := range c.Rob {
		e := &c.Rob[i]
		switch pick(5) {
		case 0:
			e.X = impl.Ins{Op: impl.OpLoad, R: pick(8), A: pick(8), N: pick(3)}
		case 1, 2:
			e.X, e.E.At, e.E.Trap = impl.Ins{Op: impl.OpStore, A: pick(8), B: pick(8), N: pick(3)}, pick(6), pick(6)*(pick(6)/5)
			e.E.R, e.Done = -1, pick(8) > 0
		case 3:
			e.X = impl.Ins{}
		}
	}
	for i := range c.Rob {
		if readyByWords(c, i) && pick(2) == 0 {
			c.Rob[i].Guess = workedByWords(c, i).Next
		}
	}
	return c
}

// storedAhead tells whether what a load reads was put there by an entry ahead of it.
func storedAhead(c impl.Core, i int) bool {
	a, _ := valueByWords(c, i, c.Rob[i].X.A)
	alone := copyOfCore(c)
	alone.Rob = c.Rob[i:]
	w, _ := foundByWords(c, i, a, a.N+c.Rob[i].X.N)
	read, _ := foundByWords(alone, 0, a, a.N+c.Rob[i].X.N)
	return w != read
}

// Promise 14, over picked cores with 0 to MaxRob entries, each of which is asked for, and what is none.
func TestWhatIsBehindAWrongGuessIsTakenBack(t *testing.T) {
	pick := picker(14)
	right, wrong, traps, refused, stored, ops := 0, 0, [6]int{}, 0, 0, [16]int{}
	for row := range 12000 {
		c := busyCore(pick, row%7)
		for i := -1; i <= len(c.Rob); i++ {
			next, done := worked(t, c, i)
			if !done {
				refused++
				continue
			}
			e := next.Rob[i]
			ops[e.X.Op]++
			traps[e.E.Trap]++
			switch {
			case e.X.Op == impl.OpLoad && storedAhead(c, i):
				stored++
			case i == len(c.Rob)-1 || e.E.Trap > 0:
			case e.E.Next == e.Guess:
				right++
			default:
				wrong++
			}
		}
	}
	if right < 1500 || wrong < 1500 || refused < 20000 || stored < 100 || slices.Min(traps[:]) < 30 || slices.Min(ops[:]) < 100 {
		t.Error("little was done:", right, wrong, traps, refused, stored, ops)
	}
}

// turnedBy is a state that was turned by what is told.
func turnedBy(s impl.State, e impl.Effect) impl.State {
	next := copyOfState(s)
	if e.R >= 0 {
		next.Regs[e.R] = e.Val
	}
	if e.At >= 0 && e.At < 24 {
		next.Mem.Words[e.At] = e.Put
	}
	if e.Drop >= 0 && e.Drop < 24 {
		next.Mem.Gone[e.Drop] = true
	}
	next.Pc, next.Trap = e.Next, e.Trap
	return next
}

// forGood takes one step, and holds it against what the first entry tells; that is no more then.
func forGood(t *testing.T, list []impl.Ins, c impl.Core) impl.Core {
	t.Helper()
	e := c.Rob[0]
	next := copyOfCore(c)
	next.S = impl.Step(list, c.S)
	if e.Pc != c.S.Pc || !sameState(next.S, turnedBy(c.S, e.E)) {
		t.Fatalf("first under way is %v, but of %v comes %v", e, c.S, next.S)
	}
	next.Rob, next.Guesses = c.Rob[1:], learnByWords(c.Guesses, e.Pc, e.E.Next)
	switch {
	case e.E.Trap != impl.TpNone:
		next.Rob, next.Stop = nil, true
	case e.E.Drop >= 0:
		next.Rob, next.Next, next.Stop = nil, next.S.Pc, false
	}
	return next
}

// busyList is a program that goes round, loads and stores.
func busyList(pick func(of int) int, length int) []impl.Ins {
	list := pickList(pick, length)
	for i := range list {
		switch pick(14) {
		case 0, 1, 2:
			list[i] = impl.Ins{Op: impl.OpLoad, R: 1 + pick(7), N: pick(3)}
		case 3, 4, 5:
			list[i] = impl.Ins{Op: impl.OpStore, B: pick(8), N: pick(3)}
		case 6, 7:
			list[i] = impl.Ins{Op: impl.OpZero, A: pick(8), N: pick(length) - i}
		case 8:
			list[i] = impl.Ins{Op: impl.OpGone}
		}
	}
	return list
}

// Promise 14, over cores somewhere on their way: what is done in whatever order is, when it comes to be the first that is under way, what a
// step does there; so what was behind a wrong guess, or a trap, is not there any more, and what is ahead of a load was seen by it.
func TestWhatIsDoneOnTheWayIsWhatStepsDo(t *testing.T) {
	pick := picker(140)
	steps, wrong, trapped, behind, loads, outOfOrder := 0, 0, 0, 0, 0, 0
	for range 2000 {
		list := busyList(pick, 3+pick(10))
		c := impl.CoreNew(fewKeys(pick))
		for range 90 {
			switch pick(8) {
			case 0, 1, 2:
				c, _ = pulled(t, list, c)
			case 3:
				if len(c.Rob) > 0 && c.Rob[0].Done && c.S.Trap == impl.TpNone {
					c = forGood(t, list, c)
					steps++
				}
			case 4:
				c.S.Mem = impl.Sweep(c.S.Mem, pick(24))
				if pick(3) == 0 {
					c.Guesses = impl.Learn(c.Guesses, pcAt(pick(len(list))), pcAt(pick(len(list))))
				}
			default:
				i := pick(6)
				next, done := worked(t, c, i)
				switch {
				case !done:
				case next.Rob[i].E.Trap != impl.TpNone:
					trapped++
				case next.Rob[i].E.Next != next.Rob[i].Guess:
					wrong++
					behind += len(c.Rob) - len(next.Rob)
				case next.Rob[i].X.Op == impl.OpLoad && storedAhead(c, i):
					loads++
				case slices.ContainsFunc(c.Rob[:i], func(e impl.Entry) bool { return !e.Done }):
					outOfOrder++
				}
				c = next
			}
		}
	}
	if steps < 5000 || wrong < 500 || trapped < 500 || behind < 1000 || loads < 60 || outOfOrder < 2000 {
		t.Error("little was done:", steps, wrong, trapped, behind, loads, outOfOrder)
	}
}

// The same by a program that goes round and round, as far as it goes: what is done is done from the last entry on wherever it is ready.
func TestARoundIsDoneBackwards(t *testing.T) {
	list := round(t)
	c := impl.CoreNew(impl.StateNew())
	steps := 0
	for c.S.Trap == impl.TpNone {
		for range 6 {
			c, _ = pulled(t, list, c)
		}
		for i := 5; i >= 0; i-- {
			c, _ = worked(t, c, i)
		}
		if c.Rob[0].Done {
			c = forGood(t, list, c)
			steps++
		}
	}
	if c.S.Trap != impl.TpBound || steps < 300 {
		t.Error(c.S.Trap, "after", steps)
	}
}

// A core that is not right, for each reason: nothing is ready, and it is zero.
func TestNothingIsReadyInWrongCores(t *testing.T) {
	for _, x := range wrongCores() {
		for i := -1; i < min(len(x.c.Rob), 20)+2; i++ {
			if impl.Ready(x.c, i) {
				t.Fatal(x.name, i)
			}
			doesAs(t, x.c, i, impl.Core{}, false)
		}
		for _, i := range edgeNumbers {
			if impl.Ready(x.c, i) {
				t.Fatal(x.name, i)
			}
			doesAs(t, x.c, i, impl.Core{}, false)
		}
	}
}

// What is no entry, or is done, is not ready; every field is as it was.
func TestWhatIsNoneOrDoneIsNotReady(t *testing.T) {
	for _, c := range append(rightCores(), mixedCore()) {
		n := len(c.Rob)
		for _, i := range append([]int{-1, -6, n, n + 1, n + 6, 6, 7, 1 << 32, math.MinInt + n}, edgeNumbers...) {
			if i >= 0 && i < n && !c.Rob[i].Done {
				continue
			}
			readyAs(t, c, i, false)
			doesAs(t, c, i, c, false)
		}
		for i := range c.Rob {
			done := turnedCore(c, i, func(e *impl.Entry) { e.Done, e.X = true, impl.Ins{Op: impl.OpSet} })
			readyAs(t, done, i, false)
			doesAs(t, done, i, done, false)
			done.Rob[i].Done = false
			readyAs(t, done, i, true)
		}
	}
	for entries := range 7 {
		c := fullCore(entries)
		for i := range c.Rob {
			readyAs(t, c, i, i%2 == 0)
		}
	}
}

// waiting is an entry that is to set that register, or has set it.
func waiting(r int, done bool) impl.Entry {
	e := impl.Entry{Pc: pcAt(r), X: impl.Ins{Op: impl.OpSet, R: r, N: 40 + r}, Done: done, Guess: pcAt(r + 1)}
	if done {
		e.E = impl.Effect{R: r, Val: key24(r, 63, 0), Next: pcAt(r + 1), At: -1, Drop: -1}
	}
	return e
}

// coreOf is a right core with just these entries.
func coreOf(rob ...impl.Entry) impl.Core {
	c := fullCore(0)
	c.Rob = rob
	return c
}

// begunOf is an entry of that place, at place 9, guessed to go on with the next one.
func begunOf(x impl.Ins) impl.Entry {
	return impl.Entry{Pc: pcAt(9), X: x, Guess: pcAt(10)}
}

// Of each op, and of no place: registers that it takes are waited for, those that it does not have are not, register 0 among them, which
// stands in each field that it does not have.
func TestRegistersThatAPlaceTakesAreWaitedFor(t *testing.T) {
	takesA := []int{impl.OpAdd, impl.OpMove, impl.OpWeak, impl.OpBound, impl.OpPoint, impl.OpSeal, impl.OpOpen, impl.OpIs, impl.OpLoad, impl.OpStore, impl.OpJump, impl.OpZero, impl.OpGone}
	takesB := []int{impl.OpAdd, impl.OpWeak, impl.OpBound, impl.OpPoint, impl.OpSeal, impl.OpOpen, impl.OpStore}
	for op := range 16 {
		for _, a := range []int{0, 2, 7} {
			for _, b := range []int{0, 2, 6} {
				x := impl.Ins{Op: op}
				hasA, hasB := slices.Contains(takesA, op), slices.Contains(takesB, op)
				if hasA {
					x.A = a
				}
				if hasB {
					x.B = b
				}
				if op != 0 && names(op, "R") {
					x.R = 5
				}
				for set := range 32 {
					there := func(r int) bool {
						at := slices.Index([]int{0, 2, 5, 6, 7}, r)
						return set>>at&1 == 1
					}
					var rob []impl.Entry
					for _, r := range []int{0, 2, 5, 6, 7} {
						rob = append(rob, waiting(r, there(r)))
					}
					c := coreOf(append(rob, begunOf(x))...)
					want := (!hasA || there(a)) && (!hasB || there(b))
					readyAs(t, c, 5, want)
					if _, done := worked(t, c, 5); done != want {
						t.Fatal(x, set, done)
					}
				}
			}
		}
	}
}

// What sets a register behind an entry, or is that entry itself, is not waited for.
func TestWhatIsBehindIsNotWaitedFor(t *testing.T) {
	for op := 1; op <= 15; op++ {
		x := aPlace(op)
		for _, field := range []string{"R", "A", "B"} {
			if names(op, field) {
				x = with(x, field, 3)
			}
		}
		for at := range 6 {
			var rob []impl.Entry
			for i := range 6 {
				rob = append(rob, waiting(3, i < at))
			}
			c := coreOf(rob...)
			c.Rob[at] = begunOf(x)
			readyAs(t, c, at, true)
			worked(t, c, at)
		}
	}
}

// storeOf is an entry that puts a word at an address, if it is done.
func storeOf(at int, put impl.Word, done bool) impl.Entry {
	e := impl.Entry{Pc: pcAt(8), X: impl.Ins{Op: impl.OpStore, A: 4, B: 4, N: 1}, Done: done, Guess: pcAt(9)}
	e.E = impl.Effect{R: -1, Next: pcAt(9), At: at, Put: put, Drop: -1}
	return e
}

// goneOf is an entry that lets what begins there be gone, if it is done.
func goneOf(drop int, done bool) impl.Entry {
	e := impl.Entry{Pc: pcAt(8), X: impl.Ins{Op: impl.OpGone, A: 4}, Done: done, Guess: pcAt(9)}
	e.E = impl.Effect{R: -1, Next: pcAt(9), At: -1, Drop: drop}
	return e
}

// What hinders a load hinders it alone, wherever it is ahead of it, and nowhere behind it.
func TestWhatIsAheadOfALoad(t *testing.T) {
	trapped := storeOf(-1, impl.Word{}, true)
	trapped.E = trapsOnly(impl.TpPerm, pcAt(8))
	trappedGone := goneOf(-1, true)
	trappedGone.E = trapsOnly(impl.TpSeal, pcAt(8))
	for _, x := range []struct {
		name    string
		e       impl.Entry
		hinders bool
	}{
		{"a store that is not done", storeOf(3, impl.Plain(1), false), true},
		{"a store that is not done, elsewhere", storeOf(-1, impl.Plain(1), false), true},
		{"a store that is done", storeOf(3, impl.Plain(1), true), false},
		{"a store that trapped", trapped, false},
		{"what lets go, not done", goneOf(4, false), true},
		{"what lets go, done", goneOf(4, true), true},
		{"what lets go, of no address", goneOf(4096, true), true},
		{"what lets go and trapped", trappedGone, true},
		{"a load that is not done", begunOf(impl.Ins{Op: impl.OpLoad, R: 5, A: 4}), false},
		{"a jump that is not done", begunOf(impl.Ins{Op: impl.OpJump, R: 5, A: 4}), false},
		{"the end, not done", begunOf(impl.Ins{Op: impl.OpHalt}), false},
		{"no place, not done", begunOf(impl.Ins{}), false},
		{"no place, trapped", notBegun(pcAt(8), impl.TpBound), false},
	} {
		for op := range 16 {
			load := begunOf(aPlace(op))
			load.X.A, load.X.B = min(load.X.A, 4), min(load.X.B, 4)
			pass := begunOf(impl.Ins{Op: impl.OpZero, A: 4})
			for count := 1; count <= 6; count++ {
				for at := range count {
					for other := range count {
						c := coreOf(slices.Repeat([]impl.Entry{pass}, count)...)
						c.Rob[other] = x.e
						c.Rob[at] = load
						want := op != impl.OpLoad || other >= at || !x.hinders
						if got := impl.Ready(c, at); got != want {
							t.Fatalf("%s at %v, op %v at %v: Ready %v", x.name, other, op, at, got)
						}
						if _, done := worked(t, c, at); done != want {
							t.Fatalf("%s at %v, op %v at %v: done %v", x.name, other, op, at, done)
						}
					}
				}
			}
		}
	}
}

// Each trap that Read tells comes first, whatever is ahead.
func TestWhatReadTrapsWithIsFoundFirst(t *testing.T) {
	trapSets(impl.PmLoad, func(m impl.Memory, by impl.Word, n int, want int) {
		for _, put := range []impl.Word{{N: 77}, allOf, key24(7, 1, 3)} {
			c := coreOf(storeOf(n, put, true), storeOf(n, put, false), storeOf(n, put, true), storeOf(n+1, allOf, true))
			c.S.Mem = m
			for i := -1; i < 6; i++ {
				switch {
				case want != impl.TpNone:
					foundAs(t, c, i, by, n, impl.Word{}, want)
				case i > 0:
					foundAs(t, c, i, by, n, put, impl.TpNone)
				default:
					foundAs(t, c, i, by, n, m.Words[n], impl.TpNone)
				}
			}
		}
	})
}

func TestFoundEdges(t *testing.T) {
	one, two, lies := impl.Plain(301), impl.Plain(302), impl.Plain(300)
	key, sealed, gone, far := keyOf(9, 7, 20, 3), key24(9, 3, 2), keyOf(9, 5, 20, 63), keyOf(30, 30, 40, 63)
	trapped := storeOf(7, one, true)
	trapped.E.Trap = impl.TpBound
	stopped := storeOf(7, one, true)
	stopped.E.Trap = impl.TpStop
	load, no := storeOf(7, one, true), storeOf(7, one, true)
	load.X, no.X = impl.Ins{Op: impl.OpLoad, R: 1, A: 4, N: 1}, impl.Ins{}
	all, bare := key24(0, 63, 0), key24(0, 63-8, 0)
	for _, x := range []struct {
		name  string
		ahead []impl.Entry
		by    impl.Word
		want  impl.Word
	}{
		{"nothing ahead", nil, all, lies},
		{"a store", []impl.Entry{storeOf(7, one, true)}, all, one},
		{"a store of 0", []impl.Entry{storeOf(7, impl.Word{}, true)}, all, impl.Word{}},
		{"the last of two", []impl.Entry{storeOf(7, one, true), storeOf(7, two, true)}, all, two},
		{"the last of two, with others behind them", []impl.Entry{storeOf(7, one, true), storeOf(7, two, true), load, storeOf(8, one, true)}, all, two},
		{"the first of two, of which the last is elsewhere", []impl.Entry{storeOf(7, one, true), storeOf(6, two, true)}, all, one},
		{"the first of two, of which the last is not done", []impl.Entry{storeOf(7, two, true), storeOf(7, one, false)}, all, two},
		{"the first of two, of which the last trapped", []impl.Entry{storeOf(7, two, true), trapped}, all, two},
		{"one that trapped", []impl.Entry{trapped}, all, lies},
		{"one that trapped with the last trap", []impl.Entry{stopped}, all, lies},
		{"one elsewhere", []impl.Entry{storeOf(8, one, true)}, all, lies},
		{"one at no address", []impl.Entry{storeOf(-1, one, true), storeOf(24, one, true), storeOf(math.MaxInt, one, true)}, all, lies},
		{"one that is not done", []impl.Entry{storeOf(7, one, false)}, all, lies},
		{"a load that says so", []impl.Entry{load}, all, lies},
		{"no place that says so", []impl.Entry{no}, all, lies},
		{"a key", []impl.Entry{storeOf(7, key, true)}, all, key},
		{"a key that may not be taken", []impl.Entry{storeOf(7, key, true)}, bare, impl.Plain(9)},
		{"a number, by who may not take", []impl.Entry{storeOf(7, one, true)}, bare, one},
		{"a sealed key", []impl.Entry{storeOf(7, sealed, true)}, all, sealed},
		{"a sealed key that may not be taken", []impl.Entry{storeOf(7, sealed, true)}, bare, impl.Plain(9)},
		{"a key that is gone", []impl.Entry{storeOf(7, gone, true)}, all, impl.Plain(9)},
		{"a key that is gone and may not be taken", []impl.Entry{storeOf(7, gone, true)}, bare, impl.Plain(9)},
		{"a key that begins at no address", []impl.Entry{storeOf(7, far, true)}, all, far},
		{"a key that is gone, ahead of a number", []impl.Entry{storeOf(7, gone, true), storeOf(7, two, true)}, all, two},
		{"what is not gone yet", []impl.Entry{storeOf(7, key, true), goneOf(7, true)}, all, key},
		{"what is not gone yet, and lies there", []impl.Entry{goneOf(7, true)}, all, lies},
	} {
		for before := range 3 {
			rob := append(slices.Repeat([]impl.Entry{begunOf(impl.Ins{Op: impl.OpHalt})}, before), x.ahead...)
			i := len(rob)
			for _, behind := range [][]impl.Entry{nil, {storeOf(7, impl.Plain(999), true)}, {begunOf(impl.Ins{}), storeOf(7, impl.Plain(999), true)}} {
				c := coreOf(append(slices.Clone(rob), behind...)...)
				c.S.Mem = impl.MemoryNew()
				c.S.Mem.Words[7], c.S.Mem.Gone[5] = lies, true
				if got, trap := impl.Found(c, i, x.by, 7); got != x.want || trap != impl.TpNone {
					t.Errorf("%s: %v, %v, not %v", x.name, got, trap, x.want)
				}
			}
			c := coreOf(rob...)
			c.S.Mem.Words[7] = lies
			c.S.Mem.Gone[5] = true
			for _, beyond := range []int{i + 1, i + 7, math.MaxInt} {
				foundAs(t, c, beyond, x.by, 7, x.want, impl.TpNone)
			}
			for _, below := range []int{-1, -7, math.MinInt} {
				foundAs(t, c, below, x.by, 7, lies, impl.TpNone)
			}
		}
	}
}

// Memory as it is where nothing was put, by keys of all kinds: what is read there, gone or not.
func TestFoundIsReadWhereNothingWasPut(t *testing.T) {
	for i, m := range rightMemories() {
		if i%13 != 0 {
			continue
		}
		c := coreOf(storeOf(3, allOf, true), begunOf(impl.Ins{}))
		c.S.Mem = m
		for _, by := range []impl.Word{key24(0, 63, 0), key24(0, 1, 0), keyOf(0, 2, 4096, 9), key24(0, 63, 1), {N: 4}} {
			for n := -1; n < 26; n++ {
				w, trap := impl.Read(m, by, n)
				foundAs(t, c, 0, by, n, w, trap)
				if n != 3 {
					foundAs(t, c, 2, by, n, w, trap)
				}
				want, wantTrap := foundByWords(c, 1, by, n)
				foundAs(t, c, 1, by, n, want, wantTrap)
			}
		}
	}
}

// All rows of four entries of these kinds, for each number.
func TestFoundOfAllRows(t *testing.T) {
	trapped := storeOf(7, impl.Plain(401), true)
	trapped.E.Trap = impl.TpPerm
	load := storeOf(7, impl.Plain(402), true)
	load.X = impl.Ins{Op: impl.OpGone, A: 4}
	kinds := []impl.Entry{storeOf(7, impl.Plain(400), true), storeOf(7, key24(403, 9, 0), true), trapped, load, storeOf(8, impl.Plain(404), true), storeOf(7, impl.Plain(405), false)}
	for row := range 6 * 6 * 6 * 6 {
		var rob []impl.Entry
		for at, n := 0, row; at < 4; at, n = at+1, n/6 {
			e := kinds[n%6]
			e.E.Put.N += 10 * at
			rob = append(rob, e)
		}
		c := coreOf(rob...)
		want := c.S.Mem.Words[7]
		for i := range 5 {
			foundAs(t, c, i, allOf, 7, want, impl.TpNone)
			if i < 4 && (rob[i].E.Put.N%10 == 0 || rob[i].E.Put.N%10 == 3) {
				want = rob[i].E.Put
			}
		}
	}
}

// Of a core that is not right entries are asked as they are, and memory as Read asks it.
func TestFoundOfWrongCores(t *testing.T) {
	for _, x := range wrongCores() {
		for _, i := range []int{-1, 0, 1, len(x.c.Rob), 99} {
			for _, n := range []int{-1, 0, 5, 23, 24} {
				for _, by := range []impl.Word{allOf, key24(0, 63, 3), {N: 3}} {
					want, trap := foundByWords(x.c, i, by, n)
					foundAs(t, x.c, i, by, n, want, trap)
				}
			}
		}
	}
	c := coreOf(slices.Repeat([]impl.Entry{storeOf(5, impl.Plain(5), true)}, 40)...)
	c.Rob[20].E.Put, c.Rob[39].E.Put = impl.Word{N: -8}, impl.Word{N: 70000, Is: true, Key: impl.Key{Base: 9}}
	foundAs(t, c, 20, allOf, 5, impl.Plain(5), impl.TpNone)
	foundAs(t, c, 21, allOf, 5, impl.Word{N: -8}, impl.TpNone)
	foundAs(t, c, 40, allOf, 5, c.Rob[39].E.Put, impl.TpNone)
}

// turnsOf has cores in which an entry of that place stands: behind these entries, ahead of others or of none, stopped or not, each time
// guessed right, and wrong by one thing.
func turnsOf(s impl.State, ahead []impl.Entry, x impl.Ins, next impl.Word, each func(c impl.Core, i int, right bool)) {
	other := next
	other.N ^= 1
	guesses := []impl.Word{next, other, bareOf(next), {}, allAt(next.N)}
	for _, turn := range []func(k *impl.Key){func(k *impl.Key) { k.Base++ }, func(k *impl.Key) { k.Top-- }, func(k *impl.Key) { k.Perms ^= 1 }, func(k *impl.Key) { k.Seal ^= 1 }} {
		guess := next
		turn(&guess.Key)
		if impl.WordOk(guess) {
			guesses = append(guesses, guess)
		}
	}
	i := len(ahead)
	for _, guess := range guesses {
		for behind := range 6 - i {
			for _, stop := range []bool{false, true} {
				e := begunOf(x)
				e.Guess = guess
				c := coreOf(slices.Concat(ahead, []impl.Entry{e}, fullCore(behind).Rob)...)
				c.S, c.Stop = s, stop
				each(c, i, guess == next)
			}
		}
	}
}

// What is done, by name: what register 1 has is a, what register 2 has is b.
func TestDoEdges(t *testing.T) {
	a, lies := key24(5, 63, 0), keyOf(3, 3, 20, 9)
	number, key := impl.Plain(301), keyOf(9, 7, 20, 3)
	load, store := impl.Ins{Op: impl.OpLoad, R: 3, A: 1, N: 2}, impl.Ins{Op: impl.OpStore, A: 1, B: 2, N: 2}
	loadBack, storeBack := impl.Ins{Op: impl.OpLoad, R: 1, A: 1, N: -128}, impl.Ins{Op: impl.OpStore, A: 1, B: 1, N: -128}
	on, none := pcAt(10), impl.Word{}
	sets := func(r int, val impl.Word) impl.Effect { return impl.Effect{R: r, Val: val, Next: on, At: -1, Drop: -1} }
	goes := func(next impl.Word) impl.Effect { return impl.Effect{R: -1, Next: next, At: -1, Drop: -1} }
	puts := func(at int, put impl.Word) impl.Effect {
		return impl.Effect{R: -1, Next: on, At: at, Put: put, Drop: -1}
	}
	traps := func(trap int) impl.Effect { return trapsOnly(trap, pcAt(9)) }
	jumped := sets(6, on)
	jumped.Next = keyOf(33, 30, 40, 63)
	dropped := goes(on)
	dropped.Drop = 19
	for _, x := range []struct {
		name  string
		a, b  impl.Word
		ahead []impl.Entry
		x     impl.Ins
		want  impl.Effect
	}{
		{"set", none, none, nil, impl.Ins{Op: impl.OpSet, R: 7, N: -2}, sets(7, impl.Plain(65534))},
		{"add", impl.Plain(65535), impl.Plain(3), nil, impl.Ins{Op: impl.OpAdd, R: 1, A: 1, B: 2}, sets(1, impl.Plain(2))},
		{"move", key, none, nil, impl.Ins{Op: impl.OpMove, A: 1}, sets(0, key)},
		{"weaken", key, impl.Plain(1), nil, impl.Ins{Op: impl.OpWeak, R: 2, A: 1, B: 2}, sets(2, keyOf(9, 7, 20, 1))},
		{"narrow", key, impl.Plain(4), nil, impl.Ins{Op: impl.OpBound, R: 2, A: 1, B: 2}, sets(2, keyOf(9, 9, 13, 3))},
		{"point", key, impl.Plain(4), nil, impl.Ins{Op: impl.OpPoint, R: 2, A: 1, B: 2, N: -14}, sets(2, keyOf(65535, 7, 20, 3))},
		{"seal", a, key24(3, 63, 0), nil, impl.Ins{Op: impl.OpSeal, R: 2, A: 1, B: 2}, sets(2, key24(5, 63, 3))},
		{"open", key24(5, 63, 3), key24(3, 63, 0), nil, impl.Ins{Op: impl.OpOpen, R: 2, A: 1, B: 2}, sets(2, a)},
		{"is", key, none, nil, impl.Ins{Op: impl.OpIs, R: 2, A: 1}, sets(2, impl.Plain(1))},
		{"is none", number, none, nil, impl.Ins{Op: impl.OpIs, R: 2, A: 1}, sets(2, none)},
		{"zero", impl.Plain(0), none, nil, impl.Ins{Op: impl.OpZero, A: 1, N: -9}, goes(pcAt(0))},
		{"not zero", number, none, nil, impl.Ins{Op: impl.OpZero, A: 1, N: -9}, goes(on)},
		{"jump", keyOf(33, 30, 40, 63), none, nil, impl.Ins{Op: impl.OpJump, R: 6, A: 1}, jumped},
		{"jump by a number", number, none, nil, impl.Ins{Op: impl.OpJump, R: 6, A: 1}, traps(impl.TpKey)},
		{"jump by what may not be run", key, none, nil, impl.Ins{Op: impl.OpJump, R: 6, A: 1}, traps(impl.TpPerm)},
		{"gone", keyOf(22, 19, 30, 63), none, nil, impl.Ins{Op: impl.OpGone, A: 1}, dropped},
		{"gone, by what is sealed", key24(5, 63, 4), none, nil, impl.Ins{Op: impl.OpGone, A: 1}, traps(impl.TpSeal)},
		{"the end", none, none, nil, impl.Ins{Op: impl.OpHalt}, traps(impl.TpStop)},
		{"no place", none, none, nil, impl.Ins{}, goes(on)},

		{"load", a, none, nil, load, sets(3, lies)},
		{"load by what may not take", key24(5, 63-8, 0), none, nil, load, sets(3, impl.Plain(3))},
		{"load what was put", a, none, []impl.Entry{storeOf(7, key, true)}, load, sets(3, key)},
		{"load what was put last", a, none, []impl.Entry{storeOf(7, key, true), storeOf(7, number, true)}, load, sets(3, number)},
		{"load what was put, by what may not take", key24(5, 63-8, 0), none, []impl.Entry{storeOf(7, key, true)}, load, sets(3, impl.Plain(9))},
		{"load what was put, and is gone", a, none, []impl.Entry{storeOf(7, keyOf(9, 5, 20, 3), true)}, load, sets(3, impl.Plain(9))},
		{"load what was put elsewhere", a, none, []impl.Entry{storeOf(5, key, true), storeOf(2, key, true)}, load, sets(3, lies)},
		{"load at the last cell", keyOf(151, 0, 4096, 63), none, nil, loadBack, sets(1, number)},
		{"load at the last cell what was put", keyOf(151, 0, 4096, 63), none, []impl.Entry{storeOf(23, key, true)}, loadBack, sets(1, key)},
		{"load one beyond", keyOf(152, 0, 4096, 63), none, []impl.Entry{storeOf(24, key, true)}, loadBack, traps(impl.TpBound)},
		{"load at 0", keyOf(128, 0, 4096, 63), none, nil, loadBack, sets(1, key24(1, 63, 2))},
		{"load below 0", keyOf(127, 0, 4096, 63), none, []impl.Entry{storeOf(-1, key, true)}, loadBack, traps(impl.TpBound)},
		{"load one beyond all numbers", keyOf(65535, 0, 4096, 63), none, []impl.Entry{storeOf(0, key, true), storeOf(1, key, true)}, load, traps(impl.TpBound)},
		{"load by a number", impl.Plain(5), none, []impl.Entry{storeOf(7, key, true)}, load, traps(impl.TpKey)},
		{"load by what is sealed", key24(5, 63, 1), none, []impl.Entry{storeOf(7, key, true)}, load, traps(impl.TpSeal)},
		{"load by what may not load", key24(5, 62, 0), none, []impl.Entry{storeOf(7, key, true)}, load, traps(impl.TpPerm)},
		{"load by what does not open it", keyOf(5, 0, 7, 63), none, []impl.Entry{storeOf(7, key, true)}, load, traps(impl.TpBound)},
		{"load by what opens just that", keyOf(5, 7, 8, 1+8), none, nil, load, sets(3, lies)},

		{"store a number", a, number, nil, store, puts(7, number)},
		{"store a key", a, key, nil, store, puts(7, key)},
		{"store what is sealed", a, key24(5, 63, 1), nil, store, puts(7, key24(5, 63, 1))},
		{"store what is gone", a, keyOf(9, 5, 20, 3), nil, store, puts(7, keyOf(9, 5, 20, 3))},
		{"store a number by what may not put", keyOf(5, 7, 8, 2), number, nil, store, puts(7, number)},
		{"store a key by what may not put", key24(5, 63-16, 0), key, nil, store, traps(impl.TpPerm)},
		{"store what is sealed by what may not put", key24(5, 63-16, 0), key24(5, 63, 1), nil, store, traps(impl.TpPerm)},
		{"store by what may not store", key24(5, 61, 0), number, nil, store, traps(impl.TpPerm)},
		{"store by a number", impl.Plain(5), number, nil, store, traps(impl.TpKey)},
		{"store by what is sealed", key24(5, 63, 7), number, nil, store, traps(impl.TpSeal)},
		{"store by what does not open it", keyOf(5, 0, 7, 63), number, nil, store, traps(impl.TpBound)},
		{"store by what does not open it, and may not put", keyOf(5, 0, 7, 63-16), key, nil, store, traps(impl.TpBound)},
		{"store at the last cell", keyOf(151, 0, 4096, 63), none, nil, storeBack, puts(23, keyOf(151, 0, 4096, 63))},
		{"store one beyond", keyOf(152, 0, 4096, 63), none, nil, storeBack, traps(impl.TpBound)},
		{"store one beyond, and may not put", keyOf(152, 0, 4096, 2), none, nil, storeBack, traps(impl.TpBound)},
		{"store at 0", keyOf(128, 0, 4096, 63), none, nil, storeBack, puts(0, keyOf(128, 0, 4096, 63))},
		{"store below 0", keyOf(127, 0, 4096, 63), none, nil, storeBack, traps(impl.TpBound)},
		{"store one beyond all numbers", keyOf(65535, 0, 4096, 63), number, nil, store, traps(impl.TpBound)},
		{"store where something was put", a, number, []impl.Entry{storeOf(7, key, true)}, store, puts(7, number)},
		{"store where something is to be put", a, number, []impl.Entry{storeOf(7, key, false), goneOf(7, false)}, store, puts(7, number)},
	} {
		s := stateWith(x.a, x.b)
		s.Mem.Words[0], s.Mem.Words[7], s.Mem.Words[23], s.Mem.Gone[5] = key24(1, 63, 2), lies, number, true
		s.Mem.Gone[0] = false
		turnsOf(s, x.ahead, x.x, x.want.Next, func(c impl.Core, i int, right bool) {
			next, done := impl.Do(c, i)
			if !done || next.Rob[i].E != x.want {
				t.Fatalf("%s: %v, %v, not %v", x.name, next.Rob, done, x.want)
			}
			isTakenBack(t, c, i, next, done)
			kept := len(c.Rob)
			if !right || x.want.Trap != impl.TpNone {
				kept = i + 1
			}
			if len(next.Rob) != kept {
				t.Fatalf("%s, guessed right %v: %v entries of %v", x.name, right, len(next.Rob), len(c.Rob))
			}
			doesAs(t, c, i, doneBy(c, i, x.want), true)
		})
	}
}

// What comes of a load and of a store by each set of things that may trap, alone and together.
func TestWhichTrapOfDoComesFirst(t *testing.T) {
	for _, x := range []struct{ op, perm int }{{impl.OpLoad, impl.PmLoad}, {impl.OpStore, impl.PmStore}} {
		trapSets(x.perm, func(m impl.Memory, by impl.Word, n int, want int) {
			place := impl.Ins{Op: x.op, A: 1, N: n - by.N}
			c := coreOf(storeOf(n, key24(77, 63, 0), true), begunOf(place))
			c.S.Mem, c.S.Regs[1], c.S.Regs[0] = m, by, impl.Plain(5)
			if !impl.WordOk(by) {
				doesAs(t, c, 1, impl.Core{}, false)
				return
			}
			e := trapsOnly(want, pcAt(9))
			if want == impl.TpNone {
				e = workedByWords(c, 1)
			}
			doesAs(t, c, 1, doneBy(c, 1, e), true)
			if want == impl.TpNone && (e.Trap != want || e.Next != pcAt(10)) {
				t.Fatal(e)
			}
		})
	}
	for _, perms := range []int{63, 63 - 16} {
		for _, b := range []impl.Word{{N: 8}, key24(8, 0, 0), key24(8, 0, 4)} {
			reachSets(9, impl.PmStore, func(a impl.Word, trap int) {
				if !impl.WordOk(a) {
					return
				}
				a.N, a.Key.Perms = 12, a.Key.Perms&perms
				if !a.Is {
					a.Key = impl.Key{}
				}
				c := coreOf(begunOf(impl.Ins{Op: impl.OpStore, A: 1, B: 2, N: -3}))
				c.S.Regs[1], c.S.Regs[2] = a, b
				if trap == impl.TpNone && b.Is && a.Key.Perms&16 == 0 {
					trap = impl.TpPerm
				}
				want := trapsOnly(trap, pcAt(9))
				if trap == impl.TpNone {
					want = impl.Effect{R: -1, Next: pcAt(10), At: 9, Put: b, Drop: -1}
				}
				doesAs(t, c, 0, doneBy(c, 0, want), true)
			})
		}
	}
}

// Each place that there is, of each op, somewhere in a core, by words of all kinds.
func TestDoOfEachPlace(t *testing.T) {
	states := rightStates()
	words := rightWords()
	for i, x := range rightPlaces() {
		if i%7 != 0 {
			continue
		}
		at := i / 7 % 6
		c := fullCore(at)
		for n := range c.Rob {
			c.Rob[n].Done, c.Rob[n].E.Val = true, words[(i+n*5)%len(words)]
		}
		c.S = states[i/7%len(states)]
		e := begunOf(x)
		if i%2 == 0 {
			e.Guess = words[i%len(words)]
		}
		c.Rob = append(c.Rob, e)
		c.Rob = append(c.Rob, fullCore(5-at).Rob...)
		if _, done := worked(t, c, at); !done {
			t.Fatal("not ready:", x)
		}
	}
}

// What an entry takes is what the last one ahead of it has, not what the state has, nor what is set behind it.
func TestDoTakesWhatIsAhead(t *testing.T) {
	for at := 1; at < 6; at++ {
		for r := range 8 {
			for _, x := range []impl.Ins{{Op: impl.OpMove, R: 1, A: r}, {Op: impl.OpPoint, R: r, A: r, B: (r + 1) % 8}, {Op: impl.OpAdd, R: 2, A: (r + 1) % 8, B: r}} {
				var rob []impl.Entry
				for i := range 6 {
					e := waiting(r, true)
					e.E.Val.N = 100 * (i + 1)
					rob = append(rob, e)
				}
				rob[at] = begunOf(x)
				c := coreOf(rob...)
				c.S.Regs = slices.Repeat([]impl.Word{{N: 7}}, 8)
				next, done := worked(t, c, at)
				had := rob[at-1].E.Val
				want := map[int]impl.Word{impl.OpMove: had, impl.OpPoint: {N: had.N + 7, Is: true, Key: had.Key}, impl.OpAdd: {N: had.N + 7}}[x.Op]
				if !done || next.Rob[at].E.Val != want {
					t.Fatal(x, at, next.Rob[at], want)
				}
			}
		}
	}
}

// Whatever else is under way: what is done again where it was is not ready any more, and done it stays.
func TestWhatIsDoneIsDoneOnce(t *testing.T) {
	pick := picker(141)
	done := 0
	for range 1500 {
		c := busyCore(pick, 6)
		for range 12 {
			i := pick(6)
			next, ok := worked(t, c, i)
			if ok {
				done++
				readyAs(t, next, i, false)
				doesAs(t, next, i, next, false)
			}
			c = next
		}
	}
	if done < 1500 {
		t.Error("little was done:", done)
	}
}

// In whatever order all that can be done is done: where guesses were right, the same comes of it.
func TestInWhateverOrderTheSameIsDone(t *testing.T) {
	pick := picker(142)
	full, waits := 0, 0
	for range 800 {
		list := busyList(pick, 8)
		c := impl.CoreNew(fewKeys(pick))
		s := c.S
		for len(c.Rob) < 6 && s.Trap == impl.TpNone { // what was learnt of each place is where it goes on
			next := impl.Step(list, s)
			if next.Trap == impl.TpNone {
				c.Guesses = impl.Learn(c.Guesses, s.Pc, next.Pc)
			}
			c, _ = impl.Pull(list, c)
			c.Rob[len(c.Rob)-1].Guess, c.Next = next.Pc, next.Pc
			s = next
		}
		var first impl.Core
		for turn := range 4 {
			done := copyOfCore(c)
			order := []int{0, 1, 2, 3, 4, 5}
			for i := range order {
				j := pick(6)
				order[i], order[j] = order[j], order[i]
			}
			for range 6 {
				for _, i := range order {
					done, _ = worked(t, done, i)
				}
			}
			if turn == 0 {
				first = done
			}
			if !sameCore(done, first) {
				t.Fatal("by another order:", first, done)
			}
		}
		if slices.ContainsFunc(first.Rob, func(e impl.Entry) bool { return !e.Done }) {
			waits++
		} else {
			full++
		}
	}
	if full < 300 || waits < 20 {
		t.Error("little was done:", full, waits)
	}
}

// workCase is what is asked for.
type workCase struct {
	c impl.Core
	i int
}

// workCases has all kinds: what is done, right or wrong, or traps, is not ready, and is no core.
func workCases() []workCase {
	var all []workCase
	for _, c := range someCores() {
		for i := -1; i <= min(len(c.Rob), 7); i++ {
			all = append(all, workCase{c, i})
		}
	}
	pick := picker(143)
	for row := range 300 {
		c := busyCore(pick, row%7)
		for i := range c.Rob {
			all = append(all, workCase{c, i})
		}
	}
	return all
}

// Promise 29 and new memory: a core is not written into, nor what is ahead of its lists or behind; what is written into an answer, or into
// what was given later on, is seen in no other answer.
func TestWhatIsDoneSharesNothing(t *testing.T) {
	for _, x := range workCases() {
		h := coreHallFor(x.c)
		first, done := impl.Do(h.c, x.i)
		want := copyOfCore(first)
		second, again := impl.Do(h.c, x.i)
		if !h.isAsItWas() || again != done || !sameCore(second, want) {
			t.Fatalf("Do(%v, %v): its argument was written into, or it is not the same again", x.c, x.i)
		}
		byWords, ok := doByWords(x.c, x.i)
		if ok != done || !sameCore(byWords, want) {
			t.Fatalf("Do(%v, %v) with more behind its lists = %v, %v, not %v, %v", x.c, x.i, want, done, byWords, ok)
		}
		scribbleCore(first)
		if !h.isAsItWas() || !sameCore(second, want) {
			t.Fatalf("Do(%v, %v): an answer shares memory", x.c, x.i)
		}
		third, _ := impl.Do(h.c, x.i)
		scribble(impl.Memory{Words: h.mem.words, Gone: h.mem.gone})
		scribbleCore(impl.Core{S: impl.State{Regs: h.regs}, Rob: h.rob, Guesses: h.guesses})
		if !sameCore(second, want) || !sameCore(third, want) {
			t.Fatalf("Do(%v, %v): an answer shares memory with its argument, or another one", x.c, x.i)
		}
		if !liesApart(second.S) || !slices.Equal(second.Rob, want.Rob) || !slices.Equal(second.Guesses, want.Guesses) {
			t.Fatalf("Do(%v, %v): its lists share memory", x.c, x.i)
		}
	}
}

// What is only asked of turns nothing.
func TestWhatAsksWhatIsReadyLeavesItAsItWas(t *testing.T) {
	for _, x := range workCases() {
		h := coreHallFor(x.c)
		for range 2 {
			if impl.Ready(h.c, x.i) != readyByWords(x.c, x.i) || !h.isAsItWas() {
				t.Fatal("Ready:", x)
			}
			for _, n := range []int{-1, 0, 3, 5, 23, 24} {
				want, trap := foundByWords(x.c, x.i, allOf, n)
				foundAs(t, h.c, x.i, allOf, n, want, trap)
			}
			if !h.isAsItWas() {
				t.Fatal("Found:", x)
			}
		}
	}
}

// Two that go on from one answer go on apart, also where there is room behind what was taken back.
func TestWhatIsDoneFromOneCoreGoesApart(t *testing.T) {
	pick := picker(144)
	for row := range 600 {
		c := busyCore(pick, 2+row%5)
		c.Rob = slices.Grow(c.Rob, 20)
		var answers, kept []impl.Core
		for i := range c.Rob {
			next, _ := impl.Do(c, i)
			answers, kept = append(answers, next), append(kept, copyOfCore(next))
		}
		for i, next := range answers {
			next.S.Trap, next.Stop = impl.TpNone, false
			longer, _ := impl.Pull(longList(48), next)
			impl.Do(longer, len(next.Rob))
			impl.Do(next, i)
		}
		for i := range answers {
			if !sameCore(answers[i], kept[i]) {
				t.Fatal("not apart:", answers[i], kept[i])
			}
		}
	}
}

// Nothing is kept: what was done ahead of a call does not turn its answer.
func TestWhatIsDoneKeepsNothing(t *testing.T) {
	cases := workCases()
	told := func(x workCase) string {
		next, done := impl.Do(x.c, x.i)
		w, trap := impl.Found(x.c, x.i, key24(0, 63, 0), 5)
		return fmt.Sprint(next, done, impl.Ready(x.c, x.i), w, trap)
	}
	var answers []string
	for _, x := range cases {
		answers = append(answers, told(x))
	}
	for i := len(cases) - 1; i >= 0; i-- {
		other := cases[i*17%len(cases)]
		impl.Do(other.c, other.i)
		impl.Ready(other.c, i%7)
		impl.Found(other.c, i%7, allOf, i%24)
		if got := told(cases[i]); got != answers[i] {
			t.Fatalf("%v: %v, then %v", cases[i], answers[i], got)
		}
	}
}

// However goroutines run, one at a time or many at once, and whoever else asks of the same core: the same is done.
func TestHoweverGoroutinesRunTheSameIsDone(t *testing.T) {
	cases := workCases()
	var answers []string
	for _, x := range cases {
		answers = append(answers, fmt.Sprint(impl.Do(x.c, x.i)))
	}
	defer runtime.GOMAXPROCS(runtime.GOMAXPROCS(0))
	for _, many := range []int{1, 2, 16} {
		runtime.GOMAXPROCS(many)
		var workers sync.WaitGroup
		wrong := make([]int, 6)
		for worker := range wrong {
			workers.Go(func() {
				for i, x := range cases {
					if fmt.Sprint(impl.Do(x.c, x.i)) != answers[i] {
						wrong[worker]++
					}
				}
			})
		}
		workers.Wait()
		if slices.Max(wrong) > 0 {
			t.Fatal("of", many, "at once other answers:", wrong)
		}
	}
}

// No goroutine is left behind: what a call has begun is over when it answers.
func TestNoGoroutineIsLeftBehind(t *testing.T) {
	before := runtime.NumGoroutine()
	most := 0
	for _, x := range workCases() {
		impl.Do(x.c, x.i)
		most = max(most, runtime.NumGoroutine()-before)
	}
	for wait := 0; runtime.NumGoroutine() > before && wait < 200; wait++ { // one that is over may still be counted for a while
		time.Sleep(time.Millisecond)
	}
	if left := runtime.NumGoroutine() - before; left > 0 || most > 20 {
		t.Error(left, "are left behind;", most, "at most")
	}
}

// Promise 29: whatever they are given, they answer.
func TestWorkAnswersAtAnyArguments(t *testing.T) {
	right := coreOf(storeOf(5, allOf, true), begunOf(impl.Ins{Op: impl.OpLoad, R: 1, A: 4, N: 5}), storeOf(0, allOf, false), begunOf(impl.Ins{}))
	for i, n := range edgeNumbers {
		for j, m := range edgeNumbers {
			c, e := farCore(i, j)
			readyAs(t, c, n, false)
			readyAs(t, c, n%9, false)
			doesAs(t, c, n, impl.Core{}, false)
			doesAs(t, c, n%9, impl.Core{}, false)
			for _, by := range []impl.Word{e.Pc, allOf, {N: n, Is: true, Key: impl.Root()}} {
				for _, core := range []impl.Core{c, right, turnedCore(right, j%4, func(at *impl.Entry) { *at = e })} {
					for _, at := range []int{n, n % 9} {
						want, trap := foundByWords(core, at, by, m)
						foundAs(t, core, at, by, m, want, trap)
						want, trap = foundByWords(core, at, by, j%25)
						foundAs(t, core, at, by, j%25, want, trap)
					}
				}
			}
			half := turnedCore(right, i%4, func(at *impl.Entry) { *at = e })
			want, done := doByWords(half, j%4)
			doesAs(t, half, j%4, want, done)
			want, done = doByWords(right, n)
			doesAs(t, right, n, want, done)
		}
	}
	long := coreOf(slices.Repeat([]impl.Entry{storeOf(5, allOf, true)}, 60000)...)
	long.Rob[17].E.At, long.Rob[17].E.Put = 6, impl.Plain(617)
	foundAs(t, long, math.MaxInt, allOf, 6, impl.Plain(617), impl.TpNone)
	foundAs(t, long, 17, allOf, 6, long.S.Mem.Words[6], impl.TpNone)
	readyAs(t, long, 17, false)
	doesAs(t, long, 17, impl.Core{}, false)
}
