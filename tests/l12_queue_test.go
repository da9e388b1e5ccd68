package tests

import (
	"fmt"
	"math"
	"slices"
	"testing"

	"loop.example/g00249/impl"
)

// wordsIn has the words of an entry, to be read and written.
func wordsIn(e *impl.Entry) []*impl.Word {
	return []*impl.Word{&e.Pc, &e.Guess, &e.E.Val, &e.E.Next, &e.E.Put}
}

// coreByWords counts what is wrong with a core.
func coreByWords(c impl.Core) bool {
	wrong := 0
	for _, e := range c.Rob {
		for _, w := range wordsIn(&e) {
			if !impl.WordOk(*w) {
				wrong++
			}
		}
		none := e.X.Op == 0 && e.X.R == 0 && e.X.A == 0 && e.X.B == 0 && e.X.N == 0
		if !none && !okByWords(e.X) || e.E.Trap < 0 || e.E.Trap > 5 || e.E.R < -1 || e.E.R > 7 || e.E.Drop > 4096 {
			wrong++
		}
	}
	for _, n := range c.Guesses {
		if n < -1 || n > 65535 {
			wrong++
		}
	}
	return wrong == 0 && stateByWords(c.S) && len(c.Rob) < 7 && impl.WordOk(c.Next) && len(c.Guesses) == 48
}

// sourceByWords goes over all entries from the first on, and keeps the last one that is as asked.
func sourceByWords(c impl.Core, i, r int) int {
	last := -1
	for number, e := range c.Rob {
		set := setsByWords(e.X)
		if e.Done {
			set = e.E.R
		}
		if number < i && set == r && r >= 0 {
			last = number
		}
	}
	return last
}

// valueByWords goes over the entries from the first on: what a register has is what the one before it left there.
func valueByWords(c impl.Core, i, r int) (impl.Word, bool) {
	if !coreByWords(c) || r < 0 || r > 7 {
		return impl.Word{}, false
	}
	val, there := c.S.Regs[r], true
	for number, e := range c.Rob {
		switch {
		case number >= i:
		case e.Done && e.E.R == r:
			val, there = e.E.Val, true
		case !e.Done && setsByWords(e.X) == r:
			val, there = impl.Word{}, false
		}
	}
	return val, there
}

func copyOfCore(c impl.Core) impl.Core {
	return impl.Core{S: copyOfState(c.S), Rob: slices.Clone(c.Rob), Next: c.Next, Stop: c.Stop, Guesses: slices.Clone(c.Guesses)}
}

func sameCore(a, b impl.Core) bool {
	return sameState(a.S, b.S) && slices.Equal(a.Rob, b.Rob) && a.Next == b.Next && a.Stop == b.Stop && slices.Equal(a.Guesses, b.Guesses)
}

func isZeroCore(c impl.Core) bool {
	return isZeroState(c.S) && len(c.Rob) == 0 && c.Next == impl.Word{} && !c.Stop && len(c.Guesses) == 0
}

// sourceAs holds a source against what is to come of it.
func sourceAs(t *testing.T, c impl.Core, i, r, want int) {
	t.Helper()
	if got := impl.Source(c, i, r); got != want {
		t.Fatalf("Source(%v, %v, %v) = %v, not %v", c, i, r, got, want)
	}
}

// valueAs holds a value against what is to come of it.
func valueAs(t *testing.T, c impl.Core, i, r int, want impl.Word, there bool) {
	t.Helper()
	if got, ok := impl.Value(c, i, r); got != want || ok != there {
		t.Fatalf("Value(%v, %v, %v) = %v, %v, not %v, %v", c, i, r, got, ok, want, there)
	}
}

// asksOf asks a core for each register, and what is none, for each of its entries, and what is none.
func asksOf(t *testing.T, c impl.Core) {
	t.Helper()
	if ok := impl.CoreOk(c); ok != coreByWords(c) {
		t.Fatalf("CoreOk(%v) = %v", c, ok)
	}
	for i := -2; i < len(c.Rob)+3; i++ {
		for r := -2; r < 11; r++ {
			sourceAs(t, c, i, r, sourceByWords(c, i, r))
			want, there := valueByWords(c, i, r)
			valueAs(t, c, i, r, want, there)
		}
	}
}

// pickEntry is of any kind that is right; what it sets is one of so many registers.
func pickEntry(pick func(of int) int, registers int) impl.Entry {
	e := impl.Entry{Pc: pickWord(pick), X: pickPlace(pick), Done: pick(2) == 0, Guess: pickWord(pick)}
	if impl.Sets(e.X) >= registers {
		e.X.R = pick(registers)
	}
	e.E = impl.Effect{R: -1, Val: pickWord(pick), Next: pickWord(pick), At: -1, Put: pickWord(pick), Drop: -1}
	switch pick(9) {
	case 0:
		e.E.Trap = 1 + pick(5)
	case 1:
		e.E = impl.Effect{}
	case 2:
		e.E.R, e.E.At, e.E.Drop, e.E.Trap = pick(registers), edgeNumbers[pick(len(edgeNumbers))], pick(4097), pick(6)
	case 3:
		e.X, e.E.Drop = impl.Ins{}, []int{math.MinInt, -4097, -2, 0, 4096}[pick(5)]
	case 4:
		e.E.R = pick(registers+1) - 1
	default:
		e.E.R = impl.Sets(e.X)
	}
	return e
}

// pickCore is right, with so many entries.
func pickCore(pick func(of int) int, entries int) impl.Core {
	guesses := rightGuesses()
	c := impl.Core{S: pickState(pick), Next: pickWord(pick), Stop: pick(2) == 0, Guesses: guesses[pick(len(guesses))]}
	registers := 1 + pick(8)
	for range entries {
		c.Rob = append(c.Rob, pickEntry(pick, registers))
	}
	return c
}

// fullCore is right, with so many entries, each of which sets a register of its own; every other one is done.
func fullCore(entries int) impl.Core {
	s := stateWith(allOf, key24(3, 9, 2))
	s.Mem.Gone[5] = true
	c := impl.Core{S: s, Next: pcAt(9), Guesses: slices.Repeat([]int{-1, 7, 65535}, 16)}
	for i := range entries {
		e := impl.Entry{Pc: pcAt(i), X: impl.Ins{Op: impl.OpSet, R: i % 8, N: i}, Done: i%2 == 1, Guess: pcAt(i + 1)}
		e.E = impl.Effect{R: i % 8, Val: keyOf(200+i, i, 24, 9), Next: pcAt(i + 1), At: -1, Drop: -1}
		c.Rob = append(c.Rob, e)
	}
	return c
}

// turnedCore is a core in which one entry is turned.
func turnedCore(c impl.Core, at int, turn func(e *impl.Entry)) impl.Core {
	next := copyOfCore(c)
	turn(&next.Rob[at])
	return next
}

// rightCores has cores with states, entries and guesses of all kinds.
func rightCores() []impl.Core {
	var all []impl.Core
	pick := picker(12)
	guesses, words := rightGuesses(), rightWords()
	for i, s := range rightStates() {
		c := pickCore(pick, i%7)
		all = append(all, c, impl.Core{S: s, Rob: c.Rob, Next: words[i*13%len(words)], Stop: i%3 == 0, Guesses: guesses[i%len(guesses)]})
	}
	for entries := range 7 {
		all = append(all, fullCore(entries))
	}
	return all
}

// wrongCore is a core that is wrong in the one thing that its name tells.
type wrongCore struct {
	name string
	c    impl.Core
}

// entryTurns has what makes an entry wrong in one thing.
func entryTurns() map[string]func(e *impl.Entry) {
	turns := map[string]func(e *impl.Entry){}
	wrong := []impl.Word{{N: -1}, {N: 65536}, {N: math.MinInt, Is: true, Key: runs}, {N: 3, Key: impl.Key{Top: 4}}, {N: 3, Is: true, Key: impl.Key{Base: 4, Top: 3}}}
	for i := range 5 {
		for _, w := range wrong {
			turns[fmt.Sprint("word ", i, " ", w)] = func(e *impl.Entry) { *wordsIn(e)[i] = w }
		}
	}
	for _, x := range []impl.Ins{{R: 1}, {A: 1}, {B: 1}, {N: 1}, {N: -1}, {Op: 16}, {Op: -1}, {Op: 1, R: 8}, {Op: 1, R: -1}, {Op: 1, N: 128}, {Op: 15, R: 1}, {Op: 11, R: 3}} {
		turns[fmt.Sprint("place ", x)] = func(e *impl.Entry) { e.X = x }
	}
	for _, trap := range noTraps {
		turns[fmt.Sprint("trap ", trap)] = func(e *impl.Entry) { e.E.Trap = trap }
	}
	for _, r := range noRegisters {
		if r != -1 {
			turns[fmt.Sprint("register ", r)] = func(e *impl.Entry) { e.E.R = r }
		}
	}
	for _, n := range []int{4097, 4098, 65536, 1 << 32, math.MaxInt} {
		turns[fmt.Sprint("drop ", n)] = func(e *impl.Entry) { e.E.Drop = n }
	}
	return turns
}

// wrongCores has cores that are wrong in one thing.
func wrongCores() []wrongCore {
	all := []wrongCore{{"zero", impl.Core{}}, {"zero but for Stop", impl.Core{Stop: true}}}
	add := func(name string, c impl.Core, turn func(c *impl.Core)) {
		c = copyOfCore(c)
		turn(&c)
		all = append(all, wrongCore{name, c})
	}
	for entries := range 7 {
		c := fullCore(entries)
		for i, s := range wrongStates() {
			if i%7 == entries || i < 8 {
				add(fmt.Sprint("state ", i), c, func(c *impl.Core) { c.S = s })
			}
		}
		for i, list := range wrongGuesses() {
			if i%7 == entries || i < 2 {
				add(fmt.Sprint("guesses ", i), c, func(c *impl.Core) { c.Guesses = list })
			}
		}
		for _, w := range []impl.Word{{N: -1}, {N: 65536}, {N: 3, Key: runs}, {N: 3, Is: true, Key: impl.Key{Base: 4, Top: 3}}} {
			add(fmt.Sprint("next ", w), c, func(c *impl.Core) { c.Next = w })
		}
		for name, turn := range entryTurns() {
			for _, at := range []int{0, entries / 2, entries - 1} {
				if entries > 0 && (entries%3 == 0 || at == 0) {
					all = append(all, wrongCore{fmt.Sprint(name, " at ", at, " of ", entries), turnedCore(c, at, turn)})
				}
			}
		}
	}
	for _, entries := range []int{7, 8, 12, 13, 100} {
		all = append(all, wrongCore{fmt.Sprint(entries, " entries"), fullCore(entries)})
	}
	return all
}

func TestMaxRob(t *testing.T) {
	if impl.MaxRob != 6 {
		t.Error(impl.MaxRob)
	}
}

// Promise 12, over picked cores: each register, for each number of an entry.
func TestWhatAnEntryTakesIsWhatTheLastOneAheadHas(t *testing.T) {
	pick := picker(120)
	several, held, waiting, passed := 0, 0, 0, 0
	for row := range 4000 {
		c := pickCore(pick, row%7)
		asksOf(t, c)
		for r := range 8 {
			var setters []int
			for number := range c.Rob {
				if sourceByWords(c, number+1, r) == number {
					setters = append(setters, number)
				}
			}
			if len(setters) == 0 {
				continue
			}
			if len(setters) > 1 {
				several++
			}
			last := setters[len(setters)-1]
			switch e := c.Rob[last]; {
			case !e.Done:
				waiting++
			case e.E.Trap != impl.TpNone || impl.Sets(e.X) != e.E.R:
				passed++
			default:
				held++
			}
		}
	}
	if several < 1000 || held < 1000 || waiting < 2000 || passed < 1000 {
		t.Error("little was asked:", several, held, waiting, passed)
	}
}

// Promise 12, one entry put behind the others: for what comes behind it, it is the last one ahead by the register that it sets, if it
// sets one; all else is as it was, and for what is ahead of it nothing turns.
func TestAnEntryTurnsWhatComesBehindItAlone(t *testing.T) {
	pick := picker(121)
	for row := range 1500 {
		c := pickCore(pick, row%6)
		count := len(c.Rob)
		e := pickEntry(pick, 8)
		longer := copyOfCore(c)
		longer.Rob = append(longer.Rob, e)
		set := setsByWords(e.X)
		if e.Done {
			set = e.E.R
		}
		for r := range 8 {
			was, wasThere := impl.Value(c, count, r)
			for i := range count + 1 {
				want, there := impl.Value(c, i, r)
				valueAs(t, longer, i, r, want, there)
				sourceAs(t, longer, i, r, impl.Source(c, i, r))
			}
			switch {
			case set != r:
				sourceAs(t, longer, count+1, r, impl.Source(c, count, r))
				valueAs(t, longer, count+1, r, was, wasThere)
			case e.Done:
				sourceAs(t, longer, count+1, r, count)
				valueAs(t, longer, count+1, r, e.E.Val, true)
			default:
				sourceAs(t, longer, count+1, r, count)
				valueAs(t, longer, count+1, r, impl.Word{}, false)
			}
		}
	}
}

// Promise 12, of what is done in order: each entry takes what registers have when it is its turn by Step. Where one of them is not done
// yet, what it sets is not there, up to where it is set again.
func TestWhatIsDoneInOrderIsWhatRegistersHave(t *testing.T) {
	pick := picker(122)
	done, trapped, missed := 0, 0, 0
	for range 2500 {
		list := pickList(pick, 12)
		c := impl.CoreNew(fewKeys(pick))
		rows := [][]impl.Word{c.S.Regs}
		s := c.S
		for len(c.Rob) < 6 && s.Trap == impl.TpNone {
			next := impl.Step(list, s)
			c.Rob = append(c.Rob, entryOf(list, s, next))
			rows = append(rows, next.Regs)
			s = next
		}
		for i, regs := range rows {
			for r, want := range regs {
				valueAs(t, c, i, r, want, true)
			}
		}
		done += len(c.Rob)
		if s.Trap != impl.TpNone {
			trapped++
		}
		at := pick(len(c.Rob))
		r := impl.Sets(c.Rob[at].X)
		if r < 0 {
			continue
		}
		waits := turnedCore(c, at, func(e *impl.Entry) { e.Done = false })
		again := false
		for i := at + 1; i <= len(c.Rob); i++ {
			if again {
				valueAs(t, waits, i, r, rows[i][r], true)
				continue
			}
			missed++
			valueAs(t, waits, i, r, impl.Word{}, false)
			sourceAs(t, waits, i, r, at)
			again = i < len(c.Rob) && c.Rob[i].E.R == r
		}
	}
	if done < 6000 || trapped < 500 || missed < 2000 {
		t.Error("little was done:", done, trapped, missed)
	}
}

// entryOf is the entry that does what a step does from s to next. Effects are told by what turned, not by Work.
func entryOf(list []impl.Ins, s, next impl.State) impl.Entry {
	x, _ := fetchByWords(list, s.Pc)
	e := impl.Entry{Pc: s.Pc, X: x, Done: true, Guess: next.Pc, E: trapsOnly(next.Trap, next.Pc)}
	if r := impl.Sets(x); next.Trap == impl.TpNone && r >= 0 {
		e.E.R, e.E.Val = r, next.Regs[r]
	}
	return e
}

// What follows: with nothing under way registers are the state's, for whatever number.
func TestWithNothingUnderWayRegistersAreTheStates(t *testing.T) {
	for i, s := range rightStates() {
		c := impl.CoreNew(s)
		c.Stop, c.Next = i%2 == 0, impl.Plain(i)
		for _, rob := range [][]impl.Entry{nil, {}, fullCore(6).Rob[:0], fullCore(6).Rob[6:]} {
			c.Rob = rob
			for _, number := range append([]int{0, 1, 5}, edgeNumbers...) {
				for r, w := range s.Regs {
					valueAs(t, c, number, r, w, true)
					sourceAs(t, c, number, r, -1)
				}
			}
		}
	}
}

func TestCoreOkOfStatesNextAndGuesses(t *testing.T) {
	for entries := range 7 {
		c := fullCore(entries)
		is := func(what any, want bool) {
			t.Helper()
			if impl.CoreOk(c) != want {
				t.Fatal(entries, "entries:", what, !want)
			}
		}
		is("as it is", true)
		for _, s := range rightStates() {
			c.S = s
			is(s, true)
		}
		for _, s := range wrongStates() {
			c.S = s
			is(s, false)
		}
		c = fullCore(entries)
		for _, w := range append(anyWords(), workWords()...) {
			c.Next = w
			is(w, impl.WordOk(w))
		}
		c = fullCore(entries)
		for _, list := range rightGuesses() {
			c.Guesses = list
			is(list, true)
		}
		for _, list := range wrongGuesses() {
			c.Guesses = list
			is(list, false)
		}
		c = fullCore(entries)
		for place := range 48 {
			for _, n := range []int{-2, -1, 0, 65535, 65536} {
				c.Guesses = slices.Repeat([]int{3}, 48)
				c.Guesses[place] = n
				is(c.Guesses, n >= -1 && n <= 65535)
			}
		}
		for _, stop := range []bool{true, false} {
			c = fullCore(entries)
			c.Stop = stop
			is("Stop", true)
		}
	}
}

func TestCoreOkOfAllLengths(t *testing.T) {
	for entries := range 80 {
		for _, c := range []impl.Core{fullCore(entries), {S: impl.StateNew(), Rob: make([]impl.Entry, entries), Guesses: impl.GuessNew()}} {
			if got := impl.CoreOk(c); got != (entries <= 6) {
				t.Fatal(entries, "entries:", got)
			}
			c.Rob = append(c.Rob, fullCore(6).Rob...)[:entries] // with more in the room behind
			if got := impl.CoreOk(c); got != (entries <= 6) {
				t.Fatal(entries, "entries with room behind:", got)
			}
		}
	}
	c := impl.CoreNew(impl.StateNew())
	for _, rob := range [][]impl.Entry{nil, {}} {
		if c.Rob = rob; !impl.CoreOk(c) {
			t.Error("nothing under way is refused")
		}
	}
	if impl.CoreOk(impl.Core{}) || impl.CoreOk(impl.Core{Stop: true}) {
		t.Error("the zero core is right")
	}
}

// coreOkAt holds CoreOk against what a turn of one entry is to make of it, wherever that entry is, done or not.
func coreOkAt(t *testing.T, what any, want bool, turn func(e *impl.Entry)) {
	t.Helper()
	for entries := 1; entries <= 6; entries++ {
		for at := range entries {
			if entries%2 == 0 && at != 0 && at != entries-1 && at != 2 {
				continue
			}
			for _, done := range []bool{true, false} {
				c := turnedCore(fullCore(entries), at, func(e *impl.Entry) {
					e.Done = done
					turn(e)
				})
				if impl.CoreOk(c) != want {
					t.Fatalf("CoreOk is %v with %v at %v of %v entries", !want, what, at, entries)
				}
			}
		}
	}
}

func TestCoreOkOfTheWordsOfAnEntry(t *testing.T) {
	for i, name := range []string{"Pc", "Guess", "Val", "Next", "Put"} {
		for _, w := range slices.Concat(anyWords(), rightWords()[:12]) {
			coreOkAt(t, fmt.Sprint(name, " ", w), impl.WordOk(w), func(e *impl.Entry) { *wordsIn(e)[i] = w })
		}
		for _, n := range []int{-1, 0, 65535, 65536} {
			for _, w := range sameAt(n) {
				coreOkAt(t, fmt.Sprint(name, " ", w), impl.WordOk(w), func(e *impl.Entry) { *wordsIn(e)[i] = w })
			}
		}
	}
}

func TestCoreOkOfThePlaceOfAnEntry(t *testing.T) {
	coreOkAt(t, "no place", true, func(e *impl.Entry) { e.X = impl.Ins{} })
	for i, x := range rightPlaces() {
		if i%499 == 0 {
			coreOkAt(t, x, true, func(e *impl.Entry) { e.X = x })
		}
	}
	for op := 1; op <= 15; op++ {
		coreOkAt(t, op, true, func(e *impl.Entry) { e.X = aPlace(op) })
	}
	for _, field := range []string{"Op", "R", "A", "B", "N"} {
		for _, v := range []int{math.MinInt, -128, -1, 1, 2, 7, 16, math.MaxInt} {
			x := with(impl.Ins{}, field, v)
			coreOkAt(t, x, okByWords(x), func(e *impl.Entry) { e.X = x })
		}
	}
	for i, x := range wrongPlaces() {
		if i%5 != 0 || x == (impl.Ins{}) {
			continue
		}
		coreOkAt(t, x, false, func(e *impl.Entry) { e.X = x })
	}
}

func TestCoreOkOfTheEffectOfAnEntry(t *testing.T) {
	for n := -10; n <= 20; n++ {
		coreOkAt(t, fmt.Sprint("Trap ", n), n >= 0 && n <= 5, func(e *impl.Entry) { e.E.Trap = n })
		coreOkAt(t, fmt.Sprint("R ", n), n >= -1 && n <= 7, func(e *impl.Entry) { e.E.R = n })
		coreOkAt(t, fmt.Sprint("Drop ", n), true, func(e *impl.Entry) { e.E.Drop = n })
	}
	for _, n := range noTraps {
		coreOkAt(t, fmt.Sprint("Trap ", n), false, func(e *impl.Entry) { e.E.Trap = n })
	}
	for _, n := range noRegisters {
		coreOkAt(t, fmt.Sprint("R ", n), n == -1, func(e *impl.Entry) { e.E.R = n })
	}
	for _, n := range slices.Concat(edgeNumbers, noCells, noRegisters) {
		coreOkAt(t, fmt.Sprint("Drop ", n), n <= 4096, func(e *impl.Entry) { e.E.Drop = n })
		coreOkAt(t, fmt.Sprint("At ", n), true, func(e *impl.Entry) { e.E.At = n })
	}
	for _, trap := range []int{impl.TpNone, impl.TpKey, impl.TpSeal, impl.TpPerm, impl.TpBound, impl.TpStop} {
		coreOkAt(t, fmt.Sprint("Trap ", trap), true, func(e *impl.Entry) { e.E.Trap = trap })
	}
	coreOkAt(t, "no effect", true, func(e *impl.Entry) { e.E = impl.Effect{} })
	coreOkAt(t, "all of it at its edge", true, func(e *impl.Entry) {
		e.E = impl.Effect{Trap: 5, R: 7, Val: allAt(65535), Next: allAt(0), At: math.MaxInt, Put: key24(65535, 63, 7), Drop: 4096}
	})
	coreOkAt(t, "all of it at its other edge", true, func(e *impl.Entry) { e.E = impl.Effect{R: -1, At: math.MinInt, Drop: math.MinInt} })
}

func TestCoreOkOfAllKinds(t *testing.T) {
	for _, c := range rightCores() {
		if !impl.CoreOk(c) || !coreByWords(c) {
			t.Fatal("refused", c)
		}
	}
	for _, x := range wrongCores() {
		if impl.CoreOk(x.c) || coreByWords(x.c) {
			t.Fatal("accepted:", x.name)
		}
	}
}

func TestCoreNew(t *testing.T) {
	for _, s := range append(rightStates(), impl.StateNew(), halfGone(), noKeys()) {
		for trap := range 6 {
			s.Trap = trap
			c := impl.CoreNew(s)
			want := impl.Core{S: s, Next: s.Pc, Guesses: slices.Repeat([]int{-1}, 48)}
			if !sameCore(c, want) || !impl.CoreOk(c) {
				t.Fatalf("CoreNew(%v) = %v", s, c)
			}
		}
	}
	for _, s := range wrongStates() {
		if c := impl.CoreNew(s); !isZeroCore(c) {
			t.Fatalf("CoreNew(%v) = %v", s, c)
		}
	}
	c := impl.CoreNew(impl.StateNew())
	if c.Next != keyOf(0, 0, 48, 4) || c.Stop || len(c.Rob) != 0 || c.S.Regs[0] != key24(0, 59, 0) {
		t.Error(c)
	}
}

// mixedCore has entries of all kinds, most of which say one thing of register 1 and do another one.
func mixedCore() impl.Core {
	c := fullCore(6)
	set := func(r int) impl.Ins { return impl.Ins{Op: impl.OpSet, R: r} }
	does := func(r int) impl.Effect { return impl.Effect{R: r, Val: impl.Plain(300 + r), At: -1, Drop: -1} }
	c.Rob = []impl.Entry{
		{X: set(1), Done: true, E: does(1)},
		{X: impl.Ins{Op: impl.OpJump, R: 2, A: 1}, E: does(1)},
		{X: impl.Ins{Op: impl.OpLoad, R: 1, A: 3}, Done: true, E: trapsOnly(impl.TpKey, pcAt(2))},
		{X: impl.Ins{Op: impl.OpStore, A: 1, B: 1}, E: does(1)},
		{Done: true, E: does(4)},
		{E: does(1)},
	}
	c.Rob[0].E.Val, c.Rob[4].E.Val = key24(7, 63, 3), impl.Word{}
	return c
}

func TestSourceAndValueEdges(t *testing.T) {
	c := mixedCore()
	val, none := c.Rob[0].E.Val, impl.Word{}
	least, most := math.MinInt, math.MaxInt
	for _, x := range []struct {
		name       string
		i, r, from int
		want       impl.Word
		there      bool
	}{
		{"itself does not count", 0, 1, -1, c.S.Regs[1], true},
		{"the first", 1, 1, 0, val, true},
		{"not by what it would do when it is done", 2, 1, 0, val, true},
		{"not by what it would have set, but for its trap", 3, 1, 0, val, true},
		{"not by an op that sets none", 4, 1, 0, val, true},
		{"not by what it did elsewhere", 5, 1, 0, val, true},
		{"not by no place", 6, 1, 0, val, true},
		{"one beyond", 7, 1, 0, val, true},
		{"far beyond", most, 1, 0, val, true},
		{"below 0", -1, 1, -1, c.S.Regs[1], true},
		{"far below 0", least, 1, -1, c.S.Regs[1], true},
		{"a jump, itself", 1, 2, -1, c.S.Regs[2], true},
		{"a jump that is not done", 2, 2, 1, none, false},
		{"a jump, from the last on", 5, 2, 1, none, false},
		{"a jump, from far beyond", most - 1, 2, 1, none, false},
		{"of no place, itself", 4, 4, -1, c.S.Regs[4], true},
		{"of no place, and zero", 5, 4, 4, none, true},
		{"of no place, from one beyond", 7, 4, 4, none, true},
		{"nobody sets it", 6, 0, -1, c.S.Regs[0], true},
		{"nobody sets it, from far beyond", most, 7, -1, c.S.Regs[7], true},
		{"nobody sets it, from the first on", 0, 7, -1, c.S.Regs[7], true},
		{"-1, which one does", 3, -1, -1, none, false},
		{"-1, which several do", 6, -1, -1, none, false},
		{"-1, at the first", 0, -1, -1, none, false},
		{"-2", 6, -2, -1, none, false},
		{"the least", 6, least, -1, none, false},
		{"8", 6, 8, -1, none, false},
		{"8, at the first", 0, 8, -1, none, false},
		{"9", 6, 9, -1, none, false},
		{"the greatest", most, most, -1, none, false},
		{"the least of both", least, least, -1, none, false},
	} {
		if got := impl.Source(c, x.i, x.r); got != x.from {
			t.Errorf("%s: Source = %v, not %v", x.name, got, x.from)
		}
		if got, there := impl.Value(c, x.i, x.r); got != x.want || there != x.there {
			t.Errorf("%s: Value = %v, %v, not %v, %v", x.name, got, there, x.want, x.there)
		}
	}
}

// Where all set one register, each takes what the one just ahead of it has, be it there or not.
func TestTheLastOneAheadCounts(t *testing.T) {
	for r := range 8 {
		for entries := range 7 {
			for done := range 1 << entries {
				c := fullCore(entries)
				for i := range c.Rob {
					c.Rob[i].X.R, c.Rob[i].E.R, c.Rob[i].Done = r, r, done>>i&1 == 1
				}
				sourceAs(t, c, 0, r, -1)
				valueAs(t, c, 0, r, c.S.Regs[r], true)
				for i := 1; i <= entries; i++ {
					sourceAs(t, c, i, r, i-1)
					want := impl.Word{}
					if done>>(i-1)&1 == 1 {
						want = keyOf(200+i-1, i-1, 24, 9)
					}
					valueAs(t, c, i, r, want, want.Is)
				}
				other := (r + 1 + entries) % 8
				if other != r {
					sourceAs(t, c, entries, other, -1)
					valueAs(t, c, entries, other, c.S.Regs[other], true)
				}
			}
		}
	}
}

// One entry alone, of each op and of what is none, with each R: not done by X, done by E.
func TestSourceOfOneEntry(t *testing.T) {
	places := append(wrongPlaces(), impl.Ins{}, impl.Ins{R: 3})
	for i, x := range rightPlaces() {
		if i%211 == 0 {
			places = append(places, x)
		}
	}
	for _, x := range places {
		set := setsByWords(x)
		for r := -2; r < 11; r++ {
			c := turnedCore(fullCore(1), 0, func(e *impl.Entry) { e.X, e.E.R, e.Done = x, r, false })
			for asked := -3; asked < 12; asked++ {
				want := -1
				if asked == set && asked >= 0 {
					want = 0
				}
				sourceAs(t, c, 1, asked, want)
			}
			c.Rob[0].Done = true
			for asked := -3; asked < 12; asked++ {
				want := -1
				if asked == r && asked >= 0 {
					want = 0
				}
				sourceAs(t, c, 1, asked, want)
				sourceAs(t, c, 0, asked, -1)
			}
		}
		if set > 10 {
			sourceAs(t, turnedCore(fullCore(1), 0, func(e *impl.Entry) { e.X, e.Done = x, false }), 1, set, 0)
		}
	}
}

// What trapped sets nothing, whatever its X; what has a Trap but tells a register is taken by that.
func TestSourceOfWhatTrapped(t *testing.T) {
	for op := 1; op <= 15; op++ {
		x := aPlace(op)
		for trap := 1; trap <= 5; trap++ {
			for entries := 1; entries <= 6; entries++ {
				c := turnedCore(fullCore(entries), entries-1, func(e *impl.Entry) { e.X, e.Done, e.E = x, true, trapsOnly(trap, e.Pc) })
				asksOf(t, c)
				if x.R >= entries-1 {
					sourceAs(t, c, entries, x.R, -1)
					valueAs(t, c, entries, x.R, c.S.Regs[x.R], true)
				}
				c.Rob[entries-1].E.R, c.Rob[entries-1].E.Val = 6, impl.Plain(trap)
				sourceAs(t, c, entries, 6, entries-1)
				valueAs(t, c, entries, 6, impl.Plain(trap), true)
			}
		}
	}
}

// No register has a value, whatever else is right.
func TestValueOfWhatIsNoRegister(t *testing.T) {
	for _, c := range append(rightCores(), mixedCore()) {
		for _, r := range noRegisters {
			for _, i := range []int{math.MinInt, -1, 0, 1, len(c.Rob) - 1, len(c.Rob), math.MaxInt} {
				valueAs(t, c, i, r, impl.Word{}, false)
				sourceAs(t, c, i, r, -1)
			}
		}
	}
}

// Of a core that is not right there is no value, for each reason; its sources are told as its entries are.
func TestValueOfWrongCores(t *testing.T) {
	for _, x := range wrongCores() {
		for i := -1; i < min(len(x.c.Rob), 20)+2; i++ {
			for r := -1; r < 9; r++ {
				if w, ok := impl.Value(x.c, i, r); ok || w != (impl.Word{}) {
					t.Fatalf("%s: Value(.., %v, %v) = %v, %v", x.name, i, r, w, ok)
				}
				if got, want := impl.Source(x.c, i, r), sourceByWords(x.c, i, r); got != want {
					t.Fatalf("%s: Source(.., %v, %v) = %v, not %v", x.name, i, r, got, want)
				}
			}
		}
		for _, n := range edgeNumbers {
			if w, ok := impl.Value(x.c, n, n); ok || w != (impl.Word{}) {
				t.Fatalf("%s: Value(.., %v, %v) = %v, %v", x.name, n, n, w, ok)
			}
		}
	}
}

// Entries as they are, and as many as there are, be it more than MaxRob.
func TestSourceOfManyEntries(t *testing.T) {
	for _, entries := range []int{7, 8, 9, 13, 40, 500} {
		c := fullCore(entries)
		for _, i := range []int{-1, 0, 1, 2, 6, 7, 8, 9, entries - 2, entries - 1, entries, entries + 1, entries + 9, math.MaxInt, math.MinInt} {
			for r := range 10 {
				sourceAs(t, c, i, r, sourceByWords(c, i, r))
			}
		}
		sourceAs(t, c, entries, (entries-1)%8, entries-1)
		sourceAs(t, c, entries-1, (entries-1)%8, max(entries-9, -1))
	}
}

// coreHall is a core whose lists are cut from longer ones.
type coreHall struct {
	hall
	rob, keptRob     []impl.Entry
	guesses, keptOfG []int
	c                impl.Core
}

func coreHallFor(c impl.Core) coreHall {
	h := coreHall{hall: hallFor(nil, c.S)}
	fill := []impl.Entry{{Pc: impl.Plain(66), X: impl.Ins{Op: impl.OpSet, R: 1}}, {Done: true, E: impl.Effect{R: 2, Val: allOf}}, {Pc: impl.Word{N: -6}, Done: true, E: impl.Effect{R: 99}}}
	h.rob = slices.Concat(fill, c.Rob, fill, fill, fill)
	h.guesses = slices.Concat([]int{-7, 7, 70}, c.Guesses, []int{-9, 9, 90, -1})
	h.keptRob, h.keptOfG = slices.Clone(h.rob), slices.Clone(h.guesses)
	h.c = impl.Core{S: h.s, Rob: h.rob[3 : 3+len(c.Rob)], Next: c.Next, Stop: c.Stop, Guesses: h.guesses[3 : 3+len(c.Guesses)]}
	return h
}

func (h coreHall) isAsItWas() bool {
	return h.hall.isAsItWas() && slices.Equal(h.rob, h.keptRob) && slices.Equal(h.guesses, h.keptOfG)
}

// scribbleCore writes over all lists of a core, and over the room behind them.
func scribbleCore(c impl.Core) {
	scribbleState(c.S)
	scribbleNumbers(c.Guesses)
	rob := c.Rob[:cap(c.Rob)]
	for i := range rob {
		rob[i] = impl.Entry{Pc: impl.Word{N: -i}, X: impl.Ins{Op: 99, R: i}, Done: true, E: impl.Effect{R: i % 8, Drop: 9999}, Guess: impl.Word{N: -7}}
	}
}

// someCores has right ones, and some of the wrong ones.
func someCores() []impl.Core {
	all := append(rightCores(), mixedCore(), fullCore(7), fullCore(20))
	for i, x := range wrongCores() {
		if i%11 == 0 {
			all = append(all, x.c)
		}
	}
	return all
}

// Promise 29: what is asked of a core turns nothing in it, nor ahead of its lists, nor behind them, and is answered the same again.
func TestWhatAsksOfCoresLeavesThemAsTheyWere(t *testing.T) {
	for _, c := range someCores() {
		h := coreHallFor(c)
		for range 2 {
			if got, want := impl.CoreOk(h.c), coreByWords(c); got != want || !h.isAsItWas() {
				t.Fatal(c, got, "or turned")
			}
			for _, i := range []int{math.MinInt, -1, 0, 1, 2, len(c.Rob), len(c.Rob) + 1, len(c.Rob) + 8, math.MaxInt} {
				for r := -1; r < 9; r++ {
					sourceAs(t, h.c, i, r, sourceByWords(c, i, r))
					want, there := valueByWords(c, i, r)
					valueAs(t, h.c, i, r, want, there)
				}
				if !h.isAsItWas() {
					t.Fatal("turned by what was asked:", c)
				}
			}
		}
	}
}

// New memory: what is written into a new core, or into the state later on, is seen in no other answer.
func TestNewCoresShareNothing(t *testing.T) {
	for _, s := range append(rightStates(), wrongStates()...) {
		h := hallFor(nil, s)
		first := impl.CoreNew(h.s)
		want := copyOfCore(first)
		second := impl.CoreNew(h.s)
		if !h.isAsItWas() || !sameCore(second, want) {
			t.Fatalf("CoreNew(%v): its argument was written into, or it is not the same again", s)
		}
		scribbleCore(first)
		if !h.isAsItWas() || !sameCore(second, want) {
			t.Fatalf("CoreNew(%v): an answer shares memory", s)
		}
		third := impl.CoreNew(h.s)
		scribble(impl.Memory{Words: h.mem.words, Gone: h.mem.gone})
		scribbleState(impl.State{Regs: h.regs})
		if !sameCore(second, want) || !sameCore(third, want) {
			t.Fatalf("CoreNew(%v): an answer shares memory with its argument, or another one", s)
		}
		fresh := impl.GuessNew()
		scribbleNumbers(third.Guesses)
		if !slices.Equal(fresh, impl.GuessNew()) || !liesApart(second.S) {
			t.Fatalf("CoreNew(%v): its lists share memory", s)
		}
	}
}

// Nothing is kept: what was asked ahead of a call does not turn its answer.
func TestCoresKeepNothing(t *testing.T) {
	cases := someCores()
	told := func(i int) string {
		c := cases[i]
		val, there := impl.Value(c, len(c.Rob)-i%3, i%9)
		return fmt.Sprint(impl.CoreOk(c), impl.CoreNew(c.S), impl.Source(c, len(c.Rob)-i%4, i%10-1), val, there)
	}
	var answers []string
	for i := range cases {
		answers = append(answers, told(i))
	}
	for i := len(cases) - 1; i >= 0; i-- {
		other := cases[i*17%len(cases)]
		impl.Source(other, i%7, i%8)
		impl.Value(other, i%7, i%8)
		impl.CoreOk(other)
		if got := told(i); got != answers[i] {
			t.Fatalf("%v: %v, then %v", cases[i], answers[i], got)
		}
	}
}

// farCore is a core, and an entry, that have the numbers of these two places, from far out, everywhere.
func farCore(i, j int) (impl.Core, impl.Entry) {
	n, m := edgeNumbers[i], edgeNumbers[j]
	w := impl.Word{N: n, Is: (i+j)%3 > 0, Key: impl.Key{Base: m, Top: n, Perms: m, Seal: n}}
	x := impl.Ins{Op: []int{n, 1 + (i+j)%15}[i%2], R: m, A: n, B: m, N: n}
	e := impl.Entry{Pc: w, X: x, Done: (i+j)%2 == 0, E: impl.Effect{Trap: n, R: m, Val: w, Next: w, At: n, Put: w, Drop: m}, Guess: w}
	s := impl.State{Regs: slices.Repeat([]impl.Word{w}, (i+j)%10), Pc: w, Mem: impl.Memory{Words: slices.Repeat([]impl.Word{w}, (i+j)%30), Gone: make([]bool, j)}, Trap: m}
	return impl.Core{S: s, Rob: slices.Repeat([]impl.Entry{e}, (i*j)%9), Next: w, Stop: i%2 == 0, Guesses: slices.Repeat([]int{m, n}, (i*j)%40)}, e
}

// Promise 29: whatever they are given, they answer.
func TestCoresAnswerAtAnyArguments(t *testing.T) {
	right := mixedCore()
	for i, n := range edgeNumbers {
		for j, m := range edgeNumbers {
			c, e := farCore(i, j)
			if impl.CoreOk(c) || !isZeroCore(impl.CoreNew(c.S)) {
				t.Fatal(c)
			}
			valueAs(t, c, n, m, impl.Word{}, false)
			valueAs(t, c, m, j%8, impl.Word{}, false)
			sourceAs(t, c, n, m, sourceByWords(c, n, m))
			sourceAs(t, c, n%9, m, sourceByWords(c, n%9, m))
			want, there := valueByWords(right, n, m)
			valueAs(t, right, n, m, want, there)
			sourceAs(t, right, n, m, sourceByWords(right, n, m))
			half := turnedCore(right, i%6, func(at *impl.Entry) { *at = e })
			asked := impl.CoreOk(half)
			if asked != coreByWords(half) {
				t.Fatal(half, asked)
			}
		}
	}
	long := fullCore(60000)
	long.Rob[17].E.R = 700
	sourceAs(t, long, math.MaxInt, 700, 17)
	sourceAs(t, long, 17, 700, -1)
	sourceAs(t, long, 60000, 701, -1)
	valueAs(t, long, 60000, 0, impl.Word{}, false)
}
