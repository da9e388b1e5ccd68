package tests

import (
	"math"
	"slices"
	"testing"

	"loop.example/g00249/impl"
)

// runs is the key of a Pc that opens what programs have, and a little more.
var runs = impl.Key{Top: 60, Perms: impl.PmRun}

func pcAt(n int) impl.Word {
	return impl.Word{N: n, Is: true, Key: runs}
}

func copyOfState(s impl.State) impl.State {
	return impl.State{Regs: slices.Clone(s.Regs), Pc: s.Pc, Mem: copyOfMemory(s.Mem), Trap: s.Trap}
}

func sameState(a, b impl.State) bool {
	return slices.Equal(a.Regs, b.Regs) && a.Pc == b.Pc && sameMemory(a.Mem, b.Mem) && a.Trap == b.Trap
}

func isZeroState(s impl.State) bool {
	return len(s.Regs) == 0 && s.Pc == impl.Word{} && isZeroMemory(s.Mem) && s.Trap == 0
}

// stateByWords tells by chapters 3 and 8 whether a state is right.
func stateByWords(s impl.State) bool {
	right := 0
	for _, w := range s.Regs {
		if impl.WordOk(w) {
			right++
		}
	}
	return len(s.Regs) == 8 && right == 8 && impl.WordOk(s.Pc) && isRightMemory(s.Mem) && s.Trap >= 0 && s.Trap <= 5
}

func tryByWords(w impl.Word, n, perm int) int {
	if !w.Is || !impl.WordOk(w) {
		return impl.TpKey
	}
	return trapByWords(w.Key, n, perm)
}

func pointByWords(w impl.Word, n int) impl.Word {
	plain := bareOf(impl.Word{N: n})
	if !w.Is || !impl.WordOk(w) || w.Key.Seal > 0 {
		return plain
	}
	return impl.Word{N: plain.N, Is: true, Key: w.Key}
}

func fetchByWords(list []impl.Ins, pc impl.Word) (impl.Ins, int) {
	if trap := tryByWords(pc, pc.N, 4); trap != impl.TpNone {
		return impl.Ins{}, trap
	}
	for at, x := range list {
		if at == pc.N && okByWords(x) {
			return x, impl.TpNone
		}
	}
	return impl.Ins{}, impl.TpBound
}

// madeByWords is what register R is set to, by the ops that only set one. What is made of keys is chapter 4's.
func madeByWords(x impl.Ins, a, b, got impl.Word) (impl.Word, bool) {
	switch x.Op {
	case impl.OpSet:
		return bareOf(impl.Word{N: x.N}), true
	case impl.OpAdd:
		return bareOf(impl.Word{N: bareOf(a).N + bareOf(b).N}), true
	case impl.OpMove:
		return a, true
	case impl.OpWeak:
		return impl.Weaken(a, b.N), true
	case impl.OpBound:
		return impl.Narrow(a, b.N), true
	case impl.OpPoint:
		return pointByWords(a, bareOf(a).N+bareOf(b).N+bareOf(impl.Word{N: x.N}).N), true
	case impl.OpSeal:
		return impl.SealBy(a, b), true
	case impl.OpOpen:
		return impl.OpenBy(a, b), true
	case impl.OpIs:
		if a.Is {
			return impl.Word{N: 1}, true
		}
		return impl.Word{}, true
	case impl.OpLoad:
		return got, true
	}
	return impl.Word{}, false
}

// effectByWords goes through what the chapter tells, trap first.
func effectByWords(x impl.Ins, pc, a, b, got impl.Word) impl.Effect {
	trap := impl.TpNone
	switch x.Op {
	case impl.OpJump:
		trap = tryByWords(a, a.N, 4)
	case impl.OpGone:
		trap = tryByWords(a, a.N, 32)
	case impl.OpHalt:
		trap = impl.TpStop
	}
	if trap != impl.TpNone {
		return trapsOnly(trap, pc)
	}
	e := impl.Effect{R: -1, At: -1, Drop: -1, Next: pointByWords(pc, bareOf(pc).N+1)}
	if val, ok := madeByWords(x, a, b, got); ok {
		e.R, e.Val = x.R, val
	}
	switch {
	case x.Op == impl.OpStore:
		e.At, e.Put = a.N+x.N, b
	case x.Op == impl.OpJump:
		e.R, e.Val, e.Next = x.R, e.Next, a
	case x.Op == impl.OpZero && a.N == 0:
		e.Next = pointByWords(pc, bareOf(pc).N+bareOf(impl.Word{N: x.N}).N)
	case x.Op == impl.OpGone:
		e.Drop = a.Key.Base
	}
	return e
}

func trapsOnly(trap int, pc impl.Word) impl.Effect {
	return impl.Effect{Trap: trap, R: -1, At: -1, Drop: -1, Next: pc}
}

func stepByWords(list []impl.Ins, s impl.State) impl.State {
	if !stateByWords(s) {
		return impl.State{}
	}
	next := copyOfState(s)
	if s.Trap != impl.TpNone {
		return next
	}
	x, trap := fetchByWords(list, s.Pc)
	if trap != impl.TpNone {
		next.Trap = trap
		return next
	}
	a, b, got, mem := s.Regs[x.A], s.Regs[x.B], impl.Word{}, next.Mem
	if x.Op == impl.OpLoad {
		got, trap = readByWords(s.Mem, a, a.N+x.N)
	}
	if x.Op == impl.OpStore {
		mem, trap = writeByWords(s.Mem, a, a.N+x.N, b)
	}
	e := effectByWords(x, s.Pc, a, b, got)
	if trap == impl.TpNone {
		trap = e.Trap
	}
	if trap != impl.TpNone {
		next.Trap = trap
		return next
	}
	if e.R >= 0 {
		next.Regs[e.R] = e.Val
	}
	next.Pc, next.Mem = e.Next, mem
	if e.Drop >= 0 && e.Drop < 24 {
		next.Mem.Gone[e.Drop] = true
	}
	return next
}

// reachSets gives words with N n that trap by each set of: no key, sealed, no such perm, out of its bounds; and the first of them.
func reachSets(n, perm int, each func(w impl.Word, want int)) {
	for set := range 16 {
		keys, want := []impl.Key{{Base: n, Top: n + 1, Perms: 63}, {Top: n + 4, Perms: perm}}, impl.TpNone
		if set&8 != 0 {
			keys, want = []impl.Key{{Top: n, Perms: 63}, {Base: n + 1, Top: n + 4, Perms: perm}, {Base: n, Top: n, Perms: 63}}, impl.TpBound
		}
		for _, k := range keys {
			if set&4 != 0 {
				k.Perms, want = 63-perm, impl.TpPerm
			}
			if set&2 != 0 {
				k.Seal, want = 3, impl.TpSeal
			}
			if set&1 == 0 {
				each(impl.Word{N: n, Is: true, Key: k}, want)
				continue
			}
			wide, strong, marked := k, k, k
			wide.Top, strong.Perms, marked.Seal = 4097, k.Perms+64, k.Seal+8
			for _, w := range []impl.Word{
				{N: n}, {N: n, Key: k}, {N: n - 65536, Is: true, Key: k}, {N: n + 65536, Is: true, Key: k},
				{N: n, Is: true, Key: wide}, {N: n, Is: true, Key: strong}, {N: n, Is: true, Key: marked},
			} {
				each(w, impl.TpKey)
			}
		}
	}
}

// rightWords has words that are right: numbers, and keys of all kinds.
func rightWords() []impl.Word {
	words := []impl.Word{{}, {N: 1}, {N: 3}, {N: 7}, {N: 8}, {N: 23}, {N: 24}, {N: 63}, {N: 64}, {N: 4096}, {N: 65535}}
	return append(words, keysAt()...)
}

// rightStates has states of all rightMemories and traps, with registers and Pcs of all kinds.
func rightStates() []impl.State {
	var all []impl.State
	words := rightWords()
	for i, m := range rightMemories() {
		s := impl.State{Pc: words[i*31%len(words)], Mem: m, Trap: i % 6}
		for r := range 8 {
			s.Regs = append(s.Regs, words[(i*97+r*53)%len(words)])
		}
		all = append(all, s, impl.State{Regs: s.Regs, Pc: pcAt(i % 15), Mem: m})
	}
	return append(all, impl.StateNew())
}

// wrongStates has states that are wrong in one thing.
func wrongStates() []impl.State {
	s := rightStates()[1]
	all := []impl.State{{}}
	long := slices.Concat(s.Regs, s.Regs)
	for _, length := range []int{0, 1, 7, 9, 16} {
		all = append(all, impl.State{Regs: long[:length], Pc: s.Pc, Mem: s.Mem})
	}
	all = append(all, impl.State{Pc: s.Pc, Mem: s.Mem}, impl.State{Regs: s.Regs, Pc: s.Pc})
	for i, w := range []impl.Word{{N: -1}, {N: 65536}, {N: 3, Key: impl.Key{Top: 4}}, {Is: true, Key: impl.Key{Base: 4, Top: 3}}, {N: math.MinInt, Is: true, Key: runs}} {
		for _, r := range []int{0, i + 1, 7} {
			regs := slices.Clone(s.Regs)
			regs[r] = w
			all = append(all, impl.State{Regs: regs, Pc: s.Pc, Mem: s.Mem})
		}
		all = append(all, impl.State{Regs: s.Regs, Pc: w, Mem: s.Mem})
	}
	for i, m := range wrongMemories() {
		if i%9 == 0 {
			all = append(all, impl.State{Regs: s.Regs, Pc: s.Pc, Mem: m})
		}
	}
	for _, trap := range noTraps {
		all = append(all, impl.State{Regs: s.Regs, Pc: s.Pc, Mem: s.Mem, Trap: trap})
	}
	return all
}

var noTraps = []int{math.MinInt, math.MinInt + 5, -65536, -5, -1, 6, 7, 64, 256, 65536, 1<<32 + 1, math.MaxInt - 1, math.MaxInt}

func TestStateOkOfAllLengths(t *testing.T) {
	for _, s := range rightStates() {
		if !impl.StateOk(s) {
			t.Fatal("refused", s)
		}
		long := slices.Concat(s.Regs, s.Regs, s.Regs)
		for length := range 20 {
			regs := long[:length]
			if got := impl.StateOk(impl.State{Regs: regs, Pc: s.Pc, Mem: s.Mem, Trap: s.Trap}); got != (length == 8) {
				t.Fatal(length, "registers:", got)
			}
		}
	}
	s := impl.StateNew()
	if !impl.StateOk(s) || impl.StateOk(impl.State{}) || impl.StateOk(impl.State{Pc: s.Pc, Mem: s.Mem}) || impl.StateOk(impl.State{Regs: []impl.Word{}, Pc: s.Pc, Mem: s.Mem}) {
		t.Error("new, zero, no registers")
	}
}

func TestStateOkOfOneRegister(t *testing.T) {
	words := append(anyWords(), rightWords()...)
	for i, s := range rightStates() {
		if i%12 != 0 {
			continue
		}
		for r := range 8 {
			x := copyOfState(s)
			for _, w := range words {
				x.Regs[r] = w
				if impl.StateOk(x) != impl.WordOk(w) {
					t.Fatalf("StateOk is %v with %v in register %v", !impl.WordOk(w), w, r)
				}
			}
		}
	}
}

func TestStateOkOfPcMemoryAndTrap(t *testing.T) {
	for _, s := range rightStates() {
		for _, w := range append(anyWords(), rightWords()...) {
			if impl.StateOk(impl.State{Regs: s.Regs, Pc: w, Mem: s.Mem, Trap: s.Trap}) != impl.WordOk(w) {
				t.Fatal("Pc", w)
			}
		}
		for trap := -3; trap <= 9; trap++ {
			if impl.StateOk(impl.State{Regs: s.Regs, Pc: s.Pc, Mem: s.Mem, Trap: trap}) != (trap >= 0 && trap <= 5) {
				t.Fatal("Trap", trap)
			}
		}
	}
	s := impl.StateNew()
	for _, m := range rightMemories() {
		if !impl.StateOk(impl.State{Regs: s.Regs, Pc: s.Pc, Mem: m}) {
			t.Fatal("refused", m)
		}
	}
	for _, m := range wrongMemories() {
		if impl.StateOk(impl.State{Regs: s.Regs, Pc: s.Pc, Mem: m}) {
			t.Fatal("accepted", m)
		}
	}
	for _, x := range wrongStates() {
		if impl.StateOk(x) {
			t.Fatal("accepted", x)
		}
	}
}

func TestStateNewWordByWord(t *testing.T) {
	want := impl.State{
		Regs: make([]impl.Word, 8),
		Pc:   impl.Word{N: 0, Is: true, Key: impl.Key{Base: 0, Top: 48, Perms: 4}},
		Mem:  impl.Memory{Words: make([]impl.Word, 24), Gone: make([]bool, 24)},
	}
	want.Regs[0] = impl.Word{N: 0, Is: true, Key: impl.Key{Base: 0, Top: 24, Perms: 1 + 2 + 8 + 16 + 32}}
	first, second := impl.StateNew(), impl.StateNew()
	if !sameState(first, want) || !impl.StateOk(first) {
		t.Fatal(first)
	}
	scribbleState(first)
	if !sameState(second, want) || !sameState(impl.StateNew(), want) {
		t.Error("two of them share memory")
	}
}

// What is wrong with the Pc, alone and together, ahead of what is wrong with the place.
func TestWhichTrapOfFetchComesFirst(t *testing.T) {
	x := impl.Ins{Op: impl.OpLoad, R: 1, A: 2, N: -3}
	for n := range 48 {
		list := slices.Repeat([]impl.Ins{x}, n+1)
		reachSets(n, impl.PmRun, func(pc impl.Word, want int) {
			place := impl.Ins{}
			if want == impl.TpNone {
				place = x
			}
			if got, trap := impl.Fetch(list, pc); got != place || trap != want {
				t.Errorf("Fetch by %v: %v, %v, not %v", pc, got, trap, want)
			}
			if want == impl.TpNone {
				want = impl.TpBound
			}
			wrong := append(slices.Clone(list[:n]), impl.Ins{Op: impl.OpSet, R: 1, A: 1})
			for _, list := range [][]impl.Ins{list[:n], nil, {}, wrong} {
				if got, trap := impl.Fetch(list, pc); got != (impl.Ins{}) || trap != want {
					t.Errorf("Fetch by %v of %v places: %v, %v, not %v", pc, len(list), got, trap, want)
				}
			}
		})
	}
}

// Lists of all lengths, longer than a program may be, too, with more places behind their end.
func TestFetchOfEachPlace(t *testing.T) {
	for length := range 60 {
		list := somePlaces(length)
		room := append(slices.Clone(list), impl.Ins{Op: impl.OpHalt}, impl.Ins{Op: impl.OpHalt})
		for n := range 70 {
			want, wantTrap := impl.Ins{}, impl.TpBound
			if n < length {
				want, wantTrap = list[n], impl.TpNone
			}
			for _, pc := range []impl.Word{pcAt(n), {N: n, Is: true, Key: impl.Root()}} {
				if x, trap := impl.Fetch(room[:length], pc); x != want || trap != wantTrap {
					t.Fatal(length, pc, x, trap)
				}
			}
		}
	}
	list := make([]impl.Ins, 4200)
	for i := range list {
		list[i] = impl.Ins{Op: impl.OpSet, R: i % 8, N: i % 100}
	}
	for _, x := range []struct{ n, want int }{{4095, impl.TpNone}, {4096, impl.TpBound}, {4199, impl.TpBound}, {65535, impl.TpBound}, {-1, impl.TpKey}, {65536, impl.TpKey}} {
		got, trap := impl.Fetch(list, impl.Word{N: x.n, Is: true, Key: impl.Root()})
		if trap != x.want || trap == impl.TpNone && got != list[x.n] || trap != impl.TpNone && got != (impl.Ins{}) {
			t.Error(x.n, got, trap)
		}
	}
}

// A place that is below 0 is come to by going round: no key opens that.
func TestFetchBelowTheFirstPlace(t *testing.T) {
	list := somePlaces(48)
	for back := 1; back <= 128; back++ {
		e := impl.Work(impl.Ins{Op: impl.OpZero, N: -back}, impl.Word{Is: true, Key: impl.Root()}, impl.Word{}, impl.Word{}, impl.Word{})
		if e.Next.N != 65536-back || !e.Next.Is {
			t.Fatal(back, e.Next)
		}
		if x, trap := impl.Fetch(list, e.Next); x != (impl.Ins{}) || trap != impl.TpBound {
			t.Fatal(back, x, trap)
		}
		if x, trap := impl.Fetch(list, impl.Word{N: -back, Is: true, Key: impl.Root()}); x != (impl.Ins{}) || trap != impl.TpKey {
			t.Fatal(back, x, trap)
		}
	}
}

func TestFetchOfWrongPlaces(t *testing.T) {
	list := somePlaces(15)
	for i, x := range wrongPlaces() {
		at := i % 15
		one := slices.Clone(list)
		one[at] = x
		for n := range 15 {
			want, wantTrap := one[n], impl.TpNone
			if n == at {
				want, wantTrap = impl.Ins{}, impl.TpBound
			}
			if got, trap := impl.Fetch(one, pcAt(n)); got != want || trap != wantTrap {
				t.Fatalf("with %v at %v: Fetch at %v is %v, %v", x, at, n, got, trap)
			}
		}
	}
}

func TestFetchByAllWords(t *testing.T) {
	for _, list := range [][]impl.Ins{nil, {}, somePlaces(1), somePlaces(7), somePlaces(48), somePlaces(65), {{}, {}}} {
		for _, pc := range slices.Concat(keysAt(), notKeys(), anyWords()) {
			x, trap := impl.Fetch(list, pc)
			want, wantTrap := fetchByWords(list, pc)
			if x != want || trap != wantTrap {
				t.Fatalf("Fetch(%v, %v) = %v, %v, not %v, %v", list, pc, x, trap, want, wantTrap)
			}
		}
	}
}

// workWords has words of all kinds for registers and for Pc: plain, keys with all Perms but one and with one alone, sealed, wrong.
func workWords() []impl.Word {
	words := []impl.Word{
		{}, {N: 1}, {N: 3}, {N: 6}, {N: 7}, {N: 8}, {N: 24}, {N: 63}, {N: 64}, {N: 65535}, {N: -1}, {N: 65536}, {N: math.MinInt}, {N: math.MaxInt},
		{N: 3, Key: impl.Key{Top: 24, Perms: 63}}, {N: 0, Key: impl.Root()}, {Is: true}, {N: 3, Is: true, Key: impl.Key{Base: 4, Top: 3, Perms: 63}},
		{N: 3, Is: true, Key: impl.Key{Top: 4097, Perms: 63}}, {N: 3, Is: true, Key: impl.Key{Top: 24, Perms: 64}}, {N: 3, Is: true, Key: impl.Key{Top: 24, Seal: 8}},
		{N: -1, Is: true, Key: impl.Root()}, {N: 65536, Is: true, Key: impl.Root()}, {N: math.MaxInt, Is: true, Key: impl.Root()}, {N: math.MinInt, Is: true, Key: impl.Root()},
	}
	for _, n := range []int{0, 3, 4, 6, 9, 10, 23, 24, 65535} {
		words = append(words, impl.Word{N: n, Is: true, Key: impl.Key{Base: 4, Top: 10, Perms: 63}}, impl.Word{N: n, Is: true, Key: impl.Root()})
		words = append(words, impl.Word{N: n, Is: true, Key: impl.Key{Top: 24, Perms: 63, Seal: 1 + n%7}})
	}
	for perm := 1; perm < 64; perm *= 2 {
		words = append(words, impl.Word{N: 4, Is: true, Key: impl.Key{Top: 24, Perms: perm}}, impl.Word{N: 4, Is: true, Key: impl.Key{Top: 24, Perms: 63 - perm}})
		words = append(words, impl.Word{N: 6, Is: true, Key: impl.Key{Base: 4, Top: 10, Perms: perm, Seal: 4}})
	}
	return words
}

// opsAndOthers has each op, and what is none.
func opsAndOthers() []int {
	ops := slices.Clone(noOps)
	for op := -20; op <= 40; op++ {
		ops = append(ops, op)
	}
	return ops
}

// Each op by each pair of words, with Pcs, numbers and registers that go round and round.
func TestWorkOfAll(t *testing.T) {
	words := workWords()
	ns, turn := append([]int{-128, -2, -1, 0, 1, 2, 7, 127}, noNs...), 0
	for _, op := range opsAndOthers() {
		for i, a := range words {
			for j, b := range words {
				turn++
				x := impl.Ins{Op: op, R: turn % 8, A: turn % 7, B: turn % 5, N: ns[turn%len(ns)]}
				pc, got := words[(i*7+j*11+op%16+16)%len(words)], words[(i*5+j*3)%len(words)]
				if e, want := impl.Work(x, pc, a, b, got), effectByWords(x, pc, a, b, got); e != want {
					t.Fatalf("Work(%v, %v, %v, %v, %v) = %v, not %v", x, pc, a, b, got, e, want)
				}
			}
		}
	}
}

// Each op at each place, with Pcs that end there or go on.
func TestWorkGoesOn(t *testing.T) {
	a := impl.Word{N: 4, Is: true, Key: impl.Key{Top: 24, Perms: 63}}
	for op := -1; op <= 17; op++ {
		for _, pc := range append(slices.Concat(workWords(), rightWords()), pcAt(46), pcAt(47), pcAt(58), pcAt(59), pcAt(60), pcAt(61), pcAt(65535)) {
			e := impl.Work(impl.Ins{Op: op, N: 3}, pc, a, a, a)
			want := pointByWords(pc, bareOf(pc).N+1)
			switch op {
			case impl.OpJump:
				want = a
				if e.Val != pointByWords(pc, bareOf(pc).N+1) {
					t.Fatal("jump back", pc, e.Val)
				}
			case impl.OpHalt:
				want = pc
			}
			if e.Next != want {
				t.Fatalf("op %v at %v goes on at %v, not %v", op, pc, e.Next, want)
			}
		}
	}
}

// A number that no place has, and registers that there are none of: Work goes by the op alone.
func TestWorkOfWrongPlaces(t *testing.T) {
	words := workWords()
	for i, x := range wrongPlaces() {
		for j := range 5 {
			pc, a, b, got := words[(i+j)%len(words)], words[(i*3+j*7)%len(words)], words[(i*5+j*13)%len(words)], words[(i*11+j)%len(words)]
			if e, want := impl.Work(x, pc, a, b, got), effectByWords(x, pc, a, b, got); e != want {
				t.Fatalf("Work(%v, %v, %v, %v, %v) = %v, not %v", x, pc, a, b, got, e, want)
			}
		}
	}
}

func TestWhichTrapOfWorkComesFirst(t *testing.T) {
	pc := pcAt(4)
	for n := range 30 {
		reachSets(n, impl.PmRun, func(a impl.Word, trap int) {
			want := trapsOnly(trap, pc)
			if trap == impl.TpNone {
				want = impl.Effect{R: 6, Val: pcAt(5), Next: a, At: -1, Drop: -1}
			}
			if e := impl.Work(impl.Ins{Op: impl.OpJump, R: 6, A: 1}, pc, a, allOf, allOf); e != want {
				t.Errorf("jump by %v: %v, not %v", a, e, want)
			}
		})
		reachSets(n, impl.PmSeal, func(a impl.Word, trap int) {
			want := trapsOnly(trap, pc)
			if trap == impl.TpNone {
				want = impl.Effect{R: -1, Next: pcAt(5), At: -1, Drop: a.Key.Base}
			}
			if e := impl.Work(impl.Ins{Op: impl.OpGone, A: 1}, pc, a, allOf, allOf); e != want {
				t.Errorf("gone of %v: %v, not %v", a, e, want)
			}
		})
	}
}

// key24 is a key word to all cells.
func key24(n, perms, seal int) impl.Word {
	return impl.Word{N: n, Is: true, Key: impl.Key{Top: 24, Perms: perms, Seal: seal}}
}

func keyOf(n, base, top, perms int) impl.Word {
	return impl.Word{N: n, Is: true, Key: impl.Key{Base: base, Top: top, Perms: perms}}
}

// What register R is set to, at place 4; got is told by b.
func TestWorkThatSets(t *testing.T) {
	n := func(n int) impl.Word { return impl.Word{N: n} }
	for _, x := range []struct {
		name    string
		op, n   int
		a, b    impl.Word
		want    impl.Word
		wantNot bool
	}{
		{"set", impl.OpSet, 5, allOf, allOf, n(5), false},
		{"set the least", impl.OpSet, -128, allOf, allOf, n(65408), false},
		{"set the greatest", impl.OpSet, 127, allOf, allOf, n(127), false},
		{"set 0", impl.OpSet, 0, allOf, allOf, n(0), false},
		{"set what is no N", impl.OpSet, 65537, allOf, allOf, n(1), false},
		{"add", impl.OpAdd, 0, n(3), n(4), n(7), false},
		{"add goes round", impl.OpAdd, 0, n(65535), n(1), n(0), false},
		{"add of the greatest", impl.OpAdd, 0, n(65535), n(65535), n(65534), false},
		{"add of keys", impl.OpAdd, 0, key24(3, 63, 0), key24(4, 63, 2), n(7), false},
		{"add takes no N", impl.OpAdd, 9, n(3), n(4), n(7), false},
		{"add as far as an int goes", impl.OpAdd, 0, n(math.MaxInt), n(math.MaxInt), n(65534), false},
		{"move a number", impl.OpMove, 0, n(3), allOf, n(3), false},
		{"move a key", impl.OpMove, 0, key24(3, 9, 0), n(4), key24(3, 9, 0), false},
		{"move what is sealed", impl.OpMove, 0, key24(3, 9, 2), n(4), key24(3, 9, 2), false},
		{"move what is no word", impl.OpMove, 0, impl.Word{N: -1, Is: true}, n(4), impl.Word{N: -1, Is: true}, false},
		{"weak", impl.OpWeak, 0, key24(3, 63, 0), n(9), key24(3, 9, 0), false},
		{"weak by a key's N", impl.OpWeak, 0, key24(3, 62, 0), key24(9, 1, 5), key24(3, 8, 0), false},
		{"weak by 64", impl.OpWeak, 0, key24(3, 63, 0), n(64), key24(3, 0, 0), false},
		{"weak of what is sealed", impl.OpWeak, 0, key24(3, 63, 2), n(9), n(3), false},
		{"weak of a number", impl.OpWeak, 0, n(3), n(9), n(3), false},
		{"bound", impl.OpBound, 0, key24(4, 63, 0), n(6), keyOf(4, 4, 10, 63), false},
		{"bound by a key's N", impl.OpBound, 0, key24(4, 9, 0), key24(6, 1, 5), keyOf(4, 4, 10, 9), false},
		{"bound to none", impl.OpBound, 0, key24(4, 63, 0), n(0), keyOf(4, 4, 4, 63), false},
		{"bound up to the end", impl.OpBound, 0, key24(4, 63, 0), n(20), keyOf(4, 4, 24, 63), false},
		{"bound past the end", impl.OpBound, 0, key24(4, 63, 0), n(21), n(4), false},
		{"bound of what is sealed", impl.OpBound, 0, key24(4, 63, 2), n(6), n(4), false},
		{"bound of a number", impl.OpBound, 0, n(4), n(6), n(4), false},
		{"bound that is wider", impl.OpBound, 0, keyOf(130, 0, 4096, 63), n(70), keyOf(130, 128, 200, 63), false},
		{"point", impl.OpPoint, 7, key24(4, 9, 0), n(3), key24(14, 9, 0), false},
		{"point by a key's N", impl.OpPoint, 7, key24(4, 9, 0), key24(3, 1, 5), key24(14, 9, 0), false},
		{"point back", impl.OpPoint, -8, key24(4, 9, 0), n(3), key24(65535, 9, 0), false},
		{"point round", impl.OpPoint, 1, key24(65535, 9, 0), n(1), key24(1, 9, 0), false},
		{"point of what is sealed", impl.OpPoint, 7, key24(4, 9, 2), n(3), n(14), false},
		{"point of a number", impl.OpPoint, -8, n(4), n(3), n(65535), false},
		{"seal", impl.OpSeal, 0, key24(4, 9, 0), key24(3, 32, 0), key24(4, 9, 3), false},
		{"seal with 0", impl.OpSeal, 0, key24(4, 9, 0), key24(0, 32, 0), n(4), false},
		{"seal with the greatest", impl.OpSeal, 0, key24(4, 9, 0), key24(7, 32, 0), key24(4, 9, 7), false},
		{"seal past the greatest", impl.OpSeal, 0, key24(4, 9, 0), key24(8, 32, 0), n(4), false},
		{"seal by no PmSeal", impl.OpSeal, 0, key24(4, 9, 0), key24(3, 31, 0), n(4), false},
		{"seal by what is sealed", impl.OpSeal, 0, key24(4, 9, 0), key24(3, 32, 3), n(4), false},
		{"seal by a number", impl.OpSeal, 0, key24(4, 9, 0), n(3), n(4), false},
		{"seal by what does not open that", impl.OpSeal, 0, key24(4, 9, 0), keyOf(3, 4, 10, 32), n(4), false},
		{"seal what is sealed", impl.OpSeal, 0, key24(4, 9, 2), key24(3, 32, 0), n(4), false},
		{"seal a number", impl.OpSeal, 0, n(4), key24(3, 32, 0), n(4), false},
		{"open", impl.OpOpen, 0, key24(4, 9, 3), key24(3, 32, 0), key24(4, 9, 0), false},
		{"open by another", impl.OpOpen, 0, key24(4, 9, 3), key24(2, 32, 0), n(4), false},
		{"open by no PmSeal", impl.OpOpen, 0, key24(4, 9, 3), key24(3, 31, 0), n(4), false},
		{"open what is not sealed", impl.OpOpen, 0, key24(4, 9, 0), key24(3, 32, 0), n(4), false},
		{"open a number", impl.OpOpen, 0, n(4), key24(3, 32, 0), n(4), false},
		{"is a key", impl.OpIs, 0, key24(4, 0, 0), n(3), n(1), false},
		{"is a sealed key", impl.OpIs, 0, key24(4, 0, 2), n(3), n(1), false},
		{"is the zero key", impl.OpIs, 0, impl.Word{Is: true}, n(3), n(1), false},
		{"is a number", impl.OpIs, 0, n(4), key24(4, 0, 0), n(0), false},
		{"is a number that is 1", impl.OpIs, 0, n(1), key24(4, 0, 0), n(0), false},
		{"is what only has a key", impl.OpIs, 0, impl.Word{N: 1, Key: runs}, key24(4, 0, 0), n(0), false},
		{"load a key", impl.OpLoad, 7, n(4), key24(4, 9, 2), key24(4, 9, 2), false},
		{"load a number", impl.OpLoad, -7, allOf, n(65535), n(65535), false},
		{"load what is no word", impl.OpLoad, 0, allOf, impl.Word{N: -1}, impl.Word{N: -1}, false},
		{"store", impl.OpStore, 3, allOf, allOf, n(0), true},
		{"zero", impl.OpZero, 3, n(0), allOf, n(0), true},
		{"gone", impl.OpGone, 0, allOf, allOf, n(0), true},
		{"none", 0, 3, allOf, allOf, n(0), true},
		{"past the last", 16, 3, allOf, allOf, n(0), true},
	} {
		for r := range 8 {
			e := impl.Work(impl.Ins{Op: x.op, R: r, N: x.n}, pcAt(4), x.a, x.b, x.b)
			want := r
			if x.wantNot {
				want = -1
			}
			if e.R != want || e.Val != x.want || e.Trap != impl.TpNone {
				t.Errorf("%s: register %v, %v, trap %v, not %v", x.name, e.R, e.Val, e.Trap, x.want)
			}
			if !x.wantNot && e != (impl.Effect{R: r, Val: x.want, Next: pcAt(5), At: -1, Drop: -1}) {
				t.Errorf("%s: %v", x.name, e)
			}
		}
	}
}

// The whole effect of what sets nothing, of jumps, and of what traps.
func TestWorkEdges(t *testing.T) {
	pc, n := pcAt(4), func(n int) impl.Word { return impl.Word{N: n} }
	goes := func(next impl.Word) impl.Effect { return impl.Effect{R: -1, Next: next, At: -1, Drop: -1} }
	puts := func(at int, w impl.Word) impl.Effect {
		return impl.Effect{R: -1, Next: pcAt(5), At: at, Put: w, Drop: -1}
	}
	jumps := func(back, next impl.Word) impl.Effect {
		return impl.Effect{R: 2, Val: back, Next: next, At: -1, Drop: -1}
	}
	drops := func(at int) impl.Effect { return impl.Effect{R: -1, Next: pcAt(5), At: -1, Drop: at} }
	place := func(op, n int) impl.Ins { return impl.Ins{Op: op, R: 2, A: 1, B: 3, N: n} }
	sealed := impl.Word{N: 4, Is: true, Key: impl.Key{Top: 60, Perms: 4, Seal: 1}}
	for _, x := range []struct {
		name     string
		x        impl.Ins
		pc, a, b impl.Word
		want     impl.Effect
	}{
		{"store a number", place(impl.OpStore, 3), pc, key24(4, 63, 0), n(9), puts(7, n(9))},
		{"store a key", place(impl.OpStore, -3), pc, key24(4, 63, 0), key24(9, 63, 2), puts(1, key24(9, 63, 2))},
		{"store by a number", place(impl.OpStore, 3), pc, n(4), n(9), puts(7, n(9))},
		{"store at the first", place(impl.OpStore, -4), pc, key24(4, 63, 0), n(0), puts(0, n(0))},
		{"store below 0", place(impl.OpStore, -6), pc, key24(4, 63, 0), n(9), puts(-2, n(9))},
		{"store far out", place(impl.OpStore, 127), pc, n(65535), n(9), puts(65662, n(9))},
		{"store far below", place(impl.OpStore, -128), pc, n(0), n(9), puts(-128, n(9))},
		{"store what is no word", place(impl.OpStore, 0), pc, n(4), impl.Word{N: -1}, puts(4, impl.Word{N: -1})},
		{"jump", place(impl.OpJump, 0), pc, pcAt(9), n(9), jumps(pcAt(5), pcAt(9))},
		{"jump to the last that opens", place(impl.OpJump, 0), pc, pcAt(59), n(9), jumps(pcAt(5), pcAt(59))},
		{"jump to the same", place(impl.OpJump, 0), pc, pc, n(9), jumps(pcAt(5), pc)},
		{"jump by another key", place(impl.OpJump, 0), pc, keyOf(5, 4, 10, 63), n(9), jumps(pcAt(5), keyOf(5, 4, 10, 63))},
		{"jump from a number", place(impl.OpJump, 0), n(65535), pcAt(9), n(9), jumps(n(0), pcAt(9))},
		{"jump from what is sealed", place(impl.OpJump, 0), sealed, pcAt(9), n(9), jumps(n(5), pcAt(9))},
		{"jump takes no N", place(impl.OpJump, 100), pc, pcAt(9), n(9), jumps(pcAt(5), pcAt(9))},
		{"jump by a number", place(impl.OpJump, 0), pc, n(9), pcAt(9), trapsOnly(impl.TpKey, pc)},
		{"jump by what is sealed", place(impl.OpJump, 0), pc, sealed, pcAt(9), trapsOnly(impl.TpSeal, pc)},
		{"jump without PmRun", place(impl.OpJump, 0), pc, key24(4, 59, 0), pcAt(9), trapsOnly(impl.TpPerm, pc)},
		{"jump past the last", place(impl.OpJump, 0), pc, pcAt(60), pcAt(9), trapsOnly(impl.TpBound, pc)},
		{"jump that traps from what is no word", place(impl.OpJump, 0), n(-7), pcAt(60), pcAt(9), trapsOnly(impl.TpBound, n(-7))},
		{"zero", place(impl.OpZero, 7), pc, n(0), n(9), goes(pcAt(11))},
		{"zero of a key", place(impl.OpZero, 7), pc, key24(0, 63, 0), n(9), goes(pcAt(11))},
		{"zero of what is sealed", place(impl.OpZero, 7), pc, key24(0, 63, 3), n(9), goes(pcAt(11))},
		{"zero back", place(impl.OpZero, -4), pc, n(0), n(9), goes(pcAt(0))},
		{"zero further back", place(impl.OpZero, -5), pc, n(0), n(9), goes(pcAt(65535))},
		{"zero to the same", place(impl.OpZero, 0), pc, n(0), n(9), goes(pc)},
		{"zero to the next", place(impl.OpZero, 1), pc, n(0), n(9), goes(pcAt(5))},
		{"zero beyond", place(impl.OpZero, 127), pc, n(0), n(9), goes(pcAt(131))},
		{"zero round", place(impl.OpZero, 2), pcAt(65535), n(0), n(9), goes(pcAt(1))},
		{"zero of 1", place(impl.OpZero, 7), pc, n(1), n(0), goes(pcAt(5))},
		{"zero of the greatest", place(impl.OpZero, -7), pc, n(65535), n(0), goes(pcAt(5))},
		{"zero of what goes round to 0", place(impl.OpZero, 7), pc, n(65536), n(0), goes(pcAt(5))},
		{"zero at a number", place(impl.OpZero, 7), n(4), n(0), n(9), goes(n(11))},
		{"zero at what is sealed", place(impl.OpZero, 7), sealed, n(0), n(9), goes(n(11))},
		{"gone", place(impl.OpGone, 0), pc, keyOf(5, 4, 10, 32), n(9), drops(4)},
		{"gone of the first", place(impl.OpGone, 0), pc, keyOf(5, 0, 10, 63), n(9), drops(0)},
		{"gone of no cell", place(impl.OpGone, 0), pc, keyOf(4095, 4032, 4096, 63), n(9), drops(4032)},
		{"gone of a number", place(impl.OpGone, 0), pc, n(9), allOf, trapsOnly(impl.TpKey, pc)},
		{"gone of what is sealed", place(impl.OpGone, 0), pc, key24(9, 63, 1), allOf, trapsOnly(impl.TpSeal, pc)},
		{"gone without PmSeal", place(impl.OpGone, 0), pc, key24(9, 31, 0), allOf, trapsOnly(impl.TpPerm, pc)},
		{"gone past the end", place(impl.OpGone, 0), pc, keyOf(10, 4, 10, 63), allOf, trapsOnly(impl.TpBound, pc)},
		{"gone ahead of it", place(impl.OpGone, 0), pc, keyOf(3, 4, 10, 63), allOf, trapsOnly(impl.TpBound, pc)},
		{"halt", place(impl.OpHalt, 0), pc, allOf, allOf, trapsOnly(impl.TpStop, pc)},
		{"halt at a number", place(impl.OpHalt, 0), n(4), allOf, allOf, trapsOnly(impl.TpStop, n(4))},
		{"halt at what is no word", place(impl.OpHalt, 0), n(-1), allOf, allOf, trapsOnly(impl.TpStop, n(-1))},
		{"of no op", place(0, 3), pc, allOf, allOf, goes(pcAt(5))},
		{"below the first", place(-1, 3), pc, allOf, allOf, goes(pcAt(5))},
		{"past the last", place(16, 3), pc, allOf, allOf, goes(pcAt(5))},
		{"far below", place(math.MinInt, 3), pc, allOf, allOf, goes(pcAt(5))},
		{"far past", place(math.MaxInt, 3), pc, allOf, allOf, goes(pcAt(5))},
		{"of no op, at the end", impl.Ins{}, pcAt(59), n(0), n(0), goes(pcAt(60))},
		{"of no op, beyond the end", impl.Ins{}, pcAt(60), n(0), n(0), goes(pcAt(61))},
		{"of no op, where N ends", impl.Ins{}, pcAt(65535), n(0), n(0), goes(pcAt(0))},
		{"of no op, at what is no word", impl.Ins{}, n(-1), n(0), n(0), goes(n(0))},
		{"of no op, where an int ends", impl.Ins{}, n(math.MaxInt), n(0), n(0), goes(n(0))},
		{"a set of what is no register", impl.Ins{Op: impl.OpSet, R: 9, N: 3}, pc, n(0), n(0), impl.Effect{R: 9, Val: n(3), Next: pcAt(5), At: -1, Drop: -1}},
	} {
		for _, got := range []impl.Word{{}, allOf} {
			if e := impl.Work(x.x, x.pc, x.a, x.b, got); e != x.want {
				t.Errorf("%s: %v, not %v", x.name, e, x.want)
			}
		}
	}
}

// stateWith is a state whose registers A and B (1 and 2) have a and b, at the first place, with keys in memory.
func stateWith(a, b impl.Word) impl.State {
	regs := []impl.Word{{N: 100}, a, b, {N: 103}, allOf, {N: 105}, key24(6, 9, 3), {N: 107}}
	return impl.State{Regs: regs, Pc: pcAt(0), Mem: copyOfMemory(fullMemories()[2])}
}

// stepsTo holds a step against what is to come of it.
func stepsTo(t *testing.T, list []impl.Ins, s, want impl.State) {
	t.Helper()
	if got := impl.Step(list, s); !sameState(got, want) {
		t.Errorf("Step(%v, %v) = %v, not %v", list, s, got, want)
	}
}

func withTrap(s impl.State, trap int) impl.State {
	next := copyOfState(s)
	next.Trap = trap
	return next
}

// Fetch's trap comes first, then that of Read; with a trap nothing else turns.
func TestWhichTrapOfAStepThatLoadsComesFirst(t *testing.T) {
	places := []impl.Ins{{Op: impl.OpLoad, R: 1, A: 1, N: 2}, {Op: impl.OpLoad, R: 3, A: 1, N: 2}}
	for _, place := range places {
		for _, n := range []int{0, 7, 47} {
			list := slices.Repeat([]impl.Ins{place}, n+1)
			reachSets(n, impl.PmRun, func(pc impl.Word, fetch int) {
				reachSets(9, impl.PmLoad, func(a impl.Word, read int) {
					if !impl.WordOk(pc) || !impl.WordOk(a) {
						return
					}
					a.N -= 2
					s := stateWith(a, allOf)
					s.Pc = pc
					want := withTrap(s, read)
					if read == impl.TpNone {
						lies := s.Mem.Words[9]
						if a.Key.Perms&8 == 0 {
							lies = impl.Plain(lies.N)
						}
						want.Regs[place.R], want.Pc.N = lies, n+1
					}
					bound := withTrap(s, impl.TpBound)
					if fetch != impl.TpNone {
						want, bound = withTrap(s, fetch), withTrap(s, fetch)
					}
					stepsTo(t, list, s, want)
					stepsTo(t, list[:n], s, bound)
					stepsTo(t, append(slices.Clone(list[:n]), impl.Ins{Op: impl.OpLoad, B: 1}), s, bound)
				})
			})
		}
	}
}

// Fetch's trap comes first, then that of Write, last of which is that a key may not be put.
func TestWhichTrapOfAStepThatStoresComesFirst(t *testing.T) {
	list := []impl.Ins{{Op: impl.OpHalt}, {Op: impl.OpStore, A: 1, B: 2, N: -3}}
	for _, b := range []impl.Word{{N: 500}, key24(5, 9, 0), key24(5, 9, 3), {Is: true}} {
		reachSets(1, impl.PmRun, func(pc impl.Word, fetch int) {
			reachSets(9, impl.PmStore, func(a impl.Word, write int) {
				if !impl.WordOk(pc) || !impl.WordOk(a) {
					return
				}
				a.N += 3
				for _, a := range []impl.Word{a, {N: a.N, Is: a.Is, Key: impl.Key{Base: a.Key.Base, Top: a.Key.Top, Perms: a.Key.Perms &^ 16, Seal: a.Key.Seal}}} {
					s := stateWith(a, b)
					s.Pc = pc
					want := withTrap(s, write)
					if write == impl.TpNone && b.Is && a.Key.Perms&16 == 0 {
						want.Trap = impl.TpPerm
					}
					if want.Trap == impl.TpNone {
						want.Mem.Words[9], want.Pc.N = b, 2
					}
					if fetch != impl.TpNone {
						want = withTrap(s, fetch)
					}
					stepsTo(t, list, s, want)
				}
			})
		})
	}
}

// Addresses that are none, and those at the edges of Cells, by a key that opens all.
func TestStepAtTheEdgesOfMemory(t *testing.T) {
	for _, x := range []struct{ at, n, want int }{
		{0, 0, impl.TpNone}, {0, 23, impl.TpNone}, {23, 0, impl.TpNone}, {24, -1, impl.TpNone}, {5, -5, impl.TpNone}, {127, -127, impl.TpNone}, {128, -128, impl.TpNone},
		{0, -1, impl.TpBound}, {4, -5, impl.TpBound}, {0, -128, impl.TpBound}, {24, 0, impl.TpBound}, {23, 1, impl.TpBound}, {0, 24, impl.TpBound},
		{0, 127, impl.TpBound}, {4095, 0, impl.TpBound}, {4095, 1, impl.TpBound}, {65535, 1, impl.TpBound}, {65535, 127, impl.TpBound}, {65535, 0, impl.TpBound},
	} {
		a := impl.Word{N: x.at, Is: true, Key: impl.Root()}
		s := stateWith(a, impl.Plain(500))
		load, store := withTrap(s, x.want), withTrap(s, x.want)
		if x.want == impl.TpNone {
			load.Regs[3], load.Pc.N = s.Mem.Words[x.at+x.n], 1
			store.Mem.Words[x.at+x.n], store.Pc.N = impl.Plain(500), 1
		}
		stepsTo(t, []impl.Ins{{Op: impl.OpLoad, R: 3, A: 1, N: x.n}}, s, load)
		stepsTo(t, []impl.Ins{{Op: impl.OpStore, A: 1, B: 2, N: x.n}}, s, store)
	}
}

// What one step of each op turns, told by hand.
func TestStepOfEachOp(t *testing.T) {
	pc := impl.Word{N: 5, Is: true, Key: impl.Key{Top: 10, Perms: 36}}
	sealer := key24(3, 63, 0)
	for _, x := range []struct {
		name string
		x    impl.Ins
		a, b impl.Word
		turn func(s *impl.State)
	}{
		{"set", impl.Ins{Op: impl.OpSet, R: 7, N: -1}, allOf, allOf, func(s *impl.State) { s.Regs[7] = impl.Plain(65535) }},
		{"add", impl.Ins{Op: impl.OpAdd, R: 0, A: 1, B: 2}, impl.Plain(4), sealer, func(s *impl.State) { s.Regs[0] = impl.Plain(7) }},
		{"move", impl.Ins{Op: impl.OpMove, R: 5, A: 1}, sealer, allOf, func(s *impl.State) { s.Regs[5] = sealer }},
		{"weak", impl.Ins{Op: impl.OpWeak, R: 5, A: 1, B: 2}, sealer, impl.Plain(9), func(s *impl.State) { s.Regs[5] = key24(3, 9, 0) }},
		{"bound", impl.Ins{Op: impl.OpBound, R: 5, A: 1, B: 2}, sealer, impl.Plain(9), func(s *impl.State) { s.Regs[5] = keyOf(3, 3, 12, 63) }},
		{"point", impl.Ins{Op: impl.OpPoint, R: 5, A: 1, B: 2, N: -4}, sealer, impl.Plain(9), func(s *impl.State) { s.Regs[5] = key24(8, 63, 0) }},
		{"seal", impl.Ins{Op: impl.OpSeal, R: 5, A: 1, B: 2}, key24(9, 1, 0), sealer, func(s *impl.State) { s.Regs[5] = key24(9, 1, 3) }},
		{"open", impl.Ins{Op: impl.OpOpen, R: 5, A: 1, B: 2}, key24(9, 1, 3), sealer, func(s *impl.State) { s.Regs[5] = key24(9, 1, 0) }},
		{"is", impl.Ins{Op: impl.OpIs, R: 5, A: 1}, key24(9, 1, 3), sealer, func(s *impl.State) { s.Regs[5] = impl.Plain(1) }},
		{"is none", impl.Ins{Op: impl.OpIs, R: 5, A: 1}, impl.Plain(9), sealer, func(s *impl.State) { s.Regs[5] = impl.Plain(0) }},
		{"load", impl.Ins{Op: impl.OpLoad, R: 5, A: 1, N: 7}, sealer, allOf, func(s *impl.State) { s.Regs[5] = keyOf(10, 10, 14, 63) }},
		{"load without PmTake", impl.Ins{Op: impl.OpLoad, R: 5, A: 1, N: 7}, key24(3, 55, 0), allOf, func(s *impl.State) { s.Regs[5] = impl.Plain(10) }},
		{"store", impl.Ins{Op: impl.OpStore, A: 1, B: 2, N: 7}, sealer, impl.Plain(9), func(s *impl.State) { s.Mem.Words[10] = impl.Plain(9) }},
		{"store a key", impl.Ins{Op: impl.OpStore, A: 1, B: 2, N: 7}, key24(3, 18, 0), sealer, func(s *impl.State) { s.Mem.Words[10] = sealer }},
		{"store a number without PmPut", impl.Ins{Op: impl.OpStore, A: 1, B: 2, N: 7}, key24(3, 2, 0), impl.Plain(9), func(s *impl.State) { s.Mem.Words[10] = impl.Plain(9) }},
		{"jump", impl.Ins{Op: impl.OpJump, R: 5, A: 1}, sealer, allOf, func(s *impl.State) { s.Pc, s.Regs[5] = sealer, impl.Word{N: 6, Is: true, Key: pc.Key} }},
		{"zero", impl.Ins{Op: impl.OpZero, A: 1, N: -3}, key24(0, 63, 0), allOf, func(s *impl.State) { s.Pc.N = 2 }},
		{"zero to the same", impl.Ins{Op: impl.OpZero, A: 1}, impl.Plain(0), allOf, func(s *impl.State) { s.Pc.N = 5 }},
		{"zero of 1", impl.Ins{Op: impl.OpZero, A: 1, N: -3}, impl.Plain(1), allOf, func(s *impl.State) {}},
		{"gone", impl.Ins{Op: impl.OpGone, A: 1}, keyOf(12, 9, 15, 32), allOf, func(s *impl.State) { s.Mem.Gone[9] = true }},
		{"gone of the last cell", impl.Ins{Op: impl.OpGone, A: 1}, keyOf(23, 23, 24, 32), allOf, func(s *impl.State) { s.Mem.Gone[23] = true }},
		{"gone of no cell", impl.Ins{Op: impl.OpGone, A: 1}, keyOf(24, 24, 30, 63), allOf, func(s *impl.State) {}},
		{"jump by a number", impl.Ins{Op: impl.OpJump, R: 5, A: 1}, impl.Plain(3), allOf, func(s *impl.State) { s.Trap = impl.TpKey }},
		{"jump by what is sealed", impl.Ins{Op: impl.OpJump, R: 5, A: 1}, key24(3, 63, 3), allOf, func(s *impl.State) { s.Trap = impl.TpSeal }},
		{"jump without PmRun", impl.Ins{Op: impl.OpJump, R: 5, A: 1}, key24(3, 59, 0), allOf, func(s *impl.State) { s.Trap = impl.TpPerm }},
		{"jump out of its bounds", impl.Ins{Op: impl.OpJump, R: 5, A: 1}, key24(24, 63, 0), allOf, func(s *impl.State) { s.Trap = impl.TpBound }},
		{"gone of a number", impl.Ins{Op: impl.OpGone, A: 1}, impl.Plain(3), allOf, func(s *impl.State) { s.Trap = impl.TpKey }},
		{"gone of what is sealed", impl.Ins{Op: impl.OpGone, A: 1}, key24(3, 63, 3), allOf, func(s *impl.State) { s.Trap = impl.TpSeal }},
		{"gone without PmSeal", impl.Ins{Op: impl.OpGone, A: 1}, key24(3, 31, 0), allOf, func(s *impl.State) { s.Trap = impl.TpPerm }},
		{"gone out of its bounds", impl.Ins{Op: impl.OpGone, A: 1}, key24(24, 63, 0), allOf, func(s *impl.State) { s.Trap = impl.TpBound }},
		{"load by a number", impl.Ins{Op: impl.OpLoad, R: 5, A: 1, N: 7}, impl.Plain(3), allOf, func(s *impl.State) { s.Trap = impl.TpKey }},
		{"store by a number", impl.Ins{Op: impl.OpStore, A: 1, B: 2, N: 7}, impl.Plain(3), allOf, func(s *impl.State) { s.Trap = impl.TpKey }},
		{"store a key without PmPut", impl.Ins{Op: impl.OpStore, A: 1, B: 2, N: 7}, key24(3, 47, 0), sealer, func(s *impl.State) { s.Trap = impl.TpPerm }},
		{"halt", impl.Ins{Op: impl.OpHalt}, allOf, allOf, func(s *impl.State) { s.Trap = impl.TpStop }},
	} {
		s := stateWith(x.a, x.b)
		s.Pc = pc
		want := copyOfState(s)
		want.Pc.N = 6
		x.turn(&want)
		if want.Trap != impl.TpNone {
			want.Pc.N = 5
		}
		got := impl.Step(append(somePlaces(5), x.x), s)
		if !sameState(got, want) {
			t.Errorf("%s: %v, not %v", x.name, got, want)
		}
	}
}

// One register is read and set by the same step: what is read is what it had ahead of it.
func TestStepWhereRegistersAreTheSame(t *testing.T) {
	for op := 1; op <= 15; op++ {
		for r := range 8 {
			for _, w := range []impl.Word{{N: 0}, {N: 5}, key24(3, 63, 0), key24(0, 63, 0), key24(3, 63, 3), key24(6, 9, 0), pcAt(2), keyOf(65535, 0, 4096, 63)} {
				for _, n := range []int{-1, 0, 1, 7} {
					x := impl.Ins{Op: op}
					for _, field := range []string{"R", "A", "B"} {
						if names(op, field) {
							x = with(x, field, r)
						}
					}
					if names(op, "N") {
						x.N = n
					}
					s := stateWith(allOf, allOf)
					s.Regs[r] = w
					stepsTo(t, []impl.Ins{x}, s, stepByWords([]impl.Ins{x}, s))
				}
			}
		}
	}
	s := stateWith(impl.Plain(40000), key24(3, 63, 0))
	double := copyOfState(s)
	double.Regs[1], double.Pc.N = impl.Plain(14464), 1
	stepsTo(t, []impl.Ins{{Op: impl.OpAdd, R: 1, A: 1, B: 1}}, s, double)
	own := copyOfState(s)
	own.Mem.Words[4], own.Pc.N = key24(3, 63, 0), 1
	stepsTo(t, []impl.Ins{{Op: impl.OpStore, A: 2, B: 2, N: 1}}, s, own)
	over := copyOfState(s)
	over.Regs[2], over.Pc.N = keyOf(4, 4, 8, 63), 1
	stepsTo(t, []impl.Ins{{Op: impl.OpLoad, R: 2, A: 2, N: 1}}, s, over)
}

// A state with a Trap is as it was, whatever list and Pc would come to; list nil has no place.
func TestStepOfTrappedStates(t *testing.T) {
	for _, s := range rightStates() {
		for trap := 1; trap <= 5; trap++ {
			x := withTrap(s, trap)
			for _, list := range [][]impl.Ins{nil, {}, somePlaces(15), {{Op: impl.OpSet, R: 1, N: 1}}, slices.Repeat([]impl.Ins{{Op: impl.OpHalt}}, 48)} {
				stepsTo(t, list, x, x)
			}
		}
	}
	s := impl.StateNew()
	stepsTo(t, nil, s, withTrap(s, impl.TpBound))
	stepsTo(t, []impl.Ins{}, s, withTrap(s, impl.TpBound))
	stepsTo(t, []impl.Ins{{}}, s, withTrap(s, impl.TpBound))
}

func TestStepOfWrongStates(t *testing.T) {
	for _, s := range wrongStates() {
		for _, list := range [][]impl.Ins{nil, somePlaces(15), {{Op: impl.OpSet, R: 1, N: 1}}, {{Op: impl.OpHalt}}, {{}}} {
			for _, trap := range []int{s.Trap, 2} {
				x := s
				x.Trap = trap
				if stateByWords(x) {
					continue
				}
				if got := impl.Step(list, x); !isZeroState(got) {
					t.Fatalf("Step(%v, %v) = %v", list, x, got)
				}
			}
		}
	}
}

// A key is stored, what it begins with is gone, and what lay there is loaded as a number, while other keys are loaded as they are.
func TestWhatIsGoneIsLoadedAsANumber(t *testing.T) {
	list := []impl.Ins{
		{Op: impl.OpSet, R: 1, N: 4}, {Op: impl.OpPoint, R: 2, A: 0, B: 1}, {Op: impl.OpBound, R: 2, A: 2, B: 1}, // r2: from 4 to 8
		{Op: impl.OpStore, A: 0, B: 2, N: 20}, {Op: impl.OpStore, A: 0, B: 0, N: 21}, {Op: impl.OpLoad, R: 3, A: 0, N: 20},
		{Op: impl.OpGone, A: 2}, {Op: impl.OpLoad, R: 4, A: 0, N: 20}, {Op: impl.OpLoad, R: 5, A: 0, N: 21}, {Op: impl.OpLoad, R: 6, A: 2, N: 3},
		{Op: impl.OpStore, A: 0, B: 2, N: 22}, {Op: impl.OpLoad, R: 7, A: 0, N: 22}, {Op: impl.OpHalt},
	}
	s := impl.StateNew()
	first, key := s.Regs[0], keyOf(4, 4, 8, 59)
	for range list {
		s = impl.Step(list, s)
	}
	// what is gone is told where it is read: the register that has it, and the word that lies there, stay
	want := []impl.Word{first, impl.Plain(4), key, key, impl.Plain(4), first, impl.Plain(0), impl.Plain(4)}
	if !slices.Equal(s.Regs, want) || s.Mem.Words[20] != key || s.Mem.Words[21] != first || s.Mem.Words[22] != key || s.Trap != impl.TpStop || s.Pc.N != 12 {
		t.Error(s)
	}
	for at, gone := range s.Mem.Gone {
		if gone != (at == 4) {
			t.Error("gone", at, gone)
		}
	}
}

// picker picks numbers, the same row at each run.
func picker(turn int) func(of int) int {
	return func(of int) int {
		turn = (turn*1103515245 + 12345) % (1 << 31)
		return turn / 65536 % of
	}
}

// pickWord is a number or a key, mostly one that may do something.
func pickWord(pick func(of int) int) impl.Word {
	if pick(3) == 0 {
		return impl.Word{N: []int{pick(9), pick(64), pick(65536)}[pick(3)]}
	}
	base := pick(24)
	k := impl.Key{Base: base, Top: base + pick(30), Perms: 63}
	if pick(3) == 0 {
		k.Perms = pick(64)
	}
	if pick(5) == 0 {
		k.Seal = pick(8)
	}
	n := base + pick(6)
	if pick(4) == 0 {
		n = pick(65536)
	}
	return impl.Word{N: n, Is: true, Key: k}
}

func pickPlace(pick func(of int) int) impl.Ins {
	x := impl.Ins{Op: 1 + pick(15)}
	for _, field := range []string{"R", "A", "B"} {
		if names(x.Op, field) {
			x = with(x, field, pick(8))
		}
	}
	if names(x.Op, "N") {
		x.N = []int{pick(8), pick(24) - 12, pick(256) - 128}[pick(3)]
	}
	return x
}

func pickState(pick func(of int) int) impl.State {
	s := impl.State{Pc: pcAt(pick(12)), Mem: memoryOf(func(cell int) impl.Word { return pickWord(pick) })}
	if pick(9) == 0 {
		s.Pc = pickWord(pick)
	}
	for range 8 {
		s.Regs = append(s.Regs, pickWord(pick))
	}
	for range pick(4) {
		s.Mem.Gone[pick(24)] = true
	}
	return s
}

// turnedBetween counts registers, words of memory and addresses that are gone that are not as they were.
func turnedBetween(s, t impl.State) int {
	turned := 0
	for r := range s.Regs {
		if s.Regs[r] != t.Regs[r] {
			turned++
		}
	}
	for cell := range s.Mem.Words {
		if s.Mem.Words[cell] != t.Mem.Words[cell] {
			turned++
		}
		if s.Mem.Gone[cell] != t.Mem.Gone[cell] {
			turned++
		}
	}
	return turned
}

// oneThingAtMost holds a step against promise 9, its first half.
func oneThingAtMost(t *testing.T, list []impl.Ins, s, next impl.State) {
	t.Helper()
	turned := turnedBetween(s, next)
	if turned > 1 || next.Trap != impl.TpNone && (turned > 0 || next.Pc != s.Pc) || !impl.StateOk(next) {
		t.Fatalf("Step(%v, %v) = %v: %v things turned", list, s, next, turned)
	}
	for at, gone := range s.Mem.Gone {
		if gone && !next.Mem.Gone[at] {
			t.Fatalf("Step(%v, %v) = %v: %v is not gone any more", list, s, next, at)
		}
	}
}

// Promise 9, its first half, over places of every op and states of all kinds; each op turns something, and each that can traps.
func TestAStepTurnsOneThingAtMost(t *testing.T) {
	pick := picker(9)
	turns, traps := [16]int{}, [16]int{}
	for range 60000 {
		s := pickState(pick)
		list := make([]impl.Ins, 12)
		for i := range list {
			list[i] = pickPlace(pick)
		}
		next := impl.Step(list, s)
		if want := stepByWords(list, s); !sameState(next, want) {
			t.Fatalf("Step(%v, %v) = %v, not %v", list, s, next, want)
		}
		oneThingAtMost(t, list, s, next)
		if s.Pc.N >= len(list) || s.Pc.Key != runs {
			continue
		}
		if op := list[s.Pc.N].Op; next.Trap != impl.TpNone {
			traps[op]++
		} else if next.Pc.N != s.Pc.N+1 || turnedBetween(s, next) == 1 {
			turns[op]++
		}
	}
	for op := 1; op <= 15; op++ {
		if op != impl.OpHalt && turns[op] < 20 {
			t.Error("op", op, "turned something", turns[op], "times alone")
		}
		if slices.Contains([]int{impl.OpLoad, impl.OpStore, impl.OpJump, impl.OpGone, impl.OpHalt}, op) != (traps[op] > 20) {
			t.Error("op", op, "trapped", traps[op], "times")
		}
	}
}

// The same, of each place that there is, by op, with registers that have all kinds of words.
func TestStepOfEachPlace(t *testing.T) {
	states := rightStates()
	for i, x := range rightPlaces() {
		if i%7 != 0 {
			continue
		}
		s := states[i/7%len(states)]
		s.Trap, s.Pc = impl.TpNone, pcAt(0)
		list := []impl.Ins{x}
		next := impl.Step(list, s)
		if want := stepByWords(list, s); !sameState(next, want) {
			t.Fatalf("Step(%v, %v) = %v, not %v", list, s, next, want)
		}
		oneThingAtMost(t, list, s, next)
	}
}

// keysIn has all words of a state that are keys.
func keysIn(s impl.State) []impl.Word {
	words := append(slices.Concat(s.Regs, s.Mem.Words), s.Pc)
	return slices.DeleteFunc(words, func(w impl.Word) bool { return !w.Is })
}

// fewKeys is a state that has no more than a few keys: what is made of them may be told from what can't be.
func fewKeys(pick func(of int) int) impl.State {
	s := impl.StateNew()
	s.Pc = pcAt(0)
	for r := range 8 {
		s.Regs[r] = []impl.Word{impl.Plain(pick(9)), impl.Plain(pick(9)), impl.Plain(pick(64)), pickWord(pick)}[pick(4)]
	}
	s.Regs[0] = key24(pick(8), []int{59, 63, 35, 27, 31, 19}[pick(6)], 0)
	s.Mem.Words[pick(24)] = keyOf(pick(24), 0, 40, 63-pick(64))
	s.Mem.Words[pick(24)] = key24(pick(8), 63, pick(8))
	return s
}

// goOn is a state that goes on behind a trap, by the same keys, anywhere.
func goOn(s impl.State, at int) impl.State {
	next := copyOfState(s)
	next.Trap = impl.TpNone
	if next.Pc.Is && next.Pc.Key.Seal == 0 {
		next.Pc.N = at
	}
	return next
}

// Promise 9, its second half: behind each step of long rows each key is under one that was there at first, and half the row ago. Behind
// what traps the row goes on elsewhere, and every other row now and then, too, so that all ops have their turn.
func TestEachKeyIsUnderOneThatWas(t *testing.T) {
	pick := picker(29)
	made, done := map[impl.Key]bool{}, [16]int{}
	for row := range 120 {
		list := make([]impl.Ins, 40)
		for i := range list {
			list[i] = pickPlace(pick)
			if impl.Sets(list[i]) == 0 {
				list[i].R = 7 // one key stays, to make more of
			}
		}
		s := fewKeys(pick)
		first, half := keysIn(s), []impl.Word(nil)
		for step := range 400 {
			if step == 200 {
				half = keysIn(s)
			}
			next := impl.Step(list, s)
			oneThingAtMost(t, list, s, next)
			if next.Trap == impl.TpNone {
				done[list[s.Pc.N].Op]++
			}
			for _, w := range keysIn(next) {
				if !impl.Unders(w, first) || half != nil && !impl.Unders(w, half) || !impl.Unders(w, keysIn(s)) {
					t.Fatalf("%v is behind Step(%v, %v), and under none of %v", w, list, s, first)
				}
				made[w.Key] = true
			}
			s = next
			if s.Trap != impl.TpNone || row%2 == 0 && pick(12) == 0 {
				s = goOn(s, pick(40))
			}
		}
	}
	if len(made) < 300 || slices.Min(done[1:15]) < 100 {
		t.Error("little was done:", len(made), "keys, by op:", done)
	}
}

// A program that runs round and round, each op but OpHalt at the first round: its keys, and what they are under, are known.
func TestALongRowOfOneProgram(t *testing.T) {
	text := "set r1 6\npoint r2 r0 r1 0\nset r3 5\nbound r2 r2 r3\nseal r4 r2 r0\nstore r0 r4 8\nload r5 r0 8\nopen r6 r5 r0\nis r7 r6\nzero r7 5\n" +
		"set r7 9\nweak r6 r6 r7\nstore r0 r6 9\nload r1 r6 0\nadd r1 r1 r3\ngone r2\nload r7 r0 17\nmove r1 r7\njump r7 r1\n"
	list, ok := impl.CodeRead(text)
	if !ok {
		t.Fatal(text)
	}
	s := impl.StateNew()
	s.Regs[0].N, s.Mem.Words[20] = 3, s.Pc
	first := keysIn(s)
	// a round is of 19 places, and of 4 less once what begins at 9 is gone
	for step := range 19 + 15*130 {
		next := impl.Step(list, s)
		oneThingAtMost(t, list, s, next)
		if next.Trap != impl.TpNone || next.Mem.Gone[9] != (step >= 15) || next.Mem.Gone[0] {
			t.Fatal(step, next)
		}
		for _, w := range keysIn(next) {
			if !impl.Unders(w, first) {
				t.Fatal(step, w)
			}
		}
		s = next
	}
	back := func(n int) impl.Word { return impl.Word{N: n, Is: true, Key: impl.Key{Top: 48, Perms: 4}} }
	sealed := impl.Word{N: 9, Is: true, Key: impl.Key{Base: 9, Top: 14, Perms: 59, Seal: 3}}
	want := []impl.Word{key24(3, 59, 0), back(0), keyOf(9, 9, 14, 59), impl.Plain(5), sealed, impl.Plain(9), impl.Plain(9), back(19)}
	if !slices.Equal(s.Regs, want) || s.Pc != back(0) || s.Mem.Words[11] != sealed || s.Mem.Words[12] != keyOf(9, 9, 14, 9) {
		t.Error(s)
	}
}

// scribbleState writes over all lists of a state, and over the room behind them.
func scribbleState(s impl.State) {
	regs := s.Regs[:cap(s.Regs)]
	for i := range regs {
		regs[i] = impl.Word{N: -9 - i, Is: true, Key: impl.Key{Base: i, Top: -i, Perms: 77, Seal: 77}}
	}
	scribble(s.Mem)
}

// hall is a state and a list that are cut from longer ones.
type hall struct {
	mem              room
	regs, keptRegs   []impl.Word
	places, keptList []impl.Ins
	s                impl.State
	list             []impl.Ins
}

func hallFor(list []impl.Ins, s impl.State) hall {
	h := hall{mem: roomFor(s.Mem)}
	fill := []impl.Word{{N: 55}, {N: -55, Is: true, Key: impl.Key{Base: 4, Top: 3, Perms: 2, Seal: 1}}}
	more := []impl.Ins{{Op: impl.OpSet, R: 3, N: 3}, {Op: -3, R: 55}}
	h.regs, h.places = slices.Concat(fill, s.Regs, fill), slices.Concat(more, list, more)
	h.keptRegs, h.keptList = slices.Clone(h.regs), slices.Clone(h.places)
	h.s = impl.State{Regs: h.regs[2 : 2+len(s.Regs)], Pc: s.Pc, Mem: h.mem.m, Trap: s.Trap}
	h.list = h.places[2 : 2+len(list)]
	return h
}

func (h hall) isAsItWas() bool {
	return h.mem.isAsItWas() && slices.Equal(h.regs, h.keptRegs) && slices.Equal(h.places, h.keptList)
}

// stepCase is what a step is asked of.
type stepCase struct {
	list []impl.Ins
	s    impl.State
}

// stepCases has steps of all kinds: of each op, done and trapped, of states with a Trap, and of wrong ones.
func stepCases() []stepCase {
	var all []stepCase
	for op := 1; op <= 15; op++ {
		x := aPlace(op)
		for _, a := range []impl.Word{impl.Plain(0), key24(3, 63, 0), key24(3, 9, 0), key24(3, 63, 3), keyOf(3, 0, 4096, 63)} {
			s := stateWith(allOf, allOf)
			s.Regs[4] = a
			s.Mem.Gone[5] = true
			all = append(all, stepCase{[]impl.Ins{x}, s}, stepCase{nil, s}, stepCase{[]impl.Ins{x}, withTrap(s, 1+op%5)})
		}
	}
	for i, s := range append(rightStates(), wrongStates()...) {
		if i%3 == 0 {
			all = append(all, stepCase{somePlaces(15), s})
		}
	}
	return all
}

// Promise 29 and new memory: neither a state nor a list is written into, nor what is ahead of them or behind; what is written into an
// answer, or into what was given later on, is seen in no other answer.
func TestStepsShareNothing(t *testing.T) {
	for _, x := range stepCases() {
		h := hallFor(x.list, x.s)
		first := impl.Step(h.list, h.s)
		want := copyOfState(first)
		second := impl.Step(h.list, h.s)
		if !h.isAsItWas() || !sameState(second, want) {
			t.Fatalf("Step(%v, %v): an argument was written into, or it is not the same again", x.list, x.s)
		}
		scribbleState(first)
		if !h.isAsItWas() || !sameState(second, want) {
			t.Fatalf("Step(%v, %v): an answer shares memory", x.list, x.s)
		}
		third := impl.Step(h.list, h.s)
		scribble(impl.Memory{Words: h.mem.words, Gone: h.mem.gone})
		scribbleState(impl.State{Regs: h.regs})
		clear(h.places)
		if !sameState(second, want) || !sameState(third, want) {
			t.Fatalf("Step(%v, %v): an answer shares memory with its argument, or another one", x.list, x.s)
		}
	}
}

// liesApart tells whether registers and words of memory of one answer are two lists; it writes over both.
func liesApart(s impl.State) bool {
	kept := copyOfState(s)
	scribbleState(impl.State{Regs: s.Regs})
	apart := sameMemory(s.Mem, kept.Mem)
	scribble(s.Mem)
	for i, w := range s.Regs {
		apart = apart && w.N == -9-i
	}
	return apart
}

func TestTheListsOfAStateShareNothing(t *testing.T) {
	for _, x := range append(stepCases(), stepCase{somePlaces(15), impl.StateNew()}) {
		if !liesApart(impl.Step(x.list, x.s)) || !liesApart(impl.StateNew()) {
			t.Fatal("registers lie in memory, or memory in registers:", x)
		}
	}
}

// What is only asked of turns nothing.
func TestWhatAsksOfStatesLeavesThemAsTheyWere(t *testing.T) {
	for _, x := range stepCases() {
		h := hallFor(x.list, x.s)
		ok := impl.StateOk(h.s)
		place, trap := impl.Fetch(h.list, h.s.Pc)
		impl.Fetch(h.list, pcAt(0))
		impl.Fetch(h.list, impl.Word{N: len(h.list), Is: true, Key: impl.Root()})
		if again, same := impl.Fetch(h.list, h.s.Pc); again != place || same != trap || impl.StateOk(h.s) != ok || ok != stateByWords(x.s) || !h.isAsItWas() {
			t.Fatal("turned", x)
		}
	}
}

// Nothing is kept: what was asked ahead of a call does not turn its answer.
func TestStepsKeepNothing(t *testing.T) {
	cases := stepCases()
	var answers []impl.State
	for _, x := range cases {
		answers = append(answers, impl.Step(x.list, x.s))
	}
	words := workWords()
	for i := len(cases) - 1; i >= 0; i-- {
		impl.Work(aPlace(1+i%15), words[i%len(words)], allOf, allOf, allOf)
		if got := impl.Step(cases[i].list, cases[i].s); !sameState(got, answers[i]) {
			t.Fatalf("Step of %v: %v, then %v", cases[i], answers[i], got)
		}
		if !sameState(answers[i], stepByWords(cases[i].list, cases[i].s)) {
			t.Fatalf("Step of %v: %v", cases[i], answers[i])
		}
	}
}

// Promise 29: whatever they are given, they answer.
func TestStepsAnswerAtAnyArguments(t *testing.T) {
	for i, n := range edgeNumbers {
		for j, m := range edgeNumbers {
			w := impl.Word{N: n, Is: (i+j)%3 > 0, Key: impl.Key{Base: m, Top: n, Perms: m, Seal: n}}
			x := impl.Ins{Op: []int{n, 1 + (i+j)%15}[i%2], R: m, A: n, B: m, N: n}
			if e, want := impl.Work(x, w, w, w, w), effectByWords(x, w, w, w, w); e != want {
				t.Fatalf("Work(%v, %v, ..) = %v, not %v", x, w, e, want)
			}
			if place, trap := impl.Fetch([]impl.Ins{x, x}, w); place != (impl.Ins{}) || trap < impl.TpKey || trap > impl.TpBound {
				t.Fatal(place, trap)
			}
			s := impl.State{Regs: slices.Repeat([]impl.Word{w}, (i+j)%10), Pc: w, Mem: impl.Memory{Words: slices.Repeat([]impl.Word{w}, 24), Gone: make([]bool, 24)}, Trap: n}
			if !stateByWords(s) && (impl.StateOk(s) || !isZeroState(impl.Step([]impl.Ins{x}, s))) {
				t.Fatal(s)
			}
		}
	}
}
