package tests

import (
	"math"
	"slices"
	"strings"
	"testing"

	"loop.example/g00249/impl"
)

// What each op names, by its number, as the chapter's list has it.
var namedBy = [16]string{
	impl.OpSet: "RN", impl.OpAdd: "RAB", impl.OpMove: "RA", impl.OpWeak: "RAB", impl.OpBound: "RAB",
	impl.OpPoint: "RABN", impl.OpSeal: "RAB", impl.OpOpen: "RAB", impl.OpIs: "RA", impl.OpLoad: "RAN",
	impl.OpStore: "ABN", impl.OpJump: "RA", impl.OpZero: "AN", impl.OpGone: "A", impl.OpHalt: "",
}

var noOps = []int{math.MinInt, math.MinInt + 1, math.MinInt32, -65536, -16, -15, -14, -1, 0, 16, 17, 31, 32, 64 + 15, 1<<32 + 1, 1 << 60, math.MaxInt - 1, math.MaxInt}

var noRegisters = []int{math.MinInt, math.MinInt + 1, math.MinInt + 7, math.MinInt32, -16, -8, -7, -1, 8, 9, 15, 16, 1 << 32, 1<<32 + 3, 1 << 60, math.MaxInt - 1, math.MaxInt}

var noNs = []int{math.MinInt, math.MinInt + 1, math.MinInt + 128, math.MinInt32, -384, -256, -130, -129, 128, 129, 255, 256, 1 << 32, 1<<32 - 128, 1 << 51, math.MaxInt - 127, math.MaxInt - 1, math.MaxInt}

// names tells whether an op (any number) names that field.
func names(op int, field string) bool {
	return op >= 1 && op <= 15 && strings.Contains(namedBy[op], field)
}

// fieldWithin tells whether v may stand in that field: 0 alone, where the op does not name it.
func fieldWithin(op int, field string, v int) bool {
	if !names(op, field) {
		return v == 0
	}
	if field == "N" {
		return v >= -128 && v <= 127
	}
	return v >= 0 && v <= 7
}

// okByWords is what the chapter says of any Ins.
func okByWords(x impl.Ins) bool {
	if x.Op < 1 || x.Op > 15 {
		return false
	}
	return fieldWithin(x.Op, "R", x.R) && fieldWithin(x.Op, "A", x.A) && fieldWithin(x.Op, "B", x.B) && fieldWithin(x.Op, "N", x.N)
}

// wordByWords is the word of an Ins that is one.
func wordByWords(x impl.Ins) int {
	return x.Op + 16*x.R + 128*x.A + 1024*x.B + 8192*(x.N+128)
}

// setsByWords asks for the op alone, as the chapter does.
func setsByWords(x impl.Ins) int {
	if names(x.Op, "R") {
		return x.R
	}
	return -1
}

// within has all that may stand in a field.
func within(op int, field string) []int {
	all := []int{}
	for v := -128; v <= 127; v++ {
		if fieldWithin(op, field, v) {
			all = append(all, v)
		}
	}
	return all
}

// rightPlaces has every Ins that is one.
func rightPlaces() []impl.Ins {
	var all []impl.Ins
	for op := 1; op <= 15; op++ {
		for _, r := range within(op, "R") {
			for _, a := range within(op, "A") {
				for _, b := range within(op, "B") {
					for _, n := range within(op, "N") {
						all = append(all, impl.Ins{Op: op, R: r, A: a, B: b, N: n})
					}
				}
			}
		}
	}
	return all
}

// aPlace is of that op, with something other than 0 in each field that it names.
func aPlace(op int) impl.Ins {
	x := impl.Ins{Op: op}
	for i, field := range []string{"R", "A", "B", "N"} {
		if names(op, field) {
			*fieldOf(&x, field) = 3 + i
		}
	}
	return x
}

func fieldOf(x *impl.Ins, field string) *int {
	return map[string]*int{"Op": &x.Op, "R": &x.R, "A": &x.A, "B": &x.B, "N": &x.N}[field]
}

// with is x with v in one field.
func with(x impl.Ins, field string, v int) impl.Ins {
	*fieldOf(&x, field) = v
	return x
}

// wrongPlaces has, of each op and of what is no op, Ins that are wrong in one thing and in several.
func wrongPlaces() []impl.Ins {
	var wrong []impl.Ins
	for op := 1; op <= 15; op++ {
		x := aPlace(op)
		for _, field := range []string{"R", "A", "B", "N"} {
			out := noRegisters
			if field == "N" {
				out = noNs
			}
			for _, v := range out {
				wrong = append(wrong, with(x, field, v), with(impl.Ins{Op: op}, field, v), impl.Ins{Op: op, R: v, A: v, B: v, N: v})
			}
			if !names(op, field) {
				for _, v := range []int{-128, -1, 1, 2, 7, 127} {
					wrong = append(wrong, with(x, field, v))
				}
			}
		}
	}
	for _, op := range noOps {
		wrong = append(wrong, impl.Ins{Op: op}, impl.Ins{Op: op, R: 1}, impl.Ins{Op: op, R: 7, A: 7, B: 7, N: 127}, impl.Ins{Op: op, N: -128}, impl.Ins{Op: op, R: op, A: op, B: op, N: op})
	}
	return wrong
}

func TestOpsAreAsNumbered(t *testing.T) {
	got := []int{impl.OpSet, impl.OpAdd, impl.OpMove, impl.OpWeak, impl.OpBound, impl.OpPoint, impl.OpSeal, impl.OpOpen, impl.OpIs, impl.OpLoad, impl.OpStore, impl.OpJump, impl.OpZero, impl.OpGone, impl.OpHalt}
	if !slices.Equal(got, []int{1, 2, 3, 4, 5, 6, 7, 8, 9, 10, 11, 12, 13, 14, 15}) || impl.MaxCode != 48 {
		t.Error(got, impl.MaxCode)
	}
}

// Promise 6: every place, there and back; and no two have one word.
func TestAPlaceIsReadFromItsWordAsItWas(t *testing.T) {
	byWord := map[int]impl.Ins{}
	for _, x := range rightPlaces() {
		if !impl.InsOk(x) {
			t.Fatal("not InsOk", x)
		}
		n, ok := impl.Word32(x)
		if want := wordByWords(x); !ok || n != want {
			t.Fatalf("Word32(%v) = %v, %v, not %v", x, n, ok, want)
		}
		if y, same := byWord[n]; same {
			t.Fatal(x, "and", y, "have one word", n)
		}
		byWord[n] = x
		if y, ok := impl.InsOf(n); !ok || y != x {
			t.Fatalf("InsOf(%v) = %v, %v, not %v", n, y, ok, x)
		}
	}
	// 8*256 of set, zero; 64*256 of load, store; 512*256 of point; 512 each of five; 64 each of three; 8 of gone; halt
	if want := 2*2048 + 2*16384 + 131072 + 5*512 + 3*64 + 8 + 1; len(byWord) != want {
		t.Error(len(byWord), "places, not", want)
	}
}

// Of all numbers about the words those that are a place's word are read, and no others.
func TestInsOfOfAllNumbers(t *testing.T) {
	byWord := map[int]impl.Ins{}
	for _, x := range rightPlaces() {
		byWord[wordByWords(x)] = x
	}
	for n := -(1 << 21); n < 1<<22; n++ {
		want, is := byWord[n]
		if got, ok := impl.InsOf(n); got != want || ok != is {
			t.Fatalf("InsOf(%v) = %v, %v, not %v, %v", n, got, ok, want, is)
		}
	}
}

func TestInsOfOfWhatIsNoWord(t *testing.T) {
	halt, ok := impl.Word32(impl.Ins{Op: impl.OpHalt})
	if !ok || halt != 15+8192*128 {
		t.Fatal(halt, ok)
	}
	point, _ := impl.Word32(impl.Ins{Op: impl.OpPoint, R: 7, A: 7, B: 7, N: 127})
	numbers := []int{
		0, -1, -15, -16, -128, -8192, -halt, -point, halt + 16, halt + 128, halt + 1024, halt + 8192, halt - 8192, halt + 1,
		15, 16, 8192 * 128, point + 8192, point + 1<<21, halt + 1<<21, halt + 1<<32, point + 1<<32, halt - 1<<21, halt - 1<<32,
		1<<21 - 1, 1 << 21, 1<<21 + 6, math.MaxInt32, math.MinInt32,
		math.MaxInt, math.MaxInt - 1, math.MaxInt - 15, math.MinInt, math.MinInt + 1, math.MinInt + halt, math.MinInt + point,
	}
	for bit := 21; bit < 63; bit++ {
		numbers = append(numbers, 1<<bit, 1<<bit+halt, 1<<bit+point, -(1 << bit), halt-1<<bit, point-1<<bit)
	}
	for _, n := range numbers {
		if got, ok := impl.InsOf(n); ok || got != (impl.Ins{}) {
			t.Errorf("InsOf(%v) = %v, %v", n, got, ok)
		}
	}
}

// A right word, and one field more that its op does not name.
func TestInsOfOfAWordWithOneFieldMore(t *testing.T) {
	units := map[string]int{"R": 16, "A": 128, "B": 1024, "N": 8192}
	for op := 1; op <= 15; op++ {
		n, ok := impl.Word32(aPlace(op))
		if !ok {
			t.Fatal("Word32 of", aPlace(op))
		}
		for field, unit := range units {
			if names(op, field) {
				continue
			}
			for more := 1; more <= 7; more++ {
				if got, ok := impl.InsOf(n + more*unit); ok || got != (impl.Ins{}) {
					t.Errorf("op %v with %v %v more: InsOf is %v, %v", op, more, field, got, ok)
				}
			}
			// N stands 128 higher in the word, so that there is something below it, too
			if got, ok := impl.InsOf(n - unit); field == "N" && (ok || got != (impl.Ins{})) {
				t.Errorf("op %v with N -1: InsOf is %v, %v", op, got, ok)
			}
		}
	}
}

// Each op with each field at all edges, in all ways together: four questions, as the chapter's words answer them.
func TestEachOpAtAllEdges(t *testing.T) {
	registers := []int{math.MinInt, -1, 0, 1, 6, 7, 8, math.MaxInt}
	ns := []int{math.MinInt, -129, -128, -127, -1, 0, 1, 126, 127, 128, math.MaxInt}
	ops := append([]int{1, 2, 3, 4, 5, 6, 7, 8, 9, 10, 11, 12, 13, 14, 15}, noOps...)
	for _, op := range ops {
		for _, r := range registers {
			for _, a := range registers {
				for _, b := range registers {
					for _, n := range ns {
						askOf(t, impl.Ins{Op: op, R: r, A: a, B: b, N: n})
					}
				}
			}
		}
	}
}

// askOf asks all that is asked of one Ins.
func askOf(t *testing.T, x impl.Ins) {
	t.Helper()
	want := okByWords(x)
	if got := impl.InsOk(x); got != want {
		t.Fatalf("InsOk(%v) = %v", x, got)
	}
	if got := impl.CodeOk([]impl.Ins{x}); got != want {
		t.Fatalf("CodeOk of %v alone = %v", x, got)
	}
	if got := impl.Sets(x); got != setsByWords(x) {
		t.Fatalf("Sets(%v) = %v", x, got)
	}
	word := 0
	if want {
		word = wordByWords(x)
	}
	if got, ok := impl.Word32(x); got != word || ok != want {
		t.Fatalf("Word32(%v) = %v, %v", x, got, ok)
	}
}

func TestWrongPlaces(t *testing.T) {
	for _, x := range wrongPlaces() {
		if okByWords(x) {
			t.Fatal("right after all:", x)
		}
		askOf(t, x)
	}
}

// For each op each field that the list does not name, at something other than 0.
func TestFieldsThatAreNotNamed(t *testing.T) {
	asked := 0
	for op := 1; op <= 15; op++ {
		for _, field := range []string{"R", "A", "B", "N"} {
			if names(op, field) {
				continue
			}
			for v := -130; v <= 130; v++ {
				asked++
				for _, x := range []impl.Ins{aPlace(op), {Op: op}} {
					x = with(x, field, v)
					n, ok := impl.Word32(x)
					if impl.InsOk(x) != (v == 0) || ok != (v == 0) || v != 0 && n != 0 {
						t.Fatalf("%v, with %v in %v: InsOk %v, Word32 %v, %v", x, v, field, impl.InsOk(x), n, ok)
					}
				}
			}
		}
	}
	// the list names 36 of the 15 times 4
	if asked != 24*261 {
		t.Error(asked/261, "fields are not named")
	}
}

func TestInsOkOfSome(t *testing.T) {
	for _, x := range []struct {
		name string
		x    impl.Ins
		want bool
		word int
	}{
		{"zero", impl.Ins{}, false, 0},
		{"set r0 0", impl.Ins{Op: 1}, true, 1 + 1048576},
		{"set r7 -128", impl.Ins{Op: 1, R: 7, N: -128}, true, 1 + 112},
		{"set r7 127", impl.Ins{Op: 1, R: 7, N: 127}, true, 1 + 112 + 2088960},
		{"set with A", impl.Ins{Op: 1, A: 1}, false, 0},
		{"set with B", impl.Ins{Op: 1, B: 1}, false, 0},
		{"set r8", impl.Ins{Op: 1, R: 8}, false, 0},
		{"set below r0", impl.Ins{Op: 1, R: -1}, false, 0},
		{"set 128", impl.Ins{Op: 1, N: 128}, false, 0},
		{"set -129", impl.Ins{Op: 1, N: -129}, false, 0},
		{"add", impl.Ins{Op: 2, R: 1, A: 2, B: 3}, true, 2 + 16 + 256 + 3072 + 1048576},
		{"add with N", impl.Ins{Op: 2, R: 1, A: 2, B: 3, N: -1}, false, 0},
		{"move with B", impl.Ins{Op: 3, B: 1}, false, 0},
		{"weak", impl.Ins{Op: 4, B: 7}, true, 4 + 7168 + 1048576},
		{"bound", impl.Ins{Op: 5, B: 7}, true, 5 + 7168 + 1048576},
		{"point", impl.Ins{Op: 6, R: 7, A: 7, B: 7, N: 127}, true, 2097142},
		{"seal", impl.Ins{Op: 7, A: 7, B: 7}, true, 7 + 896 + 7168 + 1048576},
		{"open with N", impl.Ins{Op: 8, A: 7, B: 7, N: 1}, false, 0},
		{"is", impl.Ins{Op: 9, R: 1, A: 1}, true, 9 + 16 + 128 + 1048576},
		{"load", impl.Ins{Op: 10, R: 1, A: 1, N: -1}, true, 10 + 16 + 128 + 1040384},
		{"load with B", impl.Ins{Op: 10, R: 1, A: 1, B: 1}, false, 0},
		{"store", impl.Ins{Op: 11, A: 1, B: 1, N: -128}, true, 11 + 128 + 1024},
		{"store with R", impl.Ins{Op: 11, R: 1, A: 1}, false, 0},
		{"jump", impl.Ins{Op: 12, R: 1, A: 1}, true, 12 + 16 + 128 + 1048576},
		{"jump with N", impl.Ins{Op: 12, N: 1}, false, 0},
		{"zero back", impl.Ins{Op: 13, A: 1, N: -2}, true, 13 + 128 + 1032192},
		{"zero with R", impl.Ins{Op: 13, R: 1}, false, 0},
		{"gone", impl.Ins{Op: 14, A: 7}, true, 14 + 896 + 1048576},
		{"gone with B", impl.Ins{Op: 14, B: 7}, false, 0},
		{"halt", impl.Ins{Op: 15}, true, 15 + 1048576},
		{"halt with R", impl.Ins{Op: 15, R: 1}, false, 0},
		{"halt with N", impl.Ins{Op: 15, N: 1}, false, 0},
		{"past halt", impl.Ins{Op: 16}, false, 0},
		{"op below 0", impl.Ins{Op: -1}, false, 0},
		{"sixteen R are one round of an int", impl.Ins{Op: 1, R: 1 << 60}, false, 0},
	} {
		n, ok := impl.Word32(x.x)
		if impl.InsOk(x.x) != x.want || ok != x.want || n != x.word {
			t.Errorf("%s: InsOk is %v, Word32 %v, %v", x.name, impl.InsOk(x.x), n, ok)
		}
	}
}

// somePlaces has so many places, of all ops one after the other.
func somePlaces(length int) []impl.Ins {
	list := make([]impl.Ins, length)
	for i := range list {
		list[i] = aPlace(i%15 + 1)
	}
	return list
}

func TestCodeOkOfAllLengths(t *testing.T) {
	if impl.CodeOk(nil) || impl.CodeOk([]impl.Ins{}) {
		t.Error("a program of no place")
	}
	for length := 1; length <= 200; length++ {
		list := somePlaces(length)
		if got := impl.CodeOk(list); got != (length <= 48) {
			t.Errorf("CodeOk of %v places is %v", length, got)
		}
		// what stands behind the list is no part of it
		if got := impl.CodeOk(append(list, impl.Ins{})[:length]); got != (length <= 48) {
			t.Errorf("CodeOk of %v places ahead of a wrong one is %v", length, got)
		}
	}
}

func TestCodeOkOfOneWrongPlace(t *testing.T) {
	wrong := wrongPlaces()
	for _, length := range []int{1, 2, 3, 47, 48} {
		list := somePlaces(length)
		for at, right := range list {
			for _, x := range wrong {
				list[at] = x
				if impl.CodeOk(list) {
					t.Fatalf("CodeOk of %v places with %v at %v", length, x, at)
				}
			}
			list[at] = right
			if !impl.CodeOk(list) {
				t.Fatal("not CodeOk", list)
			}
		}
	}
}

// Promise 29: the list and the room behind it are as they were, whatever is answered.
func TestCodeOkLeavesTheListAsItWas(t *testing.T) {
	for _, length := range []int{0, 1, 2, 47, 48, 49, 60} {
		for _, last := range []impl.Ins{{Op: impl.OpHalt}, {Op: impl.OpHalt, N: 1}, {}, {Op: 99, R: -5, A: 9, B: 9, N: 999}} {
			room := somePlaces(length)
			for i := range 5 {
				room = append(room, impl.Ins{Op: i, R: i, A: -i, B: 1000 + i, N: i - 200})
			}
			if length > 0 {
				room[length-1] = last
			}
			before := slices.Clone(room)
			first := impl.CodeOk(room[:length])
			if again := impl.CodeOk(room[:length]); again != first || !slices.Equal(room, before) {
				t.Errorf("%v places that end with %v: %v, then %v", length, last, first, again)
			}
		}
	}
}

func TestSetsOfAllRightPlaces(t *testing.T) {
	for _, x := range rightPlaces() {
		if got := impl.Sets(x); got != setsByWords(x) {
			t.Fatalf("Sets(%v) = %v", x, got)
		}
	}
}

func TestSetsOfEachOp(t *testing.T) {
	want := [16]int{-1, 7, 7, 7, 7, 7, 7, 7, 7, 7, 7, -1, 7, -1, -1, -1}
	for op := range want {
		x := impl.Ins{Op: op}
		if want[op] == 7 {
			if got := impl.Sets(x); got != 0 {
				t.Errorf("Sets of op %v with R 0 is %v", op, got)
			}
			x.R = 7
		}
		if got := impl.Sets(x); got != want[op] {
			t.Errorf("Sets of op %v is %v", op, got)
		}
	}
}

// Whether there is an R is told by the op, in the list: of what is not InsOk just so.
func TestSetsOfWhatIsNotInsOk(t *testing.T) {
	for _, x := range []struct {
		name string
		x    impl.Ins
		want int
	}{
		{"no op", impl.Ins{R: 3}, -1},
		{"past the ops", impl.Ins{Op: 16, R: 3}, -1},
		{"below the ops", impl.Ins{Op: -1, R: 3}, -1},
		{"goes round to an op", impl.Ins{Op: 1<<32 + 1, R: 3}, -1},
		{"set with a field more", impl.Ins{Op: impl.OpSet, R: 3, A: 1}, 3},
		{"set with an N too great", impl.Ins{Op: impl.OpSet, R: 3, N: 128}, 3},
		{"set with an R too great", impl.Ins{Op: impl.OpSet, R: 8}, 8},
		{"set with an R below 0", impl.Ins{Op: impl.OpSet, R: -5}, -5},
		{"load with a field more", impl.Ins{Op: impl.OpLoad, R: 3, B: 1}, 3},
		{"jump with a field more", impl.Ins{Op: impl.OpJump, R: 3, N: 1}, 3},
		{"store with an R", impl.Ins{Op: impl.OpStore, R: 3}, -1},
		{"zero with an R", impl.Ins{Op: impl.OpZero, R: 3}, -1},
		{"gone with an R", impl.Ins{Op: impl.OpGone, R: 3}, -1},
		{"halt with an R", impl.Ins{Op: impl.OpHalt, R: 3}, -1},
	} {
		if got := impl.Sets(x.x); got != x.want {
			t.Errorf("%s: Sets(%v) = %v, not %v", x.name, x.x, got, x.want)
		}
	}
}
