package tests

import (
	"fmt"
	"slices"
	"strings"
	"testing"

	"loop.example/g00249/impl"
)

// The names of the ops, by number.
var opWords = [16]string{"", "set", "add", "move", "weak", "bound", "point", "seal", "open", "is", "load", "store", "jump", "zero", "gone", "halt"}

// textByWords is the text that the chapter gives an Ins that is one.
func textByWords(x impl.Ins) string {
	text := opWords[x.Op]
	for _, field := range []string{"R", "A", "B", "N"} {
		if !names(x.Op, field) {
			continue
		}
		sign := "r"
		if field == "N" {
			sign = ""
		}
		text += fmt.Sprintf(" %s%d", sign, *fieldOf(&x, field))
	}
	return text
}

// linesOfAll has every line that is the text of an Ins, and of which.
func linesOfAll() map[string]impl.Ins {
	all := map[string]impl.Ins{}
	for _, x := range rightPlaces() {
		all[textByWords(x)] = x
	}
	return all
}

// readsAs asks InsRead, and CodeRead of that line alone, and holds both against what all has of it.
func readsAs(t *testing.T, all map[string]impl.Ins, line string) {
	t.Helper()
	want, is := all[line]
	if got, ok := impl.InsRead(line); got != want || ok != is {
		t.Fatalf("InsRead(%q) = %v, %v, not %v, %v", line, got, ok, want, is)
	}
	if strings.Contains(line, "\n") {
		return
	}
	list, ok := impl.CodeRead(line + "\n")
	if ok != is || is && (len(list) != 1 || list[0] != want) || !is && len(list) != 0 {
		t.Fatalf("CodeRead of %q and a byte 10 is %v, %v", line, list, ok)
	}
}

// isNoLine asks for zero and false.
func isNoLine(t *testing.T, line string) {
	t.Helper()
	if got, ok := impl.InsRead(line); ok || got != (impl.Ins{}) {
		t.Errorf("InsRead(%.60q) = %v, %v", line, got, ok)
	}
}

// isNoCode asks for nothing and false.
func isNoCode(t *testing.T, s string) {
	t.Helper()
	if got, ok := impl.CodeRead(s); ok || len(got) != 0 {
		t.Errorf("CodeRead(%.60q) = %v, %v", s, got, ok)
	}
}

// Promise 7: every place, there and back; and no two have one text.
func TestAPlaceIsReadFromItsTextAsItWas(t *testing.T) {
	byText := map[string]impl.Ins{}
	for _, x := range rightPlaces() {
		text := impl.InsText(x)
		if want := textByWords(x); text != want {
			t.Fatalf("InsText(%v) = %q, not %q", x, text, want)
		}
		if y, same := byText[text]; same {
			t.Fatal(x, "and", y, "have one text", text)
		}
		byText[text] = x
		if y, ok := impl.InsRead(text); !ok || y != x {
			t.Fatalf("InsRead(%q) = %v, %v, not %v", text, y, ok, x)
		}
	}
	if want := 2*2048 + 2*16384 + 131072 + 5*512 + 3*64 + 8 + 1; len(byText) != want {
		t.Error(len(byText), "texts, not", want)
	}
}

// Every op at the edges of what it has, with its text written out.
func TestTextOfEachOp(t *testing.T) {
	for _, x := range []struct {
		x    impl.Ins
		text string
	}{
		{impl.Ins{Op: impl.OpSet}, "set r0 0"},
		{impl.Ins{Op: impl.OpSet, R: 7, N: 127}, "set r7 127"},
		{impl.Ins{Op: impl.OpSet, R: 7, N: -128}, "set r7 -128"},
		{impl.Ins{Op: impl.OpSet, N: -1}, "set r0 -1"},
		{impl.Ins{Op: impl.OpSet, N: 1}, "set r0 1"},
		{impl.Ins{Op: impl.OpSet, R: 1, N: 10}, "set r1 10"},
		{impl.Ins{Op: impl.OpSet, R: 1, N: -100}, "set r1 -100"},
		{impl.Ins{Op: impl.OpAdd}, "add r0 r0 r0"},
		{impl.Ins{Op: impl.OpAdd, R: 1, A: 2, B: 3}, "add r1 r2 r3"},
		{impl.Ins{Op: impl.OpMove, R: 1, A: 2}, "move r1 r2"},
		{impl.Ins{Op: impl.OpMove, R: 7}, "move r7 r0"},
		{impl.Ins{Op: impl.OpWeak, R: 1, A: 2, B: 3}, "weak r1 r2 r3"},
		{impl.Ins{Op: impl.OpBound, R: 1, A: 2, B: 3}, "bound r1 r2 r3"},
		{impl.Ins{Op: impl.OpPoint}, "point r0 r0 r0 0"},
		{impl.Ins{Op: impl.OpPoint, R: 1, A: 2, B: 3, N: 4}, "point r1 r2 r3 4"},
		{impl.Ins{Op: impl.OpPoint, R: 7, A: 7, B: 7, N: -128}, "point r7 r7 r7 -128"},
		{impl.Ins{Op: impl.OpSeal, R: 1, A: 2, B: 3}, "seal r1 r2 r3"},
		{impl.Ins{Op: impl.OpOpen, R: 1, A: 2, B: 3}, "open r1 r2 r3"},
		{impl.Ins{Op: impl.OpIs, R: 1, A: 2}, "is r1 r2"},
		{impl.Ins{Op: impl.OpLoad, R: 1, A: 2, N: -3}, "load r1 r2 -3"},
		{impl.Ins{Op: impl.OpStore, A: 1, B: 2, N: -3}, "store r1 r2 -3"},
		{impl.Ins{Op: impl.OpStore, A: 0, B: 7, N: 127}, "store r0 r7 127"},
		{impl.Ins{Op: impl.OpJump, R: 1, A: 2}, "jump r1 r2"},
		{impl.Ins{Op: impl.OpZero, A: 1, N: -2}, "zero r1 -2"},
		{impl.Ins{Op: impl.OpGone, A: 7}, "gone r7"},
		{impl.Ins{Op: impl.OpHalt}, "halt"},
	} {
		if got := impl.InsText(x.x); got != x.text {
			t.Errorf("InsText(%v) = %q, not %q", x.x, got, x.text)
		}
		if got, ok := impl.InsRead(x.text); !ok || got != x.x {
			t.Errorf("InsRead(%q) = %v, %v, not %v", x.text, got, ok, x.x)
		}
	}
}

func TestInsTextOfWhatIsNotInsOk(t *testing.T) {
	for _, x := range append(wrongPlaces(), impl.Ins{}) {
		if got := impl.InsText(x); got != "" {
			t.Fatalf("InsText(%v) = %q", x, got)
		}
	}
}

// Numbers that are not written so, in each place of a line where a number or a register may stand.
func TestNumbersThatAreNone(t *testing.T) {
	numbers := []string{
		"", "00", "000", "01", "007", "0127", "-0", "-00", "-01", "-007", "-0128", "+0", "+1", "+127", "-", "--1", "-+1", "+-1", "+",
		"128", "129", "-129", "-130", "255", "256", "999", "1000", "-1000", "65536", "4294967296", "4294967297", "-4294967297",
		"9223372036854775807", "9223372036854775808", "-9223372036854775808", "-9223372036854775809",
		"18446744073709551616", "18446744073709551617", "18446744073709551743", "340282366920938463463374607431768211457",
		strings.Repeat("1", 400), strings.Repeat("0", 400), "-" + strings.Repeat("9", 400), strings.Repeat("0", 400) + "1",
		"r1", "a", "x1", "0x1", "0b1", "0o1", "1_0", "1e0", "1.", "1.0", ".1", "1,", "1-", "1r", "-r1", "\u22121", "\u0661", "\uff11", "\u00b2",
	}
	for _, n := range numbers {
		for _, line := range []string{"set r1 ", "load r1 r2 ", "store r1 r2 ", "zero r1 ", "point r1 r2 r3 "} {
			isNoLine(t, line+n)
		}
	}
}

func TestRegistersThatAreNone(t *testing.T) {
	registers := []string{
		"", "r", "R", "R0", "R7", "r8", "r9", "r10", "r17", "r64", "r00", "r07", "r000", "r-1", "r-0", "r+0", "r+1", "rr0", "rr", "r0r", "r0.", "r0x0",
		"0", "1", "7", "-1", "a0", "x1", "r4294967296", "r18446744073709551616", "r" + strings.Repeat("0", 400), "r" + strings.Repeat("7", 400),
		"0r", "r\u0661", "r\uff10", "\uff520", "r_0", "r0_", "r 0", "r\x000", "\x00r0", "r0\x00",
	}
	for _, r := range registers {
		for _, line := range []string{
			"set %s 1", "add %s r1 r2", "add r1 %s r2", "add r1 r2 %s", "move %s r1", "move r1 %s", "point %s r1 r2 1", "point r1 %s r2 1", "point r1 r2 %s 1",
			"load %s r1 1", "load r1 %s 1", "store %s r1 1", "store r1 %s 1", "zero %s 1", "gone %s", "jump %s r1", "jump r1 %s", "is %s r1", "is r1 %s",
			"weak r1 r2 %s", "bound r1 r2 %s", "seal r1 r2 %s", "open r1 r2 %s",
		} {
			isNoLine(t, fmt.Sprintf(line, r))
		}
	}
}

func TestNamesThatAreNone(t *testing.T) {
	for op := 1; op <= 15; op++ {
		text := textByWords(aPlace(op))
		name, rest := opWords[op], strings.TrimPrefix(text, opWords[op])
		title := strings.ToUpper(name[:1]) + name[1:]
		for _, wrong := range []string{
			"", strings.ToUpper(name), title, "Op" + title, "op" + name, "Op" + name, "op" + title, "OP" + strings.ToUpper(name), name[:len(name)-1], name[1:], name + "s", name + name, name + "\x00", "\x00" + name,
			"-" + name, name + "-", name + ":", name + ",", fmt.Sprint(op), "r" + name, "\u0131" + name, "nop", "none", "op", "r0", "0",
		} {
			isNoLine(t, wrong+rest)
		}
	}
}

// Each op with a field too few, a field too many, and its fields in another order.
func TestFieldsTooFewTooManyAndOtherwise(t *testing.T) {
	all := linesOfAll()
	for op := 1; op <= 15; op++ {
		parts := strings.Split(textByWords(aPlace(op)), " ")
		for fewer := range len(parts) {
			isNoLine(t, strings.Join(parts[:fewer], " "))
		}
		for at := range len(parts) {
			readsAs(t, all, strings.Join(slices.Delete(slices.Clone(parts), at, at+1), " "))
			isNoLine(t, strings.Join(slices.Insert(slices.Clone(parts), at, parts[at]), " "))
			for other := range at {
				turned := slices.Clone(parts)
				turned[at], turned[other] = turned[other], turned[at]
				readsAs(t, all, strings.Join(turned, " "))
			}
		}
		for _, more := range []string{"", "0", "1", "r0", "r1", "-1", "halt", "r0 0", "r0 r0", "r0 r0 r0 r0", " ", "  ", "   ", "    "} {
			isNoLine(t, strings.Join(parts, " ")+" "+more)
			isNoLine(t, more+" "+strings.Join(parts, " "))
		}
	}
	for _, line := range []string{"set 1 r1", "set r1", "set 1", "set r1 r1", "zero 1 r1", "load r1 1 r2", "load r1 r2", "load r1 r2 r3", "store 1 r1 r2", "point r1 r2 r3", "point 1 r1 r2 r3", "add r1 r2 3", "add r1 r2 r3 4", "halt r1", "halt 0", "gone", "gone r1 0", "gone 1"} {
		isNoLine(t, line)
	}
}

// Blanks, tabs, ends of lines and other bytes, put in at each place of each op's line and in the stead of each of its bytes.
func TestBytesThatDoNotBelong(t *testing.T) {
	for op := 1; op <= 15; op++ {
		line := textByWords(aPlace(op))
		for at := 0; at <= len(line); at++ {
			for _, more := range []string{" ", "  ", "\t", "\n", "\r", "\r\n", "\v", "\f", "\x00", "\x7f", "\x80", "\xff", "\xc3", "\xe2\x82", "\xf0\x9f\x98", "\u00a0", "\u0085", "\u2028", "\u3000", "\ufeff", "\ufffd", "\u00e4", "\u0301"} {
				isNoLine(t, line[:at]+more+line[at:])
				if at < len(line) && (more != " " || line[at] != ' ') {
					isNoLine(t, line[:at]+more+line[at+1:])
				}
			}
		}
		isNoLine(t, strings.ReplaceAll(line, " ", "")+"\n")
		if op != impl.OpHalt {
			isNoLine(t, strings.ReplaceAll(line, " ", ""))
			isNoLine(t, strings.ReplaceAll(line, " ", "  "))
			isNoLine(t, strings.ReplaceAll(line, " ", "\t"))
			isNoLine(t, strings.ReplaceAll(line, " ", "\u00a0"))
		}
	}
	for _, line := range []string{"", " ", "  ", "\n", "\x00", "\t", "\xff", "-", "0", "r", "r0", ";", "; halt", "halt;", "halt\nhalt", "halt\n"} {
		isNoLine(t, line)
	}
}

// Each line that differs in one byte from a right one is read if it is a right one, too, and not otherwise.
func TestLinesThatDifferInOneByte(t *testing.T) {
	all := linesOfAll()
	for op := 1; op <= 15; op++ {
		lines := []string{textByWords(aPlace(op)), textByWords(impl.Ins{Op: op})}
		if names(op, "N") {
			for _, n := range []int{-128, -10, 10, 100, 127} {
				lines = append(lines, textByWords(with(aPlace(op), "N", n)))
			}
		}
		for _, line := range lines {
			for at := 0; at <= len(line); at++ {
				for b := range 256 {
					readsAs(t, all, line[:at]+string([]byte{byte(b)})+line[at:])
					if at < len(line) {
						readsAs(t, all, line[:at]+string([]byte{byte(b)})+line[at+1:])
					}
				}
				if at < len(line) {
					readsAs(t, all, line[:at]+line[at+1:])
				}
			}
		}
	}
}

// Lines made of a name and parts, right ones and wrong ones, in all ways together.
func TestLinesOfAllParts(t *testing.T) {
	all := linesOfAll()
	parts := []string{"", "r0", "r7", "r8", "r07", "r", "0", "-1", "127", "128", "-128", "-129", "00", "-0", "+1", "7"}
	for _, name := range append(slices.Clone(opWords[:]), "Halt", "r0", "0") {
		lines := []string{name}
		for range 4 {
			var longer []string
			for _, line := range lines {
				readsAs(t, all, line)
				for _, part := range parts {
					longer = append(longer, line+" "+part)
				}
			}
			lines = longer
		}
		for _, line := range lines {
			readsAs(t, all, line)
		}
	}
}

func TestCodeTextOfSome(t *testing.T) {
	list := []impl.Ins{{Op: impl.OpSet, R: 1, N: 5}, {Op: impl.OpZero, A: 1, N: -1}, {Op: impl.OpGone, A: 0}, {Op: impl.OpHalt}}
	if got, want := impl.CodeText(list), "set r1 5\nzero r1 -1\ngone r0\nhalt\n"; got != want {
		t.Errorf("%q, not %q", got, want)
	}
	if got := impl.CodeText([]impl.Ins{{Op: impl.OpHalt}}); got != "halt\n" {
		t.Errorf("%q", got)
	}
	if got, ok := impl.CodeRead("halt\n"); !ok || len(got) != 1 || got[0] != (impl.Ins{Op: impl.OpHalt}) {
		t.Error(got, ok)
	}
}

// textOfList is the text that the chapter gives a list of right places.
func textOfList(list []impl.Ins) string {
	text := ""
	for _, x := range list {
		text += textByWords(x) + "\n"
	}
	return text
}

// Promise 7: programs of all lengths, there and back; one more than MaxCode is refused.
func TestAProgramIsReadFromItsTextAsItWas(t *testing.T) {
	for length := 0; length <= 200; length++ {
		list := somePlaces(length)
		want, is := textOfList(list), length >= 1 && length <= 48
		if !is {
			isNoCode(t, want)
			want, list = "", nil
		}
		if got := impl.CodeText(somePlaces(length)); got != want {
			t.Errorf("CodeText of %v places is %q, not %q", length, got, want)
		}
		if got, ok := impl.CodeRead(want); ok != is || !slices.Equal(got, list) {
			t.Errorf("CodeRead of %v places is %v, %v, not %v", length, got, ok, list)
		}
	}
}

// Promise 7: every place there is stands in some program of MaxCode places, and the last one of fewer.
func TestAllPlacesInProgramsAreReadAsTheyWere(t *testing.T) {
	for list := range slices.Chunk(rightPlaces(), impl.MaxCode) {
		text := impl.CodeText(list)
		if want := textOfList(list); text != want {
			t.Fatalf("CodeText(%v) = %q, not %q", list, text, want)
		}
		if got, ok := impl.CodeRead(text); !ok || !slices.Equal(got, list) {
			t.Fatalf("CodeRead(%q) = %v, %v", text, got, ok)
		}
	}
}

// Two programs that differ have texts that differ: in one place, in its order, in its length.
func TestProgramsThatDifferHaveTextsThatDiffer(t *testing.T) {
	places := []impl.Ins{{Op: impl.OpHalt}, {Op: impl.OpSet, R: 1, N: 1}, {Op: impl.OpSet, R: 1, N: -1}, {Op: impl.OpSet, R: 1, N: 11}, {Op: impl.OpAdd, R: 1, A: 1, B: 1}, {Op: impl.OpStore, A: 1, B: 1, N: 1}, {Op: impl.OpLoad, R: 1, A: 1, N: 1}}
	byText := map[string][]impl.Ins{}
	lists := [][]impl.Ins{{}}
	for range 4 {
		var longer [][]impl.Ins
		for _, list := range lists {
			for _, x := range places {
				longer = append(longer, append(slices.Clone(list), x))
			}
		}
		lists = longer
		for _, list := range lists {
			text := impl.CodeText(list)
			if other, same := byText[text]; same || text == "" {
				t.Fatalf("%v and %v have one text %q", list, other, text)
			}
			byText[text] = list
			if got, ok := impl.CodeRead(text); !ok || !slices.Equal(got, list) {
				t.Fatalf("CodeRead(%q) = %v, %v", text, got, ok)
			}
		}
	}
}

func TestCodeTextOfWhatIsNotCodeOk(t *testing.T) {
	if a, b := impl.CodeText(nil), impl.CodeText([]impl.Ins{}); a != "" || b != "" {
		t.Errorf("of none: %q, %q", a, b)
	}
	for _, length := range []int{49, 50, 96, 1000} {
		if got := impl.CodeText(somePlaces(length)); got != "" {
			t.Errorf("of %v: %q", length, got)
		}
	}
	wrong := wrongPlaces()
	for _, length := range []int{1, 2, 3, 48} {
		list := somePlaces(length)
		for _, at := range []int{0, length / 2, length - 1} {
			right := list[at]
			for _, x := range wrong {
				list[at] = x
				if got := impl.CodeText(list); got != "" {
					t.Fatalf("of %v places with %v at %v: %q", length, x, at, got)
				}
			}
			list[at] = right
		}
	}
}

func TestCodeReadOfWhatIsNoText(t *testing.T) {
	for _, s := range []string{
		"", "\n", "\n\n", "\n\n\n", " ", " \n", "\r\n", "\t\n", "\x00", "\x00\n", "\xff\n", "\ufeffhalt\n", ";\n", "; a program\nhalt\n",
		"halt", "halt\nhalt", "halt\n\n", "halt\n\n\n", "\nhalt\n", "\n\nhalt\n", "halt\n\nhalt\n", "halt\r\n", "halt\r", "\rhalt\n", "halt\n\r", "halt\n\r\n", "halt\rhalt\n", "halt\r\nhalt\r\n",
		"halt \n", " halt\n", "halt\n ", "halt\n \n", "halt\nhalt ", "halt\x00\n", "halt\n\x00", "\x00halt\n", "halt\nha", "halt\u2028halt\n", "halt\u0085", "halt\\n", "halt;halt\n", "halt halt\n", "halthalt\n",
		"Halt\n", "set r1 01\n", "set r1 -0\n", "set r1 128\n", "set r8 1\n", "set\nr1\n1\n", "set r1\n1\n", "set\n", "?\n", "?",
	} {
		isNoCode(t, s)
	}
}

// One line that is none, in all places of programs of several lengths.
func TestCodeReadOfOneWrongLine(t *testing.T) {
	wrong := []string{"", " ", "halt ", " halt", "halt\r", "Halt", "halt r1", "set r1", "set r1 00", "set r1 -0", "set r1 +1", "set r1 128", "set r8 1", "add r1 r2 r3 4", "move r1  r2", "move\tr1 r2", "gone r1\x00", "gone r\xff", "nop", "halt\nhalt\n", "\n"}
	for _, length := range []int{1, 2, 3, 47, 48} {
		lines := strings.SplitAfter(textOfList(somePlaces(length)), "\n")[:length]
		for at := range lines {
			for _, line := range wrong {
				turned := slices.Clone(lines)
				turned[at] = line + "\n"
				isNoCode(t, strings.Join(turned, ""))
			}
			// the end of the line is no more, so that two lines are one
			turned := slices.Clone(lines)
			turned[at] = strings.TrimSuffix(turned[at], "\n")
			isNoCode(t, strings.Join(turned, ""))
		}
		if _, ok := impl.CodeRead(strings.Join(lines, "")); !ok {
			t.Error("not read:", lines)
		}
	}
}

// What differs in one byte from the text of a program is read if CodeText answers it, and not otherwise.
func TestProgramsThatDifferInOneByte(t *testing.T) {
	all := linesOfAll()
	text := "set r1 -3\npoint r1 r2 r3 12\nhalt\n"
	ask := func(s string) {
		t.Helper()
		var want []impl.Ins
		lines := strings.Split(s, "\n")
		is := len(lines) > 1 && lines[len(lines)-1] == ""
		for _, line := range lines[:len(lines)-1] {
			x, right := all[line]
			is = is && right
			want = append(want, x)
		}
		if !is {
			want = nil
		}
		if got, ok := impl.CodeRead(s); ok != is || !slices.Equal(got, want) {
			t.Fatalf("CodeRead(%q) = %v, %v, not %v, %v", s, got, ok, want, is)
		}
	}
	for at := 0; at <= len(text); at++ {
		ask(text[:at])
		ask(text[at:])
		for b := range 256 {
			ask(text[:at] + string([]byte{byte(b)}) + text[at:])
			if at < len(text) {
				ask(text[:at] + string([]byte{byte(b)}) + text[at+1:])
			}
		}
		if at < len(text) {
			ask(text[:at] + text[at+1:])
		}
	}
}

func TestTextsThatAreVeryLong(t *testing.T) {
	const long = 1 << 21
	for _, x := range []string{"halt\n", "\n", " ", "0", "r", "halt", "halt ", "set r1 1\n", "\x00", "\xff", "\u00e4", "\r\n", "a", "r0 ", "-"} {
		isNoCode(t, strings.Repeat(x, long/len(x)))
		isNoCode(t, strings.Repeat(x, long/len(x))+"\n")
		isNoCode(t, "halt\n"+strings.Repeat(x, long/len(x)))
		isNoLine(t, strings.Repeat(x, long/len(x)))
		isNoLine(t, "halt"+strings.Repeat(x, long/len(x)))
		isNoLine(t, "set r1 "+strings.Repeat(x, long/len(x)))
		isNoLine(t, "set r1 1"+strings.Repeat(x, long/len(x)))
		isNoLine(t, "gone r"+strings.Repeat(x, long/len(x)))
	}
	isNoLine(t, "set r1 "+strings.Repeat("0", long)+"1")
	isNoLine(t, "set r1 -"+strings.Repeat("0", long)+"1")
	isNoLine(t, "set r1 1"+strings.Repeat("0", long))
	isNoLine(t, "gone r"+strings.Repeat("0", long)+"1")
}

// Promise 29: the list and the room behind it are as they were, whatever is answered.
func TestCodeTextLeavesTheListAsItWas(t *testing.T) {
	for _, length := range []int{0, 1, 2, 47, 48, 49, 60} {
		for _, last := range []impl.Ins{{Op: impl.OpHalt}, {Op: impl.OpHalt, N: 1}, {}, {Op: 99, R: -5, A: 9, B: 9, N: 999}} {
			room := somePlaces(length)
			for i := range 5 {
				room = append(room, impl.Ins{Op: i, R: i, A: -i, B: 1000 + i, N: i - 200})
			}
			if length > 0 {
				room[length-1] = last
			}
			before := slices.Clone(room)
			first := impl.CodeText(room[:length])
			if again := impl.CodeText(room[:length]); again != first || !slices.Equal(room, before) {
				t.Errorf("%v places that end with %v: %q, then %q", length, last, first, again)
			}
		}
	}
}

// What was answered is new memory: what is written into it, and behind it, is seen nowhere else.
func TestCodeReadAnswersNewMemory(t *testing.T) {
	for _, length := range []int{1, 2, 3, 5, 47, 48} {
		want := somePlaces(length)
		text := textOfList(want)
		first, ok := impl.CodeRead(text)
		second, again := impl.CodeRead(text)
		if !ok || !again || !slices.Equal(first, want) || !slices.Equal(second, want) {
			t.Fatal(length, first, ok, second, again)
		}
		room := first[:cap(first)]
		for i := range room {
			room[i] = impl.Ins{Op: 99, R: 99, A: 99, B: 99, N: 99}
		}
		third, ok := impl.CodeRead(text)
		if !ok || !slices.Equal(second, want) || !slices.Equal(third, want) || text != textOfList(want) {
			t.Error(length, second, third, ok)
		}
	}
}

// Nothing is kept: what was read or refused ahead of a call does not turn its answer.
func TestTextsKeepNothing(t *testing.T) {
	right, wrong := textOfList(somePlaces(20)), textOfList(somePlaces(20))+"halt"
	for range 3 {
		isNoCode(t, wrong)
		isNoLine(t, "set r1 -0")
		isNoCode(t, "")
		isNoLine(t, "")
		if got, ok := impl.CodeRead(right); !ok || !slices.Equal(got, somePlaces(20)) {
			t.Error(got, ok)
		}
		if got, ok := impl.InsRead("set r1 0"); !ok || got != (impl.Ins{Op: impl.OpSet, R: 1}) {
			t.Error(got, ok)
		}
		if got := impl.CodeText(nil); got != "" {
			t.Errorf("%q", got)
		}
		if got := impl.CodeText(somePlaces(20)); got != right {
			t.Errorf("%q", got)
		}
	}
}
