package tests

import (
	"fmt"
	"math"
	"regexp"
	"slices"
	"strconv"
	"strings"
	"sync"
	"testing"

	"loop.example/g00087/impl"
)

type instr = impl.Instr

const (
	mostInstrs   = 30
	mostProgText = 900
)

func does(op int, a int, b int) instr {
	return instr{Op: op, A: a, B: b}
}

func commits(many int) []instr {
	return alike(does(impl.DoCommit, 0, 0), many)
}

// progForm is the table of the document: an op's name, and what A and B are (r, o, v, l, or - for 0).
type progForm struct {
	name string
	a, b byte
}

var progForms = map[int]progForm{
	1: {"read", 'r', 'o'},
	2: {"write", 'o', 'r'},
	3: {"set", 'r', 'v'},
	4: {"add", 'r', 'r'},
	5: {"if", 'r', 'l'},
	6: {"commit", '-', '-'},
	7: {"abort", '-', '-'},
	8: {"go", 'l', '-'},
}

// progLimits are the least and the greatest number of that kind.
func progLimits(kind byte, lines int) (int, int) {
	switch kind {
	case 'r':
		return 0, 3
	case 'o':
		return 0, 7
	case 'v':
		return -top, top
	case 'l':
		return 0, lines
	}
	return 0, 0
}

func plainNumber(kind byte, number int, lines int) bool {
	low, high := progLimits(kind, lines)
	return low <= number && number <= high
}

func plainInstr(in instr, lines int) bool {
	form, known := progForms[in.Op]
	return known && plainNumber(form.a, in.A, lines) && plainNumber(form.b, in.B, lines)
}

func plainProg(list []instr) bool {
	return len(list) <= 30 && !slices.ContainsFunc(list, func(in instr) bool { return !plainInstr(in, len(list)) })
}

func plainProgText(list []instr) string {
	text := ""
	for _, in := range list {
		form := progForms[in.Op]
		switch {
		case form.a == '-':
			text += form.name + "\n"
		case form.b == '-':
			text += fmt.Sprintf("%s %d\n", form.name, in.A)
		default:
			text += fmt.Sprintf("%s %d %d\n", form.name, in.A, in.B)
		}
	}
	return text
}

var plainProgLine = regexp.MustCompile(`^(?:(read|write|set|add|if) (0|-?[1-9][0-9]*) (0|-?[1-9][0-9]*)|(commit|abort)|(go) (0|-?[1-9][0-9]*))\n$`)

// plainLine reads one line, with the byte 10 behind it.
func plainLine(line string, lines int) (instr, bool) {
	found := plainProgLine.FindStringSubmatch(line)
	if found == nil {
		return instr{}, false
	}
	var in instr
	for op, form := range progForms {
		if form.name == found[1]+found[4]+found[5] {
			in.Op = op
		}
	}
	for i, word := range []string{found[2] + found[6], found[3]} {
		number, err := strconv.Atoi("0" + word)
		if strings.HasPrefix(word, "-") {
			number, err = strconv.Atoi(word)
		}
		if err != nil {
			return instr{}, false
		}
		*[]*int{&in.A, &in.B}[i] = number
	}
	return in, plainInstr(in, lines)
}

// plainReadProg reads a program as the document tells it, line by line, with lines cut beforehand.
func plainReadProg(text string) ([]instr, int, bool) {
	if len(text) > 900 {
		return nil, 0, false
	}
	lines := strings.SplitAfter(text, "\n")
	if lines[len(lines)-1] == "" {
		lines = lines[:len(lines)-1]
	}
	var list []instr
	for number, line := range lines {
		in, ok := plainLine(line, len(lines))
		if !ok || number >= 30 {
			return nil, number, false
		}
		list = append(list, in)
	}
	return list, -1, true
}

// goodProgs are ProgOk, at the limits and within, each with its text.
func goodProgs() map[string][]instr {
	return map[string][]instr{
		"":                      nil,
		"read 0 0\n":            {does(impl.DoRead, 0, 0)},
		"read 3 7\n":            {does(impl.DoRead, 3, 7)},
		"read 1 5\n":            {does(impl.DoRead, 1, 5)},
		"write 0 0\n":           {does(impl.DoWrite, 0, 0)},
		"write 7 3\n":           {does(impl.DoWrite, 7, 3)},
		"write 4 2\n":           {does(impl.DoWrite, 4, 2)},
		"set 0 0\n":             {does(impl.DoSet, 0, 0)},
		"set 3 1000000000\n":    {does(impl.DoSet, 3, top)},
		"set 3 -1000000000\n":   {does(impl.DoSet, 3, -top)},
		"set 1 999999999\n":     {does(impl.DoSet, 1, top-1)},
		"set 2 -1\n":            {does(impl.DoSet, 2, -1)},
		"set 2 -120\n":          {does(impl.DoSet, 2, -120)},
		"add 0 0\n":             {does(impl.DoAdd, 0, 0)},
		"add 3 3\n":             {does(impl.DoAdd, 3, 3)},
		"add 1 2\n":             {does(impl.DoAdd, 1, 2)},
		"if 0 0\n":              {does(impl.DoIf, 0, 0)},
		"if 3 1\n":              {does(impl.DoIf, 3, 1)},
		"commit\n":              commits(1),
		"abort\n":               {does(impl.DoAbort, 0, 0)},
		"go 0\n":                {does(impl.DoGo, 0, 0)},
		"go 1\n":                {does(impl.DoGo, 1, 0)},
		"go 2\ncommit\n":        {does(impl.DoGo, 2, 0), does(impl.DoCommit, 0, 0)},
		"commit\ngo 2\n":        {does(impl.DoCommit, 0, 0), does(impl.DoGo, 2, 0)},
		"abort\nif 1 2\n":       {does(impl.DoAbort, 0, 0), does(impl.DoIf, 1, 2)},
		"if 3 2\nif 0 1\n":      {does(impl.DoIf, 3, 2), does(impl.DoIf, 0, 1)},
		"go 3\ngo 3\ngo 3\n":    alike(does(impl.DoGo, 3, 0), 3),
		"set 0 7\nset 0 7\n":    alike(does(impl.DoSet, 0, 7), 2),
		"read 2 1\nwrite 1 2\n": {does(impl.DoRead, 2, 1), does(impl.DoWrite, 1, 2)},
		"read 0 2\nadd 0 1\nwrite 2 0\ncommit\ngo 5\n": {
			does(impl.DoRead, 0, 2), does(impl.DoAdd, 0, 1), does(impl.DoWrite, 2, 0), does(impl.DoCommit, 0, 0), does(impl.DoGo, 5, 0),
		},
		"set 1 -7\nread 0 3\nif 0 4\nabort\nadd 0 1\nwrite 3 0\ncommit\ngo 0\n": {
			does(impl.DoSet, 1, -7), does(impl.DoRead, 0, 3), does(impl.DoIf, 0, 4), does(impl.DoAbort, 0, 0),
			does(impl.DoAdd, 0, 1), does(impl.DoWrite, 3, 0), does(impl.DoCommit, 0, 0), does(impl.DoGo, 0, 0),
		},
		strings.Repeat("commit\n", 29):               commits(29),
		strings.Repeat("commit\n", 30):               commits(30),
		strings.Repeat("abort\n", 30):                alike(does(impl.DoAbort, 0, 0), 30),
		strings.Repeat("go 30\n", 30):                alike(does(impl.DoGo, 30, 0), 30),
		strings.Repeat("if 3 30\n", 30):              alike(does(impl.DoIf, 3, 30), 30),
		strings.Repeat("set 3 -1000000000\n", 30):    alike(does(impl.DoSet, 3, -top), 30), // the longest text
		strings.Repeat("read 3 7\n", 30):             alike(does(impl.DoRead, 3, 7), 30),
		"go 30\n" + strings.Repeat("commit\n", 29):   append([]instr{does(impl.DoGo, 30, 0)}, commits(29)...),
		strings.Repeat("commit\n", 29) + "if 2 30\n": append(commits(29), does(impl.DoIf, 2, 30)),
	}
}

// badInstrs are in no program, however many lines it has.
func badInstrs() []instr {
	bad := []instr{{}}
	for _, op := range []int{math.MinInt, -8, -1, 0, 9, 10, 30, 256 + 6, 1<<32 + 6, math.MaxInt} {
		bad = append(bad, does(op, 0, 0), does(op, 1, 1))
	}
	for op, form := range progForms {
		for _, number := range edges() {
			if !plainNumber(form.a, number, 30) {
				bad = append(bad, does(op, number, 0))
			}
			if !plainNumber(form.b, number, 30) {
				bad = append(bad, does(op, 0, number))
			}
		}
	}
	return bad
}

// badProgs are not ProgOk, each for one reason.
func badProgs() map[string][]instr {
	bad := map[string][]instr{
		"an instruction too many":                  commits(31),
		"an instruction too many, and a line":      append(commits(30), does(impl.DoGo, 30, 0)),
		"many instructions too many":               commits(5000),
		"most of most, and a line as far as these": append(commits(30), does(impl.DoGo, 31, 0)),
		"a line above the end":                     {does(impl.DoGo, 2, 0)},
		"a line above the end, at the end":         append(commits(4), does(impl.DoGo, 6, 0)),
		"a line above the end, at the front":       append([]instr{does(impl.DoIf, 0, 6)}, commits(4)...),
		"a line above the end, of most":            append(commits(29), does(impl.DoGo, 31, 0)),
		"a line above the end of few":              append(commits(3), does(impl.DoIf, 1, 30)),
		"a line below 0":                           append(commits(3), does(impl.DoGo, -1, 0)),
		"if and a line below 0":                    append(commits(3), does(impl.DoIf, 1, -1)),
		"commit with an A":                         {does(impl.DoCommit, 1, 0)},
		"commit with a B":                          {does(impl.DoCommit, 0, 1)},
		"commit with both":                         {does(impl.DoCommit, 1, -1)},
		"abort with an A":                          {does(impl.DoAbort, -1, 0)},
		"abort with a B":                           {does(impl.DoAbort, 0, -1)},
		"go with a B":                              {does(impl.DoGo, 0, 1)},
		"go with a B that could be its line":       {does(impl.DoGo, 1, 1)},
		"read of an object and a register":         {does(impl.DoRead, 4, 3)},
		"write of a register and an object":        {does(impl.DoWrite, 3, 4)},
		"the first of two":                         {does(impl.DoRead, 4, 0), does(impl.DoRead, 0, 0)},
		"the last of two":                          {does(impl.DoRead, 0, 0), does(impl.DoRead, 0, 8)},
	}
	for _, in := range badInstrs() {
		bad[fmt.Sprint(in, " alone")] = []instr{in}
		bad[fmt.Sprint(in, " at the front of most")] = append([]instr{in}, commits(29)...)
		bad[fmt.Sprint(in, " at the end")] = append(goodProgs()["read 0 2\nadd 0 1\nwrite 2 0\ncommit\ngo 5\n"], in)
		bad[fmt.Sprint(in, " between")] = append(commits(7), in, does(impl.DoAbort, 0, 0))
	}
	return bad
}

func TestLimitsOfPrograms(t *testing.T) {
	if impl.MaxProg != mostInstrs || impl.Regs != 4 {
		t.Error(impl.MaxProg, impl.Regs)
	}
	ops := []int{impl.DoRead, impl.DoWrite, impl.DoSet, impl.DoAdd, impl.DoIf, impl.DoCommit, impl.DoAbort, impl.DoGo}
	if !slices.Equal(ops, placesTo(9)[1:]) {
		t.Error(ops)
	}
}

// The registry holds the names that programs are written and read by, and none where there is no op.
func TestInstrName(t *testing.T) {
	for op, form := range progForms {
		in := does(op, 0, 0)
		text, _ := impl.WriteProg([]instr{in})
		written, rest, _ := strings.Cut(strings.TrimSuffix(text, "\n"), " ")
		name := impl.InstrName(op)
		if name != form.name || name != written {
			t.Errorf("op %d: %q, written %q, not %q", op, name, written, form.name)
		}
		line := strings.TrimSuffix(name+" "+rest, " ")
		checkReadProg(t, line+"\n", []instr{in}, -1, true)
	}
	for _, op := range append(edges(), -2, 9, 10, 30, 256+1, 1<<32+1) {
		if _, known := progForms[op]; !known && impl.InstrName(op) != "" {
			t.Errorf("op %d: %q", op, impl.InstrName(op))
		}
	}
}

func TestProgOk(t *testing.T) {
	for text, list := range goodProgs() {
		if !impl.ProgOk(list) {
			t.Errorf("%q: refused", text)
		}
	}
	if !impl.ProgOk([]instr{}) {
		t.Error("the empty program that is not nil: refused")
	}
	for name, list := range badProgs() {
		if impl.ProgOk(list) {
			t.Errorf("%s: taken", name)
		}
	}
}

func TestWriteProg(t *testing.T) {
	for want, list := range goodProgs() {
		if text, ok := impl.WriteProg(list); !ok || text != want {
			t.Errorf("%q: %q %v", want, text, ok)
		}
	}
	if text, ok := impl.WriteProg([]instr{}); !ok || text != "" {
		t.Errorf("the empty program that is not nil: %q %v", text, ok)
	}
	for name, list := range badProgs() {
		if text, ok := impl.WriteProg(list); ok || text != "" {
			t.Errorf("%s: %q %v", name, text, ok)
		}
	}
}

// checkProg asks all functions of a list what the document says of it, and that it comes back from its text.
func checkProg(t *testing.T, list []instr) {
	t.Helper()
	want, wantText := plainProg(list), ""
	if want {
		wantText = plainProgText(list)
	}
	text, ok := impl.WriteProg(list)
	if impl.ProgOk(list) != want || ok != want || text != wantText {
		t.Fatalf("%v: %v %q %v, not %v %q", list, impl.ProgOk(list), text, ok, want, wantText)
	}
	objects, told := impl.Touches(list)
	if wantObjects := plainTouches(list); told != want || !slices.Equal(objects, wantObjects) {
		t.Fatalf("%v touches %v %v, not %v", list, objects, told, wantObjects)
	}
	if impl.Straight(list) != plainStraight(list) {
		t.Fatalf("%v is straight: %v", list, impl.Straight(list))
	}
	if want {
		checkReadProg(t, text, list, -1, true)
	}
}

// TestInstrsOverEdges asks each op with all numbers at the edges, alone and among others, as far as each line is the end.
func TestInstrsOverEdges(t *testing.T) {
	numbers := append(edges(), 5, 6, 9, 29, 30, 31, 32, 256, 1<<32, -2, -30)
	for op := -1; op <= 9; op++ {
		for _, a := range numbers {
			for _, b := range numbers {
				for _, others := range []int{0, 1, 4, 6, 29, 30} {
					checkProg(t, append(commits(others), does(op, a, b)))
					checkProg(t, append([]instr{does(op, a, b)}, commits(others)...))
				}
			}
		}
	}
}

// A line may be any up to how many there are, and not the one above.
func TestLinesUpToTheEnd(t *testing.T) {
	for many := 1; many <= 32; many++ {
		for place := range many {
			for line := -2; line <= 34; line++ {
				for _, jump := range []instr{does(impl.DoGo, line, 0), does(impl.DoIf, 2, line)} {
					list := commits(many)
					list[place] = jump
					checkProg(t, list)
					checkProgText(t, plainProgText(list))
				}
			}
		}
	}
}

func checkReadProg(t *testing.T, text string, want []instr, wantLine int, wantOk bool) {
	t.Helper()
	list, line, ok := impl.ReadProg(text)
	if !slices.Equal(list, want) || line != wantLine || ok != wantOk {
		t.Fatalf("%q: %v %d %v, not %v %d %v", text, list, line, ok, want, wantLine, wantOk)
	}
}

// checkProgText asks that a text is read as the document tells it, and that one that is a program is written as itself.
func checkProgText(t *testing.T, text string) {
	t.Helper()
	want, wantLine, wantOk := plainReadProg(text)
	checkReadProg(t, text, want, wantLine, wantOk)
	if !wantOk {
		return
	}
	list, _, _ := impl.ReadProg(text)
	if back, ok := impl.WriteProg(list); !ok || back != text || !impl.ProgOk(list) {
		t.Fatalf("%q is written as %q %v", text, back, ok)
	}
}

func TestReadProg(t *testing.T) {
	for text, want := range goodProgs() {
		checkReadProg(t, text, want, -1, true)
	}
	checkReadProg(t, "", nil, -1, true)
}

// badLines are none, whatever stands beside them.
func badLines() []string {
	lines := []string{
		"", " ", "  ", "\t", "\r", "\x00", "0", "x", "5 0 0", "nop", "reads 0 0", "rea 0 0", "comit", "commits", "aborts", "goto 0", "end", "# read 0 0",
		"read", "read 0", "read 0 0 0", "write", "write 0", "write 0 0 0", "set", "set 0", "set 0 0 0", "add", "add 0", "add 0 0 0",
		"if", "if 0", "if 0 0 0", "commit 0", "commit 0 0", "commit 1", "abort 0", "abort 0 0", "go", "go 0 0", "go 0 0 0", "go x", "commit x", "commit commit",
		" read 0 0", "read 0 0 ", "read  0 0", "read 0  0", " commit", "commit ", " go 0", "go  0", "go 0 ", "  commit", "commit  ", " abort ",
		"read\t0 0", "read 0\t0", "\tcommit", "commit\t", "go\t0", "read 0 0\t", "commit\r", "go 0\r", "read 0 0\v", "read\u00a00 0", "read 0\u20030", "go\u00a00",
		"Read 0 0", "READ 0 0", "reaD 0 0", "Write 0 0", "SET 0 0", "Add 0 0", "IF 0 0", "Commit", "COMMIT", "commiT", "Abort", "ABORT", "Go 0", "GO 0", "gO 0",
		"commit\xff", "\xffcommit", "comm\xffit", "go \xff", "go 0\xff", "\xff", "\xc3", "commit\xc3", "go 0\xe2\x82", "read 0 \x80", "read\xa00 0", "r\u00e9ad 0 0",
		"commit\ufffd", "\ufffd", "\ufeffcommit", "commit\u00e9", "go \u0660", "go \uff10", "read \u0661 0", "read 0 \u00b2", "\uff47\uff4f 0", "c\u043emmit", "commit\x00", "go 0\x00",
		"read 4 0", "read -1 0", "read 0 8", "read 0 -1", "read 5 0", "read 9 9", "read 10 0", "read 0 10", "read 4 7",
		"write 8 0", "write -1 0", "write 0 4", "write 0 -1", "write 7 4", "write 8 3", "write 0 10",
		"set 4 0", "set -1 0", "set 0 1000000001", "set 0 -1000000001", "set 3 2000000000", "set 0 10000000000", "set 4 1000000000",
		"add 4 0", "add 0 4", "add -1 0", "add 0 -1", "add 3 4", "if 4 0", "if -1 0", "if 0 -1", "go -1", "if 3 -1",
		"read R O", "set 0 1e3", "set 0 0x10", "set 0 1_000", "set 0 1.0", "set 0 .5", "set 0 1.", "set 0 --1", "set 0 - 1", "set 0 1-", "set 0 -", "set 0 +", "set - 0", "read 0,0", "read 0;0",
		"read 0 0;", "go;0", "if 0 0,", "set 0 1,000", "set 0 0b1", "set 0 0o7", "set 0 'a'", "set 0 \"1\"", "set 0 NaN", "set 0 Inf",
	}
	// The forms of a number that the conventions do not write, for each number of each op.
	for _, form := range []string{"+0", "+1", "-0", "00", "01", "000", "-00", "-01", "+00", "0x0", "1_", "_1", "", "--0", "-+0", "0-", "\u0661",
		"4294967296", "4294967297", "18446744073709551616", "18446744073709551617", "-18446744073709551616", "9223372036854775807", "9223372036854775808",
		"-9223372036854775808", "-9223372036854775809", "99999999999999999999999999999999", "-99999999999999999999999999999999", "340282366920938463463374607431768211456"} {
		for _, name := range []string{"read", "write", "set", "add", "if"} {
			lines = append(lines, name+" "+form+" 0", name+" 0 "+form)
		}
		lines = append(lines, "go "+form, "commit "+form, "abort "+form)
	}
	return lines
}

func TestReadNoLine(t *testing.T) {
	one := "commit\n"
	for _, line := range badLines() {
		ended := line + "\n"
		checkReadProg(t, ended, nil, 0, false)
		checkReadProg(t, ended+one, nil, 0, false)
		checkReadProg(t, one+ended, nil, 1, false)
		checkReadProg(t, "go 4\nread 0 0\n"+ended+one, nil, 2, false)
		checkReadProg(t, ended+ended, nil, 0, false)
		checkReadProg(t, one+ended+ended, nil, 1, false)
		checkReadProg(t, ended+one+ended+"go 9\n", nil, 0, false)
		checkReadProg(t, strings.Repeat(one, 29)+ended, nil, 29, false)
		checkReadProg(t, strings.Repeat(one, 30)+ended, nil, 30, false)
		checkReadProg(t, strings.Repeat(one, 31)+ended, nil, 30, false)
		checkReadProg(t, ended+strings.Repeat(one, 30), nil, 0, false)
		if line != "" {
			checkReadProg(t, line, nil, 0, false)
			checkReadProg(t, one+line, nil, 1, false)
			checkReadProg(t, strings.Repeat(one, 30)+line, nil, 30, false)
		}
		checkProgText(t, ended)
		checkProgText(t, one+ended+one)
	}
}

// What stands behind the last byte 10 is a line that is none, of whatever form; it counts among those that there are.
func TestReadNoByte10AtTheEnd(t *testing.T) {
	for text := range goodProgs() {
		if text != "" {
			checkReadProg(t, strings.TrimSuffix(text, "\n"), nil, strings.Count(text, "\n")-1, false)
		}
		for _, rest := range []string{"commit", "abort", "go 0", "read 0 0", "set 0 1", "c", " ", "0", "\r", "\x00", "\xff", "commit\r"} {
			checkReadProg(t, text+rest, nil, strings.Count(text, "\n"), false)
		}
	}
	for _, c := range []struct {
		text string
		line int
	}{
		{"commit", 0}, {"go 0", 0}, {"go 1", 0}, {"go 2", 0}, {" ", 0}, {"c", 0},
		{"go 1\ncommit", 1}, {"go 2\ncommit", 1}, {"go 3\ncommit", 0}, {"if 0 2\nx", 1}, {"if 0 3\nx", 0}, {"commit\ngo 3\ngo 0", 2}, {"commit\ngo 4\ngo 0", 1},
	} {
		checkReadProg(t, c.text, nil, c.line, false)
	}
}

func TestReadEmptyLines(t *testing.T) {
	for _, c := range []struct {
		text string
		line int
	}{
		{"\n", 0}, {"\n\n", 0}, {"\n\n\n", 0}, {"\ncommit\n", 0}, {"\ncommit", 0}, {"commit\n\n", 1}, {"commit\n\n\n", 1}, {"commit\n\ncommit\n", 1},
		{"commit\nabort\n\n", 2}, {"go 2\n\n", 1}, {"go 3\n\n", 0}, {"go 3\n\ncommit\n", 1}, {"commit\n\ncommit", 1},
		{strings.Repeat("commit\n", 30) + "\n", 30}, {strings.Repeat("commit\n", 29) + "\n", 29}, {strings.Repeat("commit\n", 29) + "\n\n", 29},
		{strings.Repeat("\n", 900), 0}, {"commit\n" + strings.Repeat("\n", 893), 1},
	} {
		checkReadProg(t, c.text, nil, c.line, false)
	}
}

// Line by line: the first that is none is told, be it for its words, for its line number, or for being the line MaxProg.
func TestReadFirstThatIsNone(t *testing.T) {
	most := strings.Repeat("commit\n", 30)
	for _, c := range []struct {
		text string
		line int
	}{
		{"go 2\n", 0}, {"if 0 2\n", 0}, {"commit\ngo 3\n", 1}, {"go 3\ncommit\n", 0}, {"commit\nif 3 3\ncommit\ngo 5\n", 3}, {"commit\ngo 5\ncommit\nif 3 9\n", 1},
		{"go 3\nx\n", 0}, {"go 2\nx\n", 1}, {"x\ngo 3\n", 0}, {"if 1 9\nread 4 0\n", 0}, {"if 1 2\nread 4 0\n", 1}, {"read 4 0\nif 1 9\n", 0},
		{"go 3\nx\ncommit\n", 1}, {"go 4\nx\ncommit\n", 0}, {"commit\ngo 4\n\n", 1}, {"commit\ngo 3\n\n", 2}, {"x\ny\nz\n", 0}, {"commit\nx\ncommit\ny\n", 1},
		{most + "commit\n", 30}, {most + "x\n", 30}, {most + "go 31\n", 30}, {most + "go 32\n", 30}, {most + "go 30\n", 30}, {most + most, 30},
		// Lines are counted as they stand in the text, those that are none and those past MaxProg too.
		{"go 31\n" + most, 30}, {"go 32\n" + most, 0}, {"if 0 31\n" + most, 30}, {"if 0 32\n" + most, 0}, {"go 61\n" + most + most, 30}, {"go 62\n" + most + most, 0},
		{most + "go 61\n" + most, 30}, {"commit\ngo 32\n" + most, 30}, {"commit\ngo 33\n" + most, 1}, {most[7:] + "go 32\nx\ncommit\n", 30}, {most[7:] + "go 33\nx\ncommit\n", 29},
		{"go 894\n" + strings.Repeat("\n", 893), 1}, {"go 895\n" + strings.Repeat("\n", 893), 0}, {"go 893\n" + strings.Repeat("\n", 893), 1},
	} {
		checkReadProg(t, c.text, nil, c.line, false)
		checkProgText(t, c.text)
	}
}

// No program has so long a text, so of 900 bytes the lines are looked at, and of one more they are not.
func TestReadTooLongProg(t *testing.T) {
	longest := strings.Repeat("set 3 -1000000000\n", 30)
	for _, c := range []struct {
		text string
		line int
	}{
		{longest + strings.Repeat("\n", 360), 30},
		{longest + strings.Repeat("x", 360), 30},
		{longest + strings.Repeat("set 3 -1000000000\n", 20), 30},
		{strings.Repeat("abort\n", 150), 30},
		{"commit\n" + strings.Repeat("x", 893), 1},
		{"commit\ngo 0" + strings.Repeat("0", 888) + "\n", 1},
		{"commit\n" + strings.Repeat("\u00e9", 446) + "\n", 1}, // bytes are counted, and not what they mean together
		{"commit\n" + strings.Repeat("\xff", 892) + "\n", 1},
		{strings.Repeat("read 0 7\n", 4) + "commit" + strings.Repeat(" ", 857) + "\n", 4},
	} {
		if len(c.text) != mostProgText {
			t.Fatal(len(c.text), c.text)
		}
		checkReadProg(t, c.text, nil, c.line, false)
		checkReadProg(t, c.text[:899], nil, c.line, false)
		for _, more := range []string{"\n", "x", " ", "\xff", "abort\n", strings.Repeat("abort\n", 5000)} {
			checkReadProg(t, c.text+more, nil, 0, false)
		}
	}
	checkReadProg(t, strings.Repeat("abort\n", 151), nil, 0, false)
	checkReadProg(t, "commit\n"+strings.Repeat("\u00e9", 447), nil, 0, false)
}

// eachRow goes through all texts of at most that many of the pieces.
func eachRow(pieces []string, most int, yield func(string)) {
	var more func(text string, left int)
	more = func(text string, left int) {
		yield(text)
		if left == 0 {
			return
		}
		for _, piece := range pieces {
			more(text+piece, left-1)
		}
	}
	more("", most)
}

func TestReadAllShortProgs(t *testing.T) {
	for _, c := range []struct {
		pieces []string
		most   int
	}{
		{[]string{"go", "commit", " ", "0", "2", "-", "\n"}, 6},
		{[]string{"set ", "set", " ", "1", "0", "-", "\n"}, 6},
		{[]string{"if ", "add", "go ", " ", "3", "4", "\n"}, 6},
		{[]string{"read 0 0\n", "go 1\n", "go 2\n", "go 3\n", "if 0 4\n", "commit", "\n", "x\n"}, 5},
		{[]string{"read ", "write ", "0 ", "3", "7", "\n"}, 6},
	} {
		eachRow(c.pieces, c.most, func(text string) {
			checkProgText(t, text)
		})
	}
}

// TestReadEachByteOfProgs changes each byte to each other one, lays each one between, and leaves each one out.
func TestReadEachByteOfProgs(t *testing.T) {
	text := "read 0 2\nset 3 -17\nadd 0 1\nwrite 7 0\nif 1 8\ncommit\nabort\ngo 5\n"
	for at := range len(text) + 1 {
		for i := range 256 {
			one := string([]byte{byte(i)})
			checkProgText(t, text[:at]+one+text[at:])
			if at < len(text) {
				checkProgText(t, text[:at]+one+text[at+1:])
			}
		}
		checkProgText(t, text[:at])
		checkProgText(t, text[at:])
		if at < len(text) {
			checkProgText(t, text[:at]+text[at+1:])
		}
	}
	for i := range 256 {
		for k := range 256 {
			checkProgText(t, string([]byte{byte(i), byte(k)}))
			checkProgText(t, "go "+string([]byte{byte(i), byte(k)})+strings.Repeat("\ncommit", 29)+"\n")
		}
	}
}

func TestReadEachNumberOfProgs(t *testing.T) {
	var numbers []string
	for number := range 1100 {
		numbers = append(numbers, strconv.Itoa(number))
	}
	for _, number := range []string{"999999999", "1000000000", "1000000001", "9999999999", "9223372036854775807", "9223372036854775808", "18446744073709551615", "18446744073709551616"} {
		numbers = append(numbers, number)
	}
	for _, number := range numbers {
		for _, ahead := range []string{"", "-", "+", "0", "00", "-0", "+0", "--", " ", "0x"} {
			word := ahead + number
			for _, name := range []string{"read", "write", "set", "add", "if"} {
				checkProgText(t, name+" "+word+" 1\n")
				checkProgText(t, name+" 1 "+word+"\ncommit\n")
			}
			checkProgText(t, "go "+word+"\n")
			checkProgText(t, "go "+word+"\n"+strings.Repeat("commit\n", 29))
			checkProgText(t, "commit "+word+"\n")
			checkProgText(t, word+" 0 0\n")
		}
	}
}

// eachInstr goes through every instruction of a program of that many lines, of values those near the limits and near 0.
func eachInstr(lines int, yield func(instr)) {
	for op, form := range progForms {
		for _, a := range someNumbers(form.a, lines) {
			for _, b := range someNumbers(form.b, lines) {
				yield(does(op, a, b))
			}
		}
	}
}

func someNumbers(kind byte, lines int) []int {
	low, high := progLimits(kind, lines)
	if kind == 'v' {
		return []int{low, low + 1, -987654321, -1000, -10, -1, 0, 1, 9, 10, 11, 99, 100, 123456789, high - 1, high}
	}
	return placesTo(high + 1)
}

// Promise 9: a program comes back from its text; what is read as a program is written as itself.
func TestProgComesBack(t *testing.T) {
	for lines := 1; lines <= 30; lines++ {
		eachInstr(lines, func(in instr) {
			for _, place := range []int{0, lines / 2, lines - 1} {
				list := commits(lines)
				list[place] = in
				checkComesBackProg(t, list)
			}
		})
	}
	for _, list := range goodProgs() {
		checkComesBackProg(t, list)
	}
	for seed := range 4000 {
		checkComesBackProg(t, mixedProg(seed))
	}
}

// mixedProg is some program of as many lines as the seed says, of all ops.
func mixedProg(seed int) []instr {
	lines := seed % 31
	var list []instr
	for i := range lines {
		op := 1 + (seed/31+i*i+i*seed)%8
		form := progForms[op]
		ofA, ofB := someNumbers(form.a, lines), someNumbers(form.b, lines)
		list = append(list, does(op, ofA[(seed*7+i*13)%len(ofA)], ofB[(seed*11+i*i*5)%len(ofB)]))
	}
	return list
}

func checkComesBackProg(t *testing.T, list []instr) {
	t.Helper()
	text, ok := impl.WriteProg(list)
	if !ok || len(text) > mostProgText {
		t.Fatalf("%v is not written: %q", list, text)
	}
	checkReadProg(t, text, list, -1, true)
	checkProgText(t, text)
	checkProg(t, list)
}

// Two programs have two texts.
func TestTextsOfProgsDiffer(t *testing.T) {
	seen := map[string]instr{}
	eachInstr(1, func(in instr) {
		text, _ := impl.WriteProg([]instr{in})
		if other, there := seen[text]; there {
			t.Errorf("%v and %v are both %q", other, in, text)
		}
		seen[text] = in
	})
}

func plainTouches(list []instr) []int {
	if !plainProg(list) {
		return nil
	}
	named := map[int]bool{}
	for _, in := range list {
		if in.Op == 1 {
			named[in.B] = true
		} else if in.Op == 2 {
			named[in.A] = true
		}
	}
	var objects []int
	for object := range 8 {
		if named[object] {
			objects = append(objects, object)
		}
	}
	return objects
}

func plainStraight(list []instr) bool {
	for _, in := range list {
		if in.Op == 5 || in.Op == 8 {
			return false
		}
	}
	return plainProg(list)
}

func TestTouches(t *testing.T) {
	for _, c := range []struct {
		text string
		want []int
	}{
		{"", nil},
		{"commit\nabort\n", nil},
		{"set 1 5\nadd 2 3\nif 2 1\ngo 3\n", nil}, // their numbers are no objects
		{"read 2 0\n", []int{0}}, {"write 0 2\n", []int{0}}, {"read 0 7\n", []int{7}}, {"write 7 0\n", []int{7}}, {"read 3 1\n", []int{1}}, {"write 1 3\n", []int{1}},
		{"read 0 5\nread 1 5\n", []int{5}}, {"write 5 0\nwrite 5 1\n", []int{5}}, {"read 0 5\nwrite 5 0\n", []int{5}}, {"write 5 0\nread 0 5\n", []int{5}},
		{"read 0 7\nread 0 3\nread 0 0\n", []int{0, 3, 7}}, {"write 6 1\nread 2 4\nwrite 1 0\nread 3 6\n", []int{1, 4, 6}},
		{"read 1 2\nwrite 2 1\nread 1 1\ncommit\nwrite 0 3\n", []int{0, 1, 2}},
		{"go 2\nread 0 4\n", []int{4}}, {"abort\nabort\nwrite 3 0\n", []int{3}}, {"go 1\nwrite 6 0\nread 0 1\n", []int{1, 6}}, // also where no step comes by
		{"read 0 7\nread 0 6\nread 0 5\nread 0 4\nwrite 3 0\nwrite 2 0\nwrite 1 0\nwrite 0 0\n", []int{0, 1, 2, 3, 4, 5, 6, 7}},
		{strings.Repeat("commit\n", 29) + "read 0 6\n", []int{6}}, {"write 6 0\n" + strings.Repeat("abort\n", 29), []int{6}}, {strings.Repeat("read 0 2\n", 30), []int{2}},
	} {
		list, _, read := impl.ReadProg(c.text)
		if objects, ok := impl.Touches(list); !read || !ok || !slices.Equal(objects, c.want) {
			t.Errorf("%q: %v %v, not %v", c.text, objects, ok, c.want)
		}
	}
	if objects, ok := impl.Touches([]instr{}); !ok || len(objects) != 0 {
		t.Error("the empty program that is not nil:", objects, ok)
	}
	for name, list := range badProgs() {
		if objects, ok := impl.Touches(list); ok || len(objects) != 0 {
			t.Errorf("%s: %v %v", name, objects, ok)
		}
	}
}

func TestStraight(t *testing.T) {
	for _, c := range []struct {
		text string
		want bool
	}{
		{"", true}, {"commit\n", true}, {"abort\n", true}, {"read 0 5\nset 0 8\nadd 0 1\nwrite 5 0\ncommit\nabort\n", true}, {strings.Repeat("commit\n", 30), true},
		{"go 0\n", false}, {"go 1\n", false}, {"if 0 0\n", false}, {"if 0 1\n", false}, {"go 1\ncommit\n", false}, {"commit\ngo 2\n", false}, {"commit\nif 0 2\n", false},
		{"commit\nif 1 2\nabort\n", false}, {"if 1 1\ngo 2\n", false}, {strings.Repeat("commit\n", 29) + "go 30\n", false}, {"if 0 1\n" + strings.Repeat("commit\n", 29), false},
	} {
		list, _, read := impl.ReadProg(c.text)
		if !read || impl.Straight(list) != c.want {
			t.Errorf("%q: not %v", c.text, c.want)
		}
	}
	if !impl.Straight([]instr{}) {
		t.Error("the empty program that is not nil: not straight")
	}
	for name, list := range badProgs() {
		if impl.Straight(list) {
			t.Errorf("%s: straight", name)
		}
	}
}

// TestAllShortProgs asks every list of at most three of some instructions, good ones and bad ones.
func TestAllShortProgs(t *testing.T) {
	some := []instr{
		does(impl.DoRead, 1, 0), does(impl.DoRead, 0, 7), does(impl.DoWrite, 7, 1), does(impl.DoWrite, 3, 3), does(impl.DoSet, 3, 5), does(impl.DoAdd, 2, 3),
		does(impl.DoIf, 0, 2), does(impl.DoIf, 2, 3), does(impl.DoCommit, 0, 0), does(impl.DoAbort, 0, 0), does(impl.DoGo, 1, 0), does(impl.DoGo, 3, 0),
		{}, does(9, 0, 0), does(impl.DoRead, 4, 0), does(impl.DoWrite, 8, 0), does(impl.DoCommit, 0, 1), does(impl.DoGo, 0, 1), does(impl.DoSet, 0, top+1),
	}
	for _, first := range some {
		checkProg(t, []instr{first})
		for _, second := range some {
			checkProg(t, []instr{first, second})
			for _, third := range some {
				checkProg(t, []instr{first, second, third})
			}
		}
	}
}

// everyProg is each list of the tests above, good and bad.
func everyProg() map[string][]instr {
	all := badProgs()
	for text, list := range goodProgs() {
		all["good: "+text] = list
	}
	return all
}

// Promise 19: nothing is written into an argument, nor behind it, and what lies behind it counts for nothing.
func TestProgsWriteNothing(t *testing.T) {
	for name, plain := range everyProg() {
		for _, behind := range []instr{{}, does(impl.DoRead, 0, 6), does(impl.DoGo, 0, 0), does(-9, -9, -9)} {
			g := guard(plain, behind)
			text, written := impl.WriteProg(g.list())
			objects, told := impl.Touches(g.list())
			isOk, straight := impl.ProgOk(g.list()), impl.Straight(g.list())
			g.check(t, name)
			if isOk != plainProg(plain) || written != isOk || told != isOk || straight != plainStraight(plain) {
				t.Errorf("%s: what lies behind is read: %v %v %v %v", name, isOk, written, told, straight)
			}
			if !slices.Equal(objects, plainTouches(plain)) || isOk && text != plainProgText(plain) {
				t.Errorf("%s: what lies behind is read: %q %v", name, text, objects)
			}
		}
	}
}

// Promise 19: every answer is new memory, and nothing is kept from one call to another.
func TestProgsShareNothing(t *testing.T) {
	for text, want := range goodProgs() {
		list, _, _ := impl.ReadProg(text)
		objects, _ := impl.Touches(want)
		overwrite(list, does(-7, -7, -7))
		overwrite(objects, -7)
		checkReadProg(t, text, want, -1, true)
		checkProg(t, want)
	}
	// What is refused leaves nothing behind.
	for _, line := range badLines() {
		impl.ReadProg("read 0 5\n" + line + "\n")
		checkReadProg(t, "abort\n", []instr{does(impl.DoAbort, 0, 0)}, -1, true)
	}
}

// Many who call at once are answered as one alone is. The first of these calls may be the first of all.
func TestProgsAtOnce(t *testing.T) {
	text := "read 0 2\nset 1 7\nadd 0 1\nwrite 5 0\nif 0 6\ncommit\nabort\ngo 0\n"
	backs, names := make([]string, 16), make([]string, 16)
	var all sync.WaitGroup
	for i := range backs {
		all.Go(func() {
			names[i] = impl.InstrName(1 + i%8)
			list, _, _ := impl.ReadProg(text)
			backs[i], _ = impl.WriteProg(list)
		})
	}
	all.Wait()
	for i, back := range backs {
		if back != text || names[i] != progForms[1+i%8].name {
			t.Errorf("%q %q", back, names[i])
		}
	}
}
