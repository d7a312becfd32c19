package tests

import (
	"math"
	"math/big"
	"regexp"
	"slices"
	"strconv"
	"strings"
	"testing"

	"loop.example/g00087/impl"
)

type run = impl.Run

const mostWays = 1000000000000000

// runs makes a schedule of pairs: a thread and how many steps it takes.
func runs(pairs ...int) []run {
	var list []run
	for i := 0; i < len(pairs); i += 2 {
		list = append(list, run{Thread: pairs[i], Many: pairs[i+1]})
	}
	return list
}

// words is a text of many times the same word.
func words(word string, many int) string {
	return strings.Join(alike(word, many), " ")
}

// goodSchedules are ScheduleOk, at the limits and within, each with its text.
func goodSchedules() map[string][]run {
	return map[string][]run{
		"":                        nil,
		"0":                       runs(0, 1),
		"3":                       runs(3, 1),
		"0*2":                     runs(0, 2),
		"1*9":                     runs(1, 9),
		"2*10":                    runs(2, 10),
		"2*99":                    runs(2, 99),
		"3*100":                   runs(3, 100),
		"1*499":                   runs(1, 499),
		"3*500":                   runs(3, 500),
		"0*3 2":                   runs(0, 3, 2, 1),
		"1 1":                     runs(1, 1, 1, 1),
		"1*2 1 1*3":               runs(1, 2, 1, 1, 1, 3),
		"3 2 1 0":                 runs(3, 1, 2, 1, 1, 1, 0, 1),
		"0*500 1*500 2*500":       runs(0, 500, 1, 500, 2, 500),
		"0*500 0*500 0*499 0":     runs(0, 500, 0, 500, 0, 499, 0, 1),
		"3*500 3*500 3*499":       runs(3, 500, 3, 500, 3, 499),
		words("2", 59):            alike(run{Thread: 2, Many: 1}, 59),
		words("2", 60):            alike(run{Thread: 2, Many: 1}, 60),
		words("1*25", 60):         alike(run{Thread: 1, Many: 25}, 60),
		words("3*2", 59) + " 0":   append(alike(run{Thread: 3, Many: 2}, 59), run{Many: 1}),
		words("0*100", 15):        alike(run{Many: 100}, 15),
		words("0*15", 59) + " 1":  append(alike(run{Many: 15}, 59), run{Thread: 1, Many: 1}),
		"0*500 " + words("1", 59): append(runs(0, 500), alike(run{Thread: 1, Many: 1}, 59)...),
	}
}

// badSchedules are not ScheduleOk, each for one reason.
func badSchedules() map[string][]run {
	bad := map[string][]run{
		"one run too many":              alike(run{Many: 1}, 61),
		"many runs too many":            alike(run{Many: 1}, 5000),
		"one step too many":             runs(0, 500, 1, 500, 2, 500, 3, 1),
		"one step too many, in a run":   runs(0, 500, 1, 500, 2, 499, 3, 2),
		"one step too many, most runs":  append(alike(run{Many: 25}, 59), run{Many: 26}),
		"most runs of the most":         alike(run{Many: 500}, 60),
		"steps that come around to few": runs(0, math.MaxInt, 1, math.MaxInt, 2, 4),
		"steps that come around to 0":   runs(0, math.MinInt, 1, math.MinInt),
		"a run below 0, and its other":  runs(0, -2, 1, 3),
		"a zero value":                  {{}},
	}
	for _, number := range []int{math.MinInt, -500, -1, 4, 5, 48, math.MaxInt} {
		bad["thread "+strconv.Itoa(number)] = runs(number, 1)
		bad["thread "+strconv.Itoa(number)+" at the end"] = runs(0, 2, 3, 1, number, 7)
	}
	for _, number := range []int{math.MinInt, -1, 0, 501, 1000, math.MaxInt} {
		bad["many "+strconv.Itoa(number)] = runs(1, number)
		bad["many "+strconv.Itoa(number)+" at the end"] = runs(0, 2, 3, 1, 2, number)
	}
	return bad
}

func TestLimitsOfSchedules(t *testing.T) {
	if impl.MaxThreads != 4 || impl.MaxRuns != 60 || impl.MaxSteps != 1500 {
		t.Error(impl.MaxThreads, impl.MaxRuns, impl.MaxSteps)
	}
	codes := []int{impl.SchedWell, impl.SchedLong, impl.SchedWord, impl.SchedMany}
	if !slices.Equal(codes, placesTo(4)) {
		t.Error(codes)
	}
}

func TestScheduleOk(t *testing.T) {
	for text, list := range goodSchedules() {
		if !impl.ScheduleOk(list) {
			t.Errorf("%q: refused", text)
		}
	}
	if !impl.ScheduleOk([]run{}) {
		t.Error("the empty list that is not nil: refused")
	}
	for name, list := range badSchedules() {
		if impl.ScheduleOk(list) {
			t.Errorf("%s: taken", name)
		}
	}
}

func TestWriteSchedule(t *testing.T) {
	for want, list := range goodSchedules() {
		if text, ok := impl.WriteSchedule(list); !ok || text != want {
			t.Errorf("%q: %q %v", want, text, ok)
		}
	}
	if text, ok := impl.WriteSchedule([]run{}); !ok || text != "" {
		t.Errorf("the empty list that is not nil: %q %v", text, ok)
	}
	for name, list := range badSchedules() {
		if text, ok := impl.WriteSchedule(list); ok || text != "" {
			t.Errorf("%s: %q %v", name, text, ok)
		}
	}
}

func checkRead(t *testing.T, text string, want []run, wantCode int, wantAt int) {
	t.Helper()
	list, code, at := impl.ReadSchedule(text)
	if !slices.Equal(list, want) || code != wantCode || at != wantAt {
		t.Errorf("%q: %v %d %d, not %v %d %d", text, list, code, at, want, wantCode, wantAt)
	}
}

func TestReadSchedule(t *testing.T) {
	for text, want := range goodSchedules() {
		checkRead(t, text, want, impl.SchedWell, 0)
	}
}

func TestReadBlanks(t *testing.T) {
	for _, c := range []struct {
		text string
		at   int
	}{
		{" ", 0}, {"  ", 0}, {" 0", 0}, {"  0", 0}, {" 0 ", 0}, {" x", 0}, // at the beginning
		{"0 ", 2}, {"1*2 ", 4}, {"0 1 ", 4}, {"0*500 3*17 ", 11}, // at the end: at the length
		{"0  ", 2}, {"0  1", 2}, {"0 1  2", 4}, {"0*30   1", 5}, {"0  x", 2}, // side by side: at the second one
		{words("3", 60) + " ", 120}, {words("3", 59) + " ", 118}, {words("3", 59) + "  3", 118},
		{"0*500 1*500 2*500 ", 18}, {"0*500 1*500 2*500  3", 18},
	} {
		checkRead(t, c.text, nil, impl.SchedWord, c.at)
	}
	for _, other := range []string{"\t", "\n", "\r", "\x00", "\v", "\u00a0", "\u2003", ",", "_"} {
		checkRead(t, other, nil, impl.SchedWord, 0)
		checkRead(t, "2 0"+other+"1", nil, impl.SchedWord, 2)
		checkRead(t, "2 0"+other, nil, impl.SchedWord, 2)
		checkRead(t, "2 0 "+other+"1", nil, impl.SchedWord, 4)
		checkRead(t, other+"1", nil, impl.SchedWord, 0)
	}
}

// badWords are none, whatever stands beside them.
func badWords() []string {
	return []string{
		"4", "5", "9", "-1", "+1", "-0", "+0", "00", "01", "10", "03", "0x1", "1_", "x", "O", "/", ":", "\xff", "\u0660", "\uff10", "0\x00",
		"*", "**", "*2", "*0", "0*", "3*", "0**", "0**2", "0*2*", "0*2*2", "*0*2", "4*2", "9*500", "-1*2", "+1*2", "00*2", "01*2", "12*2",
		"0*0", "3*0", "0*1", "3*1", "0*00", "0*01", "0*02", "0*002", "0*010", "0*099", "0*000", "0*0500",
		"0*501", "3*501", "0*502", "0*510", "0*600", "0*999", "0*1000", "0*0002", "0*1500", "0*5000", "0*00500",
		"0*18446744073709551618", "0*9223372036854775808", "0*99999999999999999999999", "18446744073709551616", "4294967296*2", "0*4294967298",
		"0*-2", "0*+2", "0*2x", "0*x2", "0*x", "0*2.", "0*2e1", "0*1e2", "0*0x2", "0*1_0", "0*\uff12", "0*2\x00", "0*2\n", "0x2", "0-2", "0.5",
		"1*2\t1", "1,2", "1;2",
	}
}

func TestReadNoWord(t *testing.T) {
	for _, word := range badWords() {
		checkRead(t, word, nil, impl.SchedWord, 0)
		checkRead(t, word+" 1", nil, impl.SchedWord, 0)
		checkRead(t, "1 "+word, nil, impl.SchedWord, 2)
		checkRead(t, "1*20 3 "+word+" 4 0*1", nil, impl.SchedWord, 7)
		// SchedWord is ahead of SchedMany at one word.
		checkRead(t, words("1", 60)+" "+word, nil, impl.SchedWord, 120)
		checkRead(t, "0*500 0*500 0*500 "+word, nil, impl.SchedWord, 18)
		// Word by word: the word that is one too many comes first.
		checkRead(t, words("1", 61)+" "+word, nil, impl.SchedMany, 120)
		checkRead(t, "0*500 0*500 0*500 3 "+word, nil, impl.SchedMany, 18)
	}
}

func TestReadTooMany(t *testing.T) {
	for _, c := range []struct {
		text string
		at   int
	}{
		{words("0", 61), 120}, {words("0", 62), 120}, {words("3*2", 61), 240}, {words("3", 59) + " 1*500 2", 124},
		{"0*500 1*500 2*500 3", 18}, {"0*500 1*500 2*499 3*2", 18}, {"0*500 1*500 2*499 3 0", 20}, {"3*499 3*499 3*499 3*4", 18},
		{"0*500 0*500 0*500 0*500", 18}, {"0 0*500 0*500 0*500", 14}, {words("1*25", 59) + " 1*26", 295}, {words("1*25", 60) + " 1", 300},
		{words("1*25", 60) + " 1*500", 300}, {words("1*26", 60), 285}, {words("3", 60) + " 3 ", 120}, {words("3", 60) + " 3  4", 120},
	} {
		checkRead(t, c.text, nil, impl.SchedMany, c.at)
	}
}

// No schedule has so long a text, so of 600 bytes the words are looked at, and of one more they are not.
func TestReadTooLong(t *testing.T) {
	for _, c := range []struct {
		text string
		code int
		at   int
	}{
		{words("0", 300) + " ", impl.SchedMany, 120},
		{strings.Repeat("0", 600), impl.SchedWord, 0},
		{strings.Repeat(" ", 600), impl.SchedWord, 0},
		{"0 " + strings.Repeat("x", 598), impl.SchedWord, 2},
		{"0 0*" + strings.Repeat("1", 596), impl.SchedWord, 2},
		{words("1", 60) + " " + strings.Repeat("0", 480), impl.SchedWord, 120},
		{strings.Repeat("\xff", 600), impl.SchedWord, 0},
	} {
		if len(c.text) != 600 {
			t.Fatal(len(c.text), c.text)
		}
		checkRead(t, c.text, nil, c.code, c.at)
		checkRead(t, c.text[:599], nil, c.code, c.at)
		for _, more := range []string{" ", "0", "x", " 0", strings.Repeat(" 0", 5000)} {
			checkRead(t, c.text+more, nil, impl.SchedLong, 0)
		}
	}
	checkRead(t, words("0", 301), nil, impl.SchedLong, 0)
	// Bytes are counted, and not what they mean together.
	checkRead(t, strings.Repeat("\u00e9", 300), nil, impl.SchedWord, 0)
	checkRead(t, strings.Repeat("\u00e9", 301), nil, impl.SchedLong, 0)
}

var plainWord = regexp.MustCompile(`^[0-3](\*[1-9][0-9]{0,2})?$`)

// plainRead reads a schedule as the document tells it, with words cut beforehand.
func plainRead(text string) ([]run, int, int) {
	if len(text) > 600 {
		return nil, impl.SchedLong, 0
	}
	if text == "" {
		return nil, impl.SchedWell, 0
	}
	var list []run
	at, steps := 0, 0
	for _, word := range strings.Split(text, " ") {
		many := 1
		if len(word) > 2 {
			many, _ = strconv.Atoi(word[2:])
		}
		if !plainWord.MatchString(word) || len(word) > 2 && (many < 2 || many > 500) {
			return nil, impl.SchedWord, at
		}
		steps += many
		if len(list) == 60 || steps > 1500 {
			return nil, impl.SchedMany, at
		}
		list = append(list, run{Thread: int(word[0] - '0'), Many: many})
		at += len(word) + 1
	}
	return list, impl.SchedWell, 0
}

// checkText asks that a text is read as the document tells it, and that one that is well is written as itself.
func checkText(t *testing.T, text string) {
	t.Helper()
	list, code, at := impl.ReadSchedule(text)
	want, wantCode, wantAt := plainRead(text)
	if !slices.Equal(list, want) || code != wantCode || at != wantAt {
		t.Fatalf("%q: %v %d %d, not %v %d %d", text, list, code, at, want, wantCode, wantAt)
	}
	if code != impl.SchedWell {
		return
	}
	if back, ok := impl.WriteSchedule(list); !ok || back != text || !impl.ScheduleOk(list) {
		t.Fatalf("%q is written as %q %v", text, back, ok)
	}
}

func TestReadAllShortTexts(t *testing.T) {
	texts := []string{""}
	for range 6 {
		var longer []string
		for _, text := range texts {
			for _, next := range []string{"0", "1", "3", "4", "5", "*", " "} {
				longer = append(longer, text+next)
			}
		}
		for _, text := range longer {
			checkText(t, text)
			checkText(t, "0*500 1*500 2*495 3 "+text)
		}
		texts = longer
	}
}

func TestReadEachByte(t *testing.T) {
	for i := range 256 {
		one := string([]byte{byte(i)})
		for _, text := range []string{one, one + " 0", "0 " + one, "2*" + one, "2*1" + one, "2*" + one + "0", "2" + one + "5", one + "*2", "2*40" + one, "1" + one} {
			checkText(t, text)
		}
		for k := range 256 {
			checkText(t, one+string([]byte{byte(k)}))
		}
	}
}

func TestReadEachNumber(t *testing.T) {
	for thread := range 6 {
		for many := range 1100 {
			head, number := strconv.Itoa(thread)+"*", strconv.Itoa(many)
			for _, noughts := range []string{"", "0", "00", "000"} {
				checkText(t, head+noughts+number)
			}
		}
	}
}

// Promise 5: a schedule comes back from its text.
func TestScheduleComesBack(t *testing.T) {
	for thread := range 4 {
		for many := 1; many <= 500; many++ {
			checkComesBack(t, runs(thread, many))
			checkComesBack(t, runs(thread, many, 3-thread, 501-many, thread, many))
		}
	}
	for text, list := range goodSchedules() {
		if text != "" {
			checkComesBack(t, list)
		}
	}
	for seed := range 3000 {
		var list []run
		for i := range seed % 61 {
			list = append(list, run{Thread: (seed + i*i) % 4, Many: 1 + (seed*7+i*i*13)%(1+seed%25)})
		}
		checkComesBack(t, list)
	}
}

func checkComesBack(t *testing.T, list []run) {
	t.Helper()
	text, ok := impl.WriteSchedule(list)
	if !ok {
		t.Fatalf("%v is not written", list)
	}
	if back, code, at := impl.ReadSchedule(text); !slices.Equal(back, list) || code != impl.SchedWell || at != 0 {
		t.Fatalf("%v, written as %q, comes back as %v %d %d", list, text, back, code, at)
	}
	checkText(t, text)
}

func TestSteps(t *testing.T) {
	for _, c := range []struct {
		list []run
		want []int
	}{
		{nil, nil},
		{[]run{}, nil},
		{runs(2, 1), []int{2}},
		{runs(0, 3, 2, 1), []int{0, 0, 0, 2}},
		{runs(3, 2, 3, 1, 0, 1, 1, 2, 3, 1), []int{3, 3, 3, 0, 1, 1, 3}},
		{runs(1, 500), alike(1, 500)},
		{runs(0, 500, 1, 500, 2, 500), slices.Concat(alike(0, 500), alike(1, 500), alike(2, 500))},
		{alike(run{Thread: 3, Many: 25}, 60), alike(3, 1500)},
		{alike(run{Thread: 3, Many: 1}, 60), alike(3, 60)},
	} {
		if steps, ok := impl.Steps(c.list); !ok || !slices.Equal(steps, c.want) {
			t.Errorf("%v: %v %v", c.list, steps, ok)
		}
	}
	for name, list := range badSchedules() {
		if steps, ok := impl.Steps(list); ok || len(steps) != 0 {
			t.Errorf("%s: %v %v", name, steps, ok)
		}
	}
}

// Steps are as many as told, of each thread, and in the order of the runs.
func TestStepsAreAsManyAsTold(t *testing.T) {
	for text, list := range goodSchedules() {
		steps, ok := impl.Steps(list)
		if !ok {
			t.Fatalf("%q: false", text)
		}
		var told [4]int
		from := 0
		for _, r := range list {
			told[r.Thread] += r.Many
			if !slices.Equal(steps[from:from+r.Many], alike(r.Thread, r.Many)) {
				t.Errorf("%q: the run at step %d", text, from)
			}
			from += r.Many
		}
		if from != len(steps) {
			t.Errorf("%q: %d steps, not %d", text, len(steps), from)
		}
		for thread, many := range told {
			if left := impl.Left5(steps, thread, 0); left != many {
				t.Errorf("%q: thread %d has %d steps, not %d", text, thread, left, many)
			}
		}
	}
}

func TestFair(t *testing.T) {
	around := slices.Concat(alike([]int{0, 1, 2, 3}, 375)...)
	late := append(alike(0, 1499), 1)
	for _, c := range []struct {
		name            string
		steps           []int
		threads, within int
		want            int
	}{
		{"no steps", nil, 4, 1, -1},
		{"no steps, and the longest window", []int{}, 1, 1500, -1},
		{"one step of the one thread", []int{0}, 1, 1, -1},
		{"one step of another one", []int{3}, 1, 1, 0},
		{"one step, two threads", []int{0}, 2, 1, 0},
		{"one step, a longer window", []int{3}, 4, 2, -1},
		{"a window as long as the steps", []int{0, 0, 0}, 2, 3, 0},
		{"a window longer by one", []int{0, 0, 0}, 2, 4, -1},
		{"the longest window", []int{0, 0, 0}, 4, 1500, -1},
		{"it begins at 0", []int{0, 0, 1, 0, 1}, 2, 2, 0},
		{"it ends at the last step", []int{0, 1, 0, 1, 1}, 2, 2, 3},
		{"it is one step, the last", []int{0, 0, 0, 1}, 1, 1, 3},
		{"the first of several", []int{0, 1, 0, 0, 0}, 2, 3, 2},
		{"within just what is left out", []int{1, 0, 0, 1}, 2, 2, 1},
		{"one more than is left out", []int{1, 0, 0, 1}, 2, 3, -1},
		{"left out at the beginning", []int{0, 0, 1, 0}, 2, 2, 0},
		{"left out at the end", []int{0, 1, 0, 0}, 2, 2, 2},
		{"the last thread is left out", []int{3, 0, 1, 2, 0, 1, 2, 3}, 4, 6, 1},
		{"of fewer threads it is none", []int{3, 0, 1, 2, 0, 1, 2, 3}, 3, 4, -1},
		{"steps of others count in a window", []int{0, 3, 3, 0}, 1, 2, 1},
		{"threads go around", around, 4, 4, -1},
		{"threads go around, a lesser window", around, 4, 3, 0},
		{"most steps, the longest window", alike(0, 1500), 2, 1500, 0},
		{"most steps, all of one thread", alike(0, 1500), 1, 1500, -1},
		{"the other one comes last", late, 2, 1500, -1},
		{"the other one comes last, one less", late, 2, 1499, 0},
		{"the other one comes first", append([]int{1}, alike(0, 1499)...), 2, 1499, 1},
		{"only the last step is left out", append(alike(0, 1499), 1), 1, 1, 1499},
	} {
		if place, ok := impl.Fair(c.steps, c.threads, c.within); !ok || place != c.want {
			t.Errorf("%s: %d %v", c.name, place, ok)
		}
	}
}

func TestFairRefuses(t *testing.T) {
	steps := []int{0, 1, 2, 3}
	for _, c := range []struct {
		name            string
		steps           []int
		threads, within int
	}{
		{"no thread", steps, 0, 2},
		{"threads below 0", steps, -1, 2},
		{"one thread too many", steps, 5, 2},
		{"least threads", steps, math.MinInt, 2},
		{"greatest threads", steps, math.MaxInt, 2},
		{"a window of nothing", steps, 2, 0},
		{"a window below 0", steps, 2, -1},
		{"a window longer by one than the most", steps, 2, 1501},
		{"least window", steps, 2, math.MinInt},
		{"greatest window", steps, 2, math.MaxInt},
		{"one step too many", alike(0, 1501), 1, 2},
		{"many steps too many", alike(0, 5000), 2, 2},
		{"a step of no thread", []int{4}, 4, 1},
		{"a step of no thread, below", []int{-1}, 1, 1},
		{"a step of no thread at the end, behind a window", []int{0, 0, 0, 4}, 2, 1},
		{"a step of no thread at the end, ahead of a window", []int{0, 1, 4}, 2, 3},
		{"a step of no thread at the beginning", []int{math.MinInt, 0, 1}, 2, 2},
		{"a step of no thread, the greatest", []int{0, math.MaxInt, 1}, 2, 500},
		{"no steps, and no thread", nil, 0, 1},
		{"no steps, and no window", nil, 1, 0},
	} {
		if place, ok := impl.Fair(c.steps, c.threads, c.within); ok || place != -2 {
			t.Errorf("%s: %d %v", c.name, place, ok)
		}
	}
}

// plainFair looks at each window by itself.
func plainFair(steps []int, threads int, within int) int {
	for place := 0; place+within <= len(steps); place++ {
		for thread := range threads {
			if !slices.Contains(steps[place:place+within], thread) {
				return place
			}
		}
	}
	return -1
}

// Promise 5: what is fair leaves no thread out for longer than told; what is not does so at the place that is told first.
func TestFairOfAllShortLists(t *testing.T) {
	lists := [][]int{{}}
	for range 7 {
		for _, steps := range lists {
			for threads := 1; threads <= 4; threads++ {
				for within := 1; within <= len(steps)+2; within++ {
					place, ok := impl.Fair(steps, threads, within)
					if want := plainFair(steps, threads, within); !ok || place != want {
						t.Fatal(steps, threads, within, place, ok, "not", want)
					}
				}
			}
		}
		var longer [][]int
		for _, steps := range lists {
			for thread := range 4 {
				longer = append(longer, append(slices.Clone(steps), thread))
			}
		}
		lists = longer
	}
}

func TestFairOfSchedules(t *testing.T) {
	for text, list := range goodSchedules() {
		steps, _ := impl.Steps(list)
		for threads := 1; threads <= 4; threads++ {
			for _, within := range []int{1, 2, 24, 25, 26, 99, 499, 500, 501, 999, 1000, 1001, 1499, 1500} {
				place, ok := impl.Fair(steps, threads, within)
				if want := plainFair(steps, threads, within); !ok || place != want {
					t.Fatal(text, threads, within, place, ok, "not", want)
				}
			}
		}
	}
}

func TestLeft5(t *testing.T) {
	steps := []int{0, 1, 0, 3, 1, 0}
	for _, c := range []struct{ thread, from, want int }{
		{0, 0, 3}, {0, 1, 2}, {0, 2, 2}, {0, 3, 1}, {0, 5, 1}, {0, 6, 0},
		{1, 0, 2}, {1, 4, 1}, {1, 5, 0}, {3, 3, 1}, {3, 4, 0}, {2, 0, 0}, {2, 6, 0},
		{0, 7, -1}, {0, -1, -1}, {2, 7, -1}, {0, math.MinInt, -1}, {0, math.MaxInt, -1},
		{4, 0, 0}, {-1, 0, 0}, {-1, 6, 0}, {math.MinInt, 3, 0}, {math.MaxInt, 3, 0}, {4, 7, -1}, {-1, -1, -1},
	} {
		if left := impl.Left5(steps, c.thread, c.from); left != c.want {
			t.Error(c, left)
		}
	}
	for _, none := range [][]int{nil, {}} {
		if here, past, below := impl.Left5(none, 0, 0), impl.Left5(none, 0, 1), impl.Left5(none, 0, -1); here != 0 || past != -1 || below != -1 {
			t.Error("no steps:", here, past, below)
		}
	}
	// The chapter holds these steps to no limit.
	long := slices.Concat(alike(2, 3000), []int{7, -1, 2})
	if left := impl.Left5(long, 2, 1000); left != 2001 {
		t.Error("a long list:", left)
	}
	if seven, below := impl.Left5(long, 7, 0), impl.Left5(long, -1, 3001); seven != 1 || below != 1 {
		t.Error("steps of no thread:", seven, below)
	}
}

func TestWaysOf(t *testing.T) {
	for _, c := range []struct {
		counts []int
		want   int
	}{
		{nil, 1}, {[]int{}, 1}, {[]int{0}, 1}, {[]int{0, 0, 0, 0}, 1}, {[]int{1}, 1}, {[]int{60}, 1}, {[]int{0, 60, 0, 0}, 1},
		{[]int{1, 1}, 2}, {[]int{2, 1, 1}, 12}, {[]int{1, 1, 1, 1}, 24}, {[]int{3, 2}, 10}, {[]int{2, 2, 2, 2}, 2520}, {[]int{60, 1}, 61},
		{[]int{60, 60, 0, 0}[:1], 1}, {[]int{60, 2}, 1891}, {[]int{1, 60, 1}, 3782}, {[]int{25, 25}, 126410606437752},
		{[]int{17, 14, 3, 2}, 999716904648000}, // no counts have more ways that are told
		{[]int{60, 14}, 456002537343216}, {[]int{27, 26}, 973469712824056},
	} {
		if ways, ok := impl.WaysOf(c.counts); !ok || ways != c.want {
			t.Error(c.counts, ways, ok)
		}
	}
	for _, counts := range [][]int{
		{-1}, {61}, {0, -1}, {0, 0, 0, 61}, {-1, 61}, {math.MinInt}, {math.MaxInt}, {1, 2, 3, math.MinInt}, {1, 2, 3, math.MaxInt}, {60, -60}, // no counts
		{0, 0, 0, 0, 0}, {1, 1, 1, 1, 1}, {1, 1, 1, 1, 0}, alike(0, 5000), alike(60, 5), // too many
		{31, 10, 2, 2},                                                                // no counts that are refused have fewer ways
		{27, 27}, {60, 60}, {60, 60, 60}, {60, 60, 60, 60}, {1, 60, 60, 60}, {60, 15}, // too many ways
		{60, 60, -1}, {60, 60, 0, 0, 0}, {60, 60, 61}, // more than one reason
	} {
		if ways, ok := impl.WaysOf(counts); ok || ways != 0 {
			t.Error(counts, ways, ok)
		}
	}
}

// factorials are those of 0 .. most.
func factorials(most int) []*big.Int {
	list := []*big.Int{big.NewInt(1)}
	for n := 1; n <= most; n++ {
		list = append(list, new(big.Int).Mul(list[n-1], big.NewInt(int64(n))))
	}
	return list
}

// TestWaysOfAllCounts goes through all lists of four counts that fall: the exact number of ways is told, or refused.
func TestWaysOfAllCounts(t *testing.T) {
	factorial, most := factorials(240), big.NewInt(mostWays)
	ways := new(big.Int)
	for a := range 61 {
		for b := range a + 1 {
			for c := range b + 1 {
				for d := range c + 1 {
					ways.Quo(factorial[a+b+c+d], factorial[a])
					ways.Quo(ways, factorial[b])
					ways.Quo(ways, factorial[c])
					ways.Quo(ways, factorial[d])
					checkWays(t, ways, most, []int{a, b, c, d})
				}
			}
		}
	}
}

// checkWays asks for the counts as they are and turned about.
func checkWays(t *testing.T, ways *big.Int, most *big.Int, counts []int) {
	t.Helper()
	want, well := 0, ways.Cmp(most) <= 0
	if well {
		want = int(ways.Int64())
	}
	a, b, c, d := counts[0], counts[1], counts[2], counts[3]
	for _, turned := range [][]int{counts, {d, c, b, a}, {b, d, a, c}} {
		if told, ok := impl.WaysOf(turned); ok != well || told != want {
			t.Fatal(turned, told, ok, "not", want, well)
		}
	}
}

// Ways are as many as there are lists with just so many steps of each.
func TestWaysAreCounted(t *testing.T) {
	counted := map[[4]int]int{{}: 1}
	ends := [][4]int{{}}
	for range 8 {
		var next [][4]int
		for _, end := range ends {
			for thread := range 4 {
				then := end
				then[thread]++
				counted[then]++
				next = append(next, then)
			}
		}
		ends = next
	}
	for counts, want := range counted {
		if ways, ok := impl.WaysOf(counts[:]); !ok || ways != want {
			t.Error(counts, ways, ok, "not", want)
		}
	}
}

// Promise 19: nothing is written into an argument, nor behind it, and what lies behind it counts for nothing.
func TestSchedulesWriteNothing(t *testing.T) {
	schedules := badSchedules()
	for text, list := range goodSchedules() {
		schedules["good: "+text] = list
	}
	for name, plain := range schedules {
		g := guard(plain, run{Thread: 2, Many: 3})
		text, written := impl.WriteSchedule(g.list())
		steps, told := impl.Steps(g.list())
		wantText, wantWritten := impl.WriteSchedule(slices.Clone(plain))
		wantSteps, wantTold := impl.Steps(slices.Clone(plain))
		if impl.ScheduleOk(g.list()) != impl.ScheduleOk(slices.Clone(plain)) || text != wantText || written != wantWritten {
			t.Errorf("%s: what lies behind is read: %q", name, text)
		}
		if told != wantTold || !slices.Equal(steps, wantSteps) {
			t.Errorf("%s: what lies behind is read: %v", name, steps)
		}
		g.check(t, name)
	}
}

func TestStepsAreNotWritten(t *testing.T) {
	for _, plain := range [][]int{{}, {0}, {0, 1, 2, 3, 3, 1}, {0, 0, 0, 4}, {-1, 1}, {60, 60, 3}, {2, 1, 1, 0}, alike(0, 1500), alike(1, 1501)} {
		for _, behind := range []int{0, 3, 77} {
			g := guard(plain, behind)
			for _, number := range []int{math.MinInt, -1, 0, 1, 2, 3, 4, len(plain), len(plain) + 1, 1500, math.MaxInt} {
				for _, other := range []int{0, 1, 2, 4, 5} {
					place, ok := impl.Fair(g.list(), other, number)
					if wantPlace, wantOk := impl.Fair(slices.Clone(plain), other, number); place != wantPlace || ok != wantOk {
						t.Error("fair:", len(plain), behind, other, number, place, ok)
					}
					if left, want := impl.Left5(g.list(), other, number), impl.Left5(slices.Clone(plain), other, number); left != want {
						t.Error("left:", len(plain), behind, other, number, left)
					}
				}
			}
			ways, ok := impl.WaysOf(g.list())
			if want, wantOk := impl.WaysOf(slices.Clone(plain)); ways != want || ok != wantOk {
				t.Error("ways:", plain, behind, ways, ok)
			}
			g.check(t, "steps")
		}
	}
}

// Promise 19: every answer is new memory, and nothing is kept from one call to another.
func TestSchedulesShareNothing(t *testing.T) {
	for text, want := range goodSchedules() {
		wantSteps, _ := impl.Steps(want)
		wantSteps = slices.Clone(wantSteps)
		list, _, _ := impl.ReadSchedule(text)
		steps, _ := impl.Steps(want)
		overwrite(list, run{Thread: -7, Many: -7})
		overwrite(steps, -7)
		checkRead(t, text, want, impl.SchedWell, 0)
		if again, ok := impl.Steps(want); !ok || !slices.Equal(again, wantSteps) {
			t.Errorf("%q: the steps are kept: %v", text, again)
		}
	}
}
