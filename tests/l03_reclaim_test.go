package tests

import (
	"maps"
	"math"
	"slices"
	"strconv"
	"testing"

	"loop.example/g00087/impl"
)

type (
	yard = impl.Yard
	gone = impl.Gone
)

const mostPasses = 1000000

func goneAt(handle int, pass int) gone {
	return gone{Handle: handle, Pass: pass}
}

func sameYard(a yard, b yard) bool {
	return sameArena(a.Arena, b.Arena) && slices.Equal(a.Pins, b.Pins) && slices.Equal(a.Retired, b.Retired) && a.Passes == b.Passes
}

func cloneYard(y yard) yard {
	return yard{Arena: cloneArena(y.Arena), Pins: slices.Clone(y.Pins), Retired: slices.Clone(y.Retired), Passes: y.Passes}
}

// classedYard has a block of each class: 0 is used, 1 spent, 2 and 3 are free, 4 is retired.
func classedYard() yard {
	return yard{Arena: mixedArena(), Pins: []int{-1, 3, 5}, Retired: []gone{goneAt(4*8+4, 3)}, Passes: 5}
}

// usedYard has that many blocks, all in use at Gen 0 and none retired.
func usedYard(t *testing.T, blocks int, pins []int, passes int) yard {
	t.Helper()
	return yard{Arena: newArena(t, blocks, blocks), Pins: pins, Passes: passes}
}

// retiredYard is a usedYard of which the first blocks were retired, one at each of the passes.
func retiredYard(t *testing.T, blocks int, pins []int, passes int, at ...int) yard {
	t.Helper()
	y := usedYard(t, blocks, pins, passes)
	for place, pass := range at {
		y.Retired = append(y.Retired, goneAt(8*place, pass))
	}
	return y
}

// goodYards are YardOk, at the limits and within.
func goodYards(t *testing.T) map[string]yard {
	nobody := alike(-1, 2)
	return map[string]yard{
		"a block of each class":        classedYard(),
		"one block, one thread":        usedYard(t, 1, []int{-1}, 0),
		"most threads, not pinned":     usedYard(t, 2, alike(-1, 6), 9),
		"most threads, pinned":         usedYard(t, 2, []int{0, 1, 2, 3, 8, 9}, 9),
		"pinned at Passes 0":           usedYard(t, 2, []int{0, 0}, 0),
		"retired at Passes 0":          retiredYard(t, 2, nobody, 0, 0, 0),
		"retired at Passes":            retiredYard(t, 2, nobody, 7, 7),
		"passes rise, and stay":        retiredYard(t, 4, nobody, 7, 0, 2, 2, 7),
		"most retired":                 retiredYard(t, 24, nobody, 1, alike(1, 24)...),
		"all but one of most retired":  retiredYard(t, 24, nobody, 1, alike(1, 23)...),
		"most passes":                  usedYard(t, 2, nobody, mostPasses),
		"all at the most passes":       retiredYard(t, 2, []int{mostPasses, 0}, mostPasses, 0, mostPasses),
		"one below the most passes":    retiredYard(t, 2, nobody, mostPasses-1, 0),
		"retired handles fall":         {Arena: newArena(t, 3, 3), Pins: nobody, Retired: []gone{goneAt(16, 0), goneAt(0, 1), goneAt(8, 1)}, Passes: 1},
		"nothing is in use":            {Arena: newArena(t, 3, 0), Pins: []int{4, -1}, Passes: 4},
		"all is spent":                 {Arena: arena{Blocks: alike(block{Gen: 5, Free: true}, 24)}, Pins: []int{0}},
		"empty lists that are not nil": {Arena: arena{Blocks: []block{{}}, List: []int{}}, Pins: []int{-1}, Retired: []gone{}},
	}
}

// badYards are not YardOk, each for one reason.
func badYards(t *testing.T) map[string]yard {
	nobody := alike(-1, 2)
	with := func(retired ...gone) yard {
		y := classedYard()
		y.Retired = retired
		return y
	}
	bad := map[string]yard{
		"the zero value":               {},
		"no thread":                    usedYard(t, 2, nil, 0),
		"one thread too many":          usedYard(t, 2, alike(-1, 7), 0),
		"one thread too many, pinned":  usedYard(t, 2, alike(0, 7), 0),
		"a pin below -1":               usedYard(t, 2, []int{-1, -2}, 5),
		"least pin":                    usedYard(t, 2, []int{math.MinInt, 5}, 5),
		"a pin above Passes":           usedYard(t, 2, []int{5, 6}, 5),
		"a pin above Passes 0":         usedYard(t, 2, []int{1}, 0),
		"greatest pin":                 usedYard(t, 2, []int{math.MaxInt, 5}, 5),
		"Passes below 0":               usedYard(t, 2, nobody, -1),
		"least Passes":                 usedYard(t, 2, nobody, math.MinInt),
		"one pass too many":            usedYard(t, 2, nobody, mostPasses+1),
		"greatest Passes":              usedYard(t, 2, nobody, math.MaxInt),
		"a pass below 0":               retiredYard(t, 2, nobody, 5, -1),
		"a pass below 0, pinned":       retiredYard(t, 2, []int{0, 0}, 5, -1, 3),
		"least pass":                   retiredYard(t, 2, nobody, 5, math.MinInt),
		"a pass above Passes":          retiredYard(t, 2, nobody, 5, 5, 6),
		"a pass above Passes 0":        retiredYard(t, 2, nobody, 0, 1),
		"greatest pass":                retiredYard(t, 2, nobody, 5, math.MaxInt),
		"passes fall":                  retiredYard(t, 2, nobody, 5, 4, 3),
		"passes fall at the end":       retiredYard(t, 4, nobody, 5, 1, 2, 5, 4),
		"passes fall below an old one": retiredYard(t, 4, nobody, 5, 2, 4, 3, 5),
		"a handle stands twice":        with(goneAt(36, 3), goneAt(36, 3)),
		"a handle twice, passes apart": with(goneAt(36, 3), goneAt(36, 4)),
		"a handle twice, one between":  with(goneAt(36, 3), goneAt(2, 3), goneAt(36, 5)),
		"one more than most retired":   retiredYard(t, 24, nobody, 1, alike(1, 25)...),
		"most retired, and one twice":  with(append(retiredYard(t, 24, nobody, 1, alike(1, 24)...).Retired, goneAt(0, 1))...),
		"many more than most retired":  with(alike(goneAt(36, 3), 5000)...),
	}
	for name, a := range badArenas() {
		bad["the arena: "+name] = yard{Arena: a, Pins: []int{-1}}
	}
	for _, handle := range staleHandles() {
		bad["the handle "+strconv.Itoa(handle)] = with(goneAt(handle, 3))
		bad["the handle "+strconv.Itoa(handle)+" behind a live one"] = with(goneAt(36, 3), goneAt(handle, 3))
	}
	return bad
}

func TestLimitsOfYards(t *testing.T) {
	if impl.MaxPins != 6 || impl.MaxRetired != 24 {
		t.Error(impl.MaxPins, impl.MaxRetired)
	}
	codes := []int{impl.YardDone, impl.YardBad, impl.YardPinned, impl.YardLoose, impl.YardNot, impl.YardFull}
	if !slices.Equal(codes, placesTo(6)) {
		t.Error(codes)
	}
	classes := []int{impl.ClassFree, impl.ClassSpent, impl.ClassRetired, impl.ClassUsed}
	if !slices.Equal(classes, placesTo(4)) {
		t.Error(classes)
	}
}

func TestYardOk(t *testing.T) {
	for name, y := range goodYards(t) {
		if !impl.YardOk(y) {
			t.Errorf("%s: refused", name)
		}
	}
	for name, y := range badYards(t) {
		if impl.YardOk(y) {
			t.Errorf("%s: taken", name)
		}
	}
}

func TestNewYard(t *testing.T) {
	for _, blocks := range []int{1, 2, 23, 24} {
		for _, threads := range []int{1, 2, 5, 6} {
			y, ok := impl.NewYard(blocks, threads)
			want := yard{Arena: newArena(t, blocks, 0), Pins: alike(-1, threads)}
			if !ok || !sameYard(y, want) || !impl.YardOk(y) {
				t.Error(blocks, threads, y, ok)
			}
		}
	}
	for _, c := range []struct{ blocks, threads int }{
		{0, 1}, {-1, 2}, {25, 1}, {math.MinInt, 1}, {math.MaxInt, 6},
		{1, 0}, {2, -1}, {24, 7}, {1, math.MinInt}, {1, math.MaxInt}, {0, 0}, {25, 7},
	} {
		if y, ok := impl.NewYard(c.blocks, c.threads); ok || !sameYard(y, yard{}) {
			t.Error(c, y, ok)
		}
	}
}

func TestPinAndUnpin(t *testing.T) {
	for _, passes := range []int{0, 1, 5, mostPasses - 1, mostPasses} {
		for thread := range 6 {
			loose := retiredYard(t, 3, alike(-1, 6), passes, 0, passes)
			loose.Pins[(thread+1)%6] = passes / 2
			pinned := cloneYard(loose)
			pinned.Pins[thread] = passes
			if y, code := impl.Pin(loose, thread); code != impl.YardDone || !sameYard(y, pinned) {
				t.Error("pin", passes, thread, y, code)
			}
			if y, code := impl.Unpin(pinned, thread); code != impl.YardDone || !sameYard(y, loose) {
				t.Error("unpin", passes, thread, y, code)
			}
			if y, code := impl.Pin(pinned, thread); code != impl.YardPinned || !sameYard(y, pinned) {
				t.Error("pinned twice", passes, thread, y, code)
			}
			if y, code := impl.Unpin(loose, thread); code != impl.YardLoose || !sameYard(y, loose) {
				t.Error("unpinned twice", passes, thread, y, code)
			}
		}
	}
}

// Who is pinned stays pinned at the pass at which it pinned, also where it is asked again behind another pass.
func TestPinStaysAtItsPass(t *testing.T) {
	y, _ := impl.NewYard(1, 2)
	y, _ = impl.Pin(y, 0)
	y, _, _ = impl.Pass(y)
	y, code := impl.Pin(y, 0)
	if code != impl.YardPinned || !slices.Equal(y.Pins, []int{0, -1}) {
		t.Error("again:", y, code)
	}
	y, _ = impl.Unpin(y, 0)
	y, code = impl.Pin(y, 0)
	if code != impl.YardDone || !slices.Equal(y.Pins, []int{1, -1}) {
		t.Error("anew:", y, code)
	}
}

func TestNoThreadIsBad(t *testing.T) {
	for _, y := range []yard{classedYard(), usedYard(t, 2, alike(-1, 6), 0), usedYard(t, 2, alike(0, 6), 0), usedYard(t, 2, []int{-1}, 0)} {
		for _, thread := range []int{math.MinInt, -1, len(y.Pins), 6, 7, math.MaxInt} {
			if thread >= 0 && thread < len(y.Pins) {
				continue
			}
			if then, code := impl.Pin(y, thread); code != impl.YardBad || !sameYard(then, y) {
				t.Error("pin", y.Pins, thread, then, code)
			}
			if then, code := impl.Unpin(y, thread); code != impl.YardBad || !sameYard(then, y) {
				t.Error("unpin", y.Pins, thread, then, code)
			}
		}
	}
}

func TestRetire(t *testing.T) {
	y, code := impl.Retire(classedYard(), 2)
	want := classedYard()
	want.Retired = []gone{goneAt(36, 3), goneAt(2, 5)}
	if code != impl.YardDone || !sameYard(y, want) || !impl.YardOk(y) {
		t.Error("behind the others, at Passes:", y, code)
	}
	y, code = impl.Retire(usedYard(t, 1, []int{-1}, mostPasses), 0)
	if code != impl.YardDone || !sameYard(y, retiredYard(t, 1, []int{-1}, mostPasses, mostPasses)) {
		t.Error("at the most passes:", y, code)
	}
	// Retiring changes nothing of the arena: the handle is live until a pass gives it back.
	if !impl.Live(y.Arena, 0) {
		t.Error("retired, and not live")
	}
}

func TestRetireRefuses(t *testing.T) {
	for _, handle := range staleHandles() {
		if y, code := impl.Retire(classedYard(), handle); code != impl.YardNot || !sameYard(y, classedYard()) {
			t.Error("not live:", handle, y, code)
		}
	}
	if y, code := impl.Retire(classedYard(), 36); code != impl.YardNot || !sameYard(y, classedYard()) {
		t.Error("retired already:", y, code)
	}
	once, _ := impl.Retire(classedYard(), 2)
	for _, handle := range []int{2, 36} {
		if y, code := impl.Retire(once, handle); code != impl.YardNot || !sameYard(y, once) {
			t.Error("one of two retired already:", handle, y, code)
		}
	}
}

// Where MaxRetired are retired all blocks there can be are, so each other handle is none: YardNot comes ahead of YardFull.
func TestRetireTheMost(t *testing.T) {
	y := usedYard(t, 24, []int{-1, 2}, 2)
	for place := range 24 {
		var code int
		if y, code = impl.Retire(y, 8*(23-place)); code != impl.YardDone || len(y.Retired) != place+1 {
			t.Fatal(place, code, y.Retired)
		}
	}
	if !impl.YardOk(y) || y.Retired[0] != (goneAt(23*8, 2)) || y.Retired[23] != (goneAt(0, 2)) {
		t.Error("all are retired:", y.Retired)
	}
	for handle := -9; handle < 220; handle++ {
		if then, code := impl.Retire(y, handle); code != impl.YardNot || !sameYard(then, y) {
			t.Error("one more:", handle, code)
		}
	}
	y, many, code := impl.Pass(yard{Arena: y.Arena, Pins: []int{-1, -1}, Retired: y.Retired, Passes: 2})
	if many != 24 || code != impl.YardDone || !slices.Equal(y.Arena.List, placesTo(24)) || len(y.Retired) != 0 {
		t.Error("all are given back:", many, code, y)
	}
}

func TestPassGivesBackWhatNobodyHolds(t *testing.T) {
	at := []int{0, 1, 2, 2, 3, 4}
	for _, c := range []struct {
		name string
		pins []int
		many int
	}{
		{"nobody is pinned", []int{-1, -1, -1}, 6},
		{"pinned at the pass that is made", []int{-1, 4, -1}, 5},
		{"pinned at the pass ahead", []int{3, -1, -1}, 4},
		{"pinned where two were retired", []int{-1, -1, 2}, 2},
		{"pinned at 1", []int{1, -1, -1}, 1},
		{"pinned at 0", []int{-1, 0, -1}, 0},
		{"the least pin counts, first", []int{2, 4, 3}, 2},
		{"the least pin counts, last", []int{4, 3, 1}, 1},
		{"all are pinned at the same", []int{3, 3, 3}, 4},
	} {
		y := retiredYard(t, 7, c.pins, 4, at...)
		then, many, code := impl.Pass(y)
		want := cloneYard(y)
		for place := range c.many {
			want.Arena.Blocks[place] = block{Gen: 1, Free: true}
			want.Arena.List = slices.Insert(want.Arena.List, 0, place)
		}
		want.Retired = want.Retired[c.many:]
		want.Passes = 5
		if many != c.many || code != impl.YardDone || !sameYard(then, want) || !impl.YardOk(then) {
			t.Errorf("%s: %v %d %d", c.name, then, many, code)
		}
	}
}

// They are given back in the order in which they were retired, so the last one of them is the first of the free list.
func TestPassGivesBackInOrder(t *testing.T) {
	y := usedYard(t, 12, []int{-1, 1}, 1)
	var placesLeft []int
	for _, place := range []int{7, 2, 11, 0, 5, 10, 1, 9, 3, 8, 4} {
		y.Retired = append(y.Retired, goneAt(8*place, min(1, len(y.Retired)/3)))
	}
	y, many, code := impl.Pass(y)
	if many != 3 || code != impl.YardDone || !slices.Equal(y.Arena.List, []int{11, 2, 7}) {
		t.Error("some:", many, code, y.Arena.List)
	}
	for _, left := range y.Retired {
		placesLeft = append(placesLeft, left.Handle/8)
	}
	if !slices.Equal(placesLeft, []int{0, 5, 10, 1, 9, 3, 8, 4}) {
		t.Error("what stays is not in order:", y.Retired)
	}
	y, _ = impl.Unpin(y, 1)
	y, many, code = impl.Pass(y)
	if many != 8 || code != impl.YardDone || !slices.Equal(y.Arena.List, []int{4, 8, 3, 9, 1, 10, 5, 0, 11, 2, 7}) {
		t.Error("the others:", many, code, y.Arena.List)
	}
}

func TestPassOfWhatIsGoneForGood(t *testing.T) {
	y := classedYard()
	y.Pins = []int{-1, -1, 4}
	then, many, code := impl.Pass(y)
	want := cloneYard(y)
	want.Arena.Blocks[4] = block{Gen: 5, Free: true, Words: three{8, 9, 0}}
	want.Retired, want.Passes = nil, 6
	if many != 1 || code != impl.YardDone || !sameYard(then, want) {
		t.Error(then, many, code)
	}
	if impl.ClassOf(y, 4) != impl.ClassRetired || impl.ClassOf(then, 4) != impl.ClassSpent {
		t.Error("a block that has no Gen left is spent, not free")
	}
}

func TestPassOfNothing(t *testing.T) {
	y := usedYard(t, 2, []int{0, -1}, 3)
	then, many, code := impl.Pass(y)
	y.Passes = 4
	if many != 0 || code != impl.YardDone || !sameYard(then, y) {
		t.Error(then, many, code)
	}
}

func TestPassAtTheMostPasses(t *testing.T) {
	y := retiredYard(t, 2, []int{-1}, mostPasses-1, 7)
	y, many, code := impl.Pass(y)
	if many != 1 || code != impl.YardDone || y.Passes != mostPasses || !impl.YardOk(y) {
		t.Error("the last pass:", y, many, code)
	}
	full := retiredYard(t, 2, []int{-1}, mostPasses, 7)
	for _, y := range []yard{y, full} {
		if then, many, code := impl.Pass(y); many != 0 || code != impl.YardBad || !sameYard(then, y) {
			t.Error("one more:", then, many, code)
		}
	}
	// All else can still be done there.
	y, code = impl.Pin(full, 0)
	if code != impl.YardDone || y.Pins[0] != mostPasses {
		t.Error("pin:", y, code)
	}
	if y, code = impl.Retire(y, 8); code != impl.YardDone || y.Retired[1] != (goneAt(8, mostPasses)) {
		t.Error("retire:", y, code)
	}
}

func TestClassOf(t *testing.T) {
	y := classedYard()
	for place, want := range []int{impl.ClassUsed, impl.ClassSpent, impl.ClassFree, impl.ClassFree, impl.ClassRetired} {
		if got := impl.ClassOf(y, place); got != want {
			t.Error(place, got)
		}
	}
	for _, place := range []int{math.MinInt, -8, -1, 5, 6, 23, 24, math.MaxInt} {
		if got := impl.ClassOf(y, place); got != -1 {
			t.Error("no block:", place, got)
		}
	}
	// A handle is the place times 8 and the Gen: neither a place nor another Gen of it makes a block retired.
	y = yard{Arena: arena{Blocks: []block{{}, {Gen: 1}, {}}}, Pins: []int{-1}, Retired: []gone{goneAt(9, 0)}}
	for place, want := range []int{impl.ClassUsed, impl.ClassRetired, impl.ClassUsed} {
		if got := impl.ClassOf(y, place); got != want {
			t.Error("of a block in use:", place, got)
		}
	}
}

func TestCounts(t *testing.T) {
	nobody := []int{-1}
	for _, c := range []struct {
		name string
		y    yard
		want [4]int
	}{
		{"each class", classedYard(), [4]int{2, 1, 1, 1}},
		{"new", yard{Arena: newArena(t, 24, 0), Pins: nobody}, [4]int{24, 0, 0, 0}},
		{"in use", usedYard(t, 24, nobody, 3), [4]int{0, 0, 0, 24}},
		{"retired", retiredYard(t, 24, nobody, 3, alike(2, 24)...), [4]int{0, 0, 24, 0}},
		{"spent", yard{Arena: arena{Blocks: alike(block{Gen: 5, Free: true}, 24)}, Pins: nobody}, [4]int{0, 24, 0, 0}},
		{"in use and retired", retiredYard(t, 7, nobody, 3, 1, 2), [4]int{0, 0, 2, 5}},
	} {
		if got, ok := impl.Counts(c.y); !ok || got != c.want {
			t.Errorf("%s: %v %v", c.name, got, ok)
		}
	}
}

// YardBad is told ahead of the other codes, whatever thread or handle is named, and the yard comes back as it was.
func TestBadYardsAreRefused(t *testing.T) {
	for name, y := range badYards(t) {
		was := cloneYard(y)
		for _, number := range append(oddNumbers(), 36) {
			for what, call := range map[string]func(yard, int) (yard, int){"pin": impl.Pin, "unpin": impl.Unpin, "retire": impl.Retire} {
				if then, code := call(y, number); code != impl.YardBad || !sameYard(then, was) {
					t.Errorf("%s: %s %d: %v %d", name, what, number, then, code)
				}
			}
			if class := impl.ClassOf(y, number); class != -1 {
				t.Errorf("%s: the class of %d is %d", name, number, class)
			}
		}
		if then, many, code := impl.Pass(y); many != 0 || code != impl.YardBad || !sameYard(then, was) {
			t.Errorf("%s: pass %v %d %d", name, then, many, code)
		}
		if counts, ok := impl.Counts(y); ok || counts != [4]int{} {
			t.Errorf("%s: counts %v %v", name, counts, ok)
		}
	}
}

// Promise 19: every function answers at any arguments, with what its code says.
func TestYardsAnswerAtAnyArguments(t *testing.T) {
	for name, y := range goodYards(t) {
		for _, number := range append(oddNumbers(), staleHandles()...) {
			isThread := number >= 0 && number < len(y.Pins)
			then, code := impl.Pin(y, number)
			checkCode(t, name, y, then, code, map[int]bool{impl.YardBad: !isThread, impl.YardPinned: isThread && y.Pins[number] >= 0})
			then, code = impl.Unpin(y, number)
			checkCode(t, name, y, then, code, map[int]bool{impl.YardBad: !isThread, impl.YardLoose: isThread && y.Pins[number] < 0})
			then, code = impl.Retire(y, number)
			isRetired := slices.ContainsFunc(y.Retired, func(g gone) bool { return g.Handle == number })
			checkCode(t, name, y, then, code, map[int]bool{impl.YardNot: isRetired || !impl.Live(y.Arena, number)})
			if class := impl.ClassOf(y, number); class == -1 && number >= 0 && number < len(y.Arena.Blocks) || class > 3 || class < -1 {
				t.Errorf("%s: the class of %d is %d", name, number, class)
			}
		}
	}
}

// checkCode asks for the one code whose reason holds, else YardDone; the yard stays as it was just where it is refused.
func checkCode(t *testing.T, name string, y yard, then yard, code int, reasons map[int]bool) {
	t.Helper()
	want := impl.YardDone
	for reason, holds := range reasons {
		if holds {
			want = reason
		}
	}
	if code != want || sameYard(then, y) != (want != impl.YardDone) {
		t.Errorf("%s: %v is then %v, with %d and not %d", name, y, then, code, want)
	}
}

// traced is a yard, and for each handle that is retired the threads that were pinned when it was and have been since.
type traced struct {
	yard
	held map[int][2]bool
}

// Promise 3, over all that two threads can come to with two blocks: every yard that calls lead to is gone through once.
func TestAllWaysOfTwoThreads(t *testing.T) {
	seen := map[string]bool{}
	fresh := block{Gen: 3, Free: true}
	work := []traced{{yard{Arena: arena{Blocks: []block{fresh, fresh}, List: []int{0, 1}}, Pins: []int{-1, -1}}, nil}}
	for len(work) > 0 {
		y := work[len(work)-1]
		work = work[:len(work)-1]
		key := yardKey(y)
		if seen[key] {
			continue
		}
		seen[key] = true
		checkYardClasses(t, y.yard)
		for handle := range y.held {
			if !impl.Live(y.Arena, handle) || impl.ClassOf(y.yard, handle>>3) != impl.ClassRetired {
				t.Fatal("a held handle was given back:", handle, y)
			}
		}
		work = append(work, allCalls(t, y)...)
	}
	if len(seen) < 1000 {
		t.Error("yards gone through:", len(seen))
	}
}

// allCalls are the yards that one call leads to, of which at most three passes were made.
func allCalls(t *testing.T, y traced) []traced {
	t.Helper()
	var next []traced
	for thread := range 2 {
		if then, code := impl.Pin(y.yard, thread); code == impl.YardDone {
			next = append(next, traced{then, y.held})
		}
		if then, code := impl.Unpin(y.yard, thread); code == impl.YardDone {
			next = append(next, traced{then, letGo(y.held, thread)})
		}
	}
	for _, handle := range []int{3, 4, 11, 12} {
		if then, code := impl.Retire(y.yard, handle); code == impl.YardDone {
			held := maps.Clone(y.held)
			if pinned := [2]bool{y.Pins[0] >= 0, y.Pins[1] >= 0}; pinned != [2]bool{} {
				held = map[int][2]bool{handle: pinned}
				maps.Copy(held, y.held)
			}
			next = append(next, traced{then, held})
		}
	}
	if taken, _, ok := impl.Take(y.Arena); ok {
		then := cloneYard(y.yard)
		then.Arena = taken
		next = append(next, traced{then, y.held})
	}
	then, many, code := impl.Pass(y.yard)
	checkPass(t, y.yard, then, many, code)
	if then.Passes <= 3 {
		next = append(next, traced{then, y.held})
	}
	return next
}

// letGo is what is held when the thread is not pinned any more.
func letGo(held map[int][2]bool, thread int) map[int][2]bool {
	left := map[int][2]bool{}
	for handle, by := range held {
		by[thread] = false
		if by != [2]bool{} {
			left[handle] = by
		}
	}
	return left
}

func yardKey(y traced) string {
	key := arenaKey(y.Arena) + " " + strconv.Itoa(y.Passes)
	for _, pin := range y.Pins {
		key += " " + strconv.Itoa(pin)
	}
	for _, g := range y.Retired {
		key += " " + strconv.Itoa(g.Handle) + "@" + strconv.Itoa(g.Pass)
	}
	for _, handle := range slices.Sorted(maps.Keys(y.held)) {
		key += " " + strconv.Itoa(handle) + strconv.FormatBool(y.held[handle][0]) + strconv.FormatBool(y.held[handle][1])
	}
	return key
}

// checkYardClasses asks that each block is of one class, that the classes are what the arena says, and that they are counted.
func checkYardClasses(t *testing.T, y yard) {
	t.Helper()
	if !impl.YardOk(y) {
		t.Fatal("no yard:", y)
	}
	var want [4]int
	for place, b := range y.Arena.Blocks {
		retired := slices.ContainsFunc(y.Retired, func(g gone) bool { return g.Handle == 8*place+b.Gen })
		is := [4]bool{
			impl.ClassFree:    slices.Contains(y.Arena.List, place),
			impl.ClassSpent:   b.Gen == impl.MaxGen,
			impl.ClassRetired: retired,
			impl.ClassUsed:    impl.Live(y.Arena, 8*place+b.Gen) && !retired,
		}
		class := impl.ClassOf(y, place)
		only := [4]bool{}
		if class >= 0 && class < 4 {
			only[class] = true
			want[class]++
		}
		if is != only {
			t.Fatal("the class of", place, "is", class, y)
		}
	}
	if counts, ok := impl.Counts(y); !ok || counts != want {
		t.Fatal("counts", counts, ok, y)
	}
}

// checkPass asks that a pass keeps just what was retired no earlier than somebody who is pinned has pinned.
func checkPass(t *testing.T, y yard, then yard, many int, code int) {
	t.Helper()
	pinned := slices.DeleteFunc(slices.Clone(y.Pins), func(pin int) bool { return pin < 0 })
	var kept []gone
	a := y.Arena
	for _, g := range y.Retired {
		if len(pinned) > 0 && g.Pass >= slices.Min(pinned) {
			kept = append(kept, g)
		} else {
			a, _ = impl.Give(a, g.Handle)
		}
	}
	want := yard{Arena: a, Pins: y.Pins, Retired: kept, Passes: y.Passes + 1}
	if code != impl.YardDone || many != len(y.Retired)-len(kept) || !sameYard(then, want) {
		t.Fatal("passed:", y, then, many, code)
	}
	if len(pinned) == 0 && len(then.Retired) != 0 {
		t.Fatal("nobody is pinned, and yet there stay", then.Retired)
	}
}

// guardedYard is a yard whose lists have something behind them.
type guardedYard struct {
	yard
	blocks        guarded[block]
	places, pins  guarded[int]
	retiredBehind guarded[gone]
}

func guardYard(y yard) guardedYard {
	g := guardedYard{
		blocks:        guard(y.Arena.Blocks, block{Gen: 3, Words: three{5, 5, 5}}),
		places:        guard(y.Arena.List, 77),
		pins:          guard(y.Pins, 1),
		retiredBehind: guard(y.Retired, goneAt(2, 5)),
	}
	g.yard = yard{
		Arena:   arena{Blocks: g.blocks.list(), List: g.places.list()},
		Pins:    g.pins.list(),
		Retired: g.retiredBehind.list(),
		Passes:  y.Passes,
	}
	return g
}

func (g guardedYard) check(t *testing.T, name string) {
	t.Helper()
	g.blocks.check(t, name+": blocks")
	g.places.check(t, name+": list")
	g.pins.check(t, name+": pins")
	g.retiredBehind.check(t, name+": retired")
}

// yardAnswers are the yards that all functions answer with, done or refused; those that answer none are called, too.
func yardAnswers(y yard) []yard {
	impl.YardOk(y)
	impl.Counts(y)
	var list []yard
	for _, number := range []int{-1, 0, 1, 2, 3, 8, 36} {
		impl.ClassOf(y, number)
		pinned, _ := impl.Pin(y, number)
		loose, _ := impl.Unpin(y, number)
		retired, _ := impl.Retire(y, number)
		list = append(list, pinned, loose, retired)
	}
	passed, _, _ := impl.Pass(y)
	return append(list, passed)
}

// everyYard has the good and the bad ones, and one of which a pass gives some back and keeps some.
func everyYard(t *testing.T) map[string]yard {
	all := goodYards(t)
	maps.Copy(all, badYards(t))
	all["some are kept"] = retiredYard(t, 5, []int{-1, 2, 3}, 4, 0, 1, 2, 4)
	return all
}

// Promise 19: nothing is written into an argument, nor behind it; every answer is new memory, also where the yard comes back as it was.
func TestYardsWriteNothingAndShareNothing(t *testing.T) {
	for name, plain := range everyYard(t) {
		g := guardYard(plain)
		answers := yardAnswers(g.yard)
		g.check(t, name+", called")
		for _, then := range answers {
			overwriteYard(t, name, then)
		}
		g.check(t, name+", overwritten")
	}
	y, _ := impl.NewYard(3, 2)
	overwriteYard(t, "new", y)
	if y, _ := impl.NewYard(3, 2); !sameYard(y, yard{Arena: newArena(t, 3, 0), Pins: []int{-1, -1}}) {
		t.Error("a new yard is kept:", y)
	}
}

// overwriteYard changes one list after the other, with its spare room, and asks that the others stay as they were.
func overwriteYard(t *testing.T, name string, y yard) {
	t.Helper()
	was := cloneYard(y)
	for _, change := range []func(){
		func() { overwrite(y.Arena.Blocks, block{Gen: -7}); was.Arena.Blocks = slices.Clone(y.Arena.Blocks) },
		func() { overwrite(y.Arena.List, -7); was.Arena.List = slices.Clone(y.Arena.List) },
		func() { overwrite(y.Pins, -8); was.Pins = slices.Clone(y.Pins) },
		func() { overwrite(y.Retired, goneAt(-7, -7)); was.Retired = slices.Clone(y.Retired) },
	} {
		change()
		if !sameYard(y, was) {
			t.Errorf("%s: two lists of one answer share memory", name)
		}
	}
}

// What lies behind a list's length is not handed out, also not as spare room of an answer.
func TestYardsHandOutNothingBehind(t *testing.T) {
	for name, plain := range everyYard(t) {
		for _, y := range yardAnswers(guardYard(plain).yard) {
			places := slices.Concat(spare(y.Arena.List), spare(y.Pins))
			if slices.Contains(places, 77) || slices.Contains(places, 1) {
				t.Errorf("%s: behind the places or the pins: %v", name, places)
			}
			if slices.Contains(spare(y.Retired), goneAt(2, 5)) || slices.Contains(spare(y.Arena.Blocks), block{Gen: 3, Words: three{5, 5, 5}}) {
				t.Errorf("%s: behind the retired or the blocks", name)
			}
		}
	}
}

// spare is what lies behind a list's length.
func spare[T any](list []T) []T {
	return list[len(list):cap(list)]
}
