package tests

import (
	"fmt"
	"math"
	"slices"
	"strconv"
	"testing"

	"loop.example/g00087/impl"
)

const (
	mostFrames    = 130
	mostHelps     = 2000
	mostHelpTurns = 400
)

// lookers is a stack of frames in PhaseLook, the topmost last.
func lookers(numbers ...int) []frame {
	var stack []frame
	for _, number := range numbers {
		stack = append(stack, frameOf(number, looks, 0))
	}
	return stack
}

// onTop is the stack with the frames on top.
func onTop(stack []frame, frames ...frame) []frame {
	return append(slices.Clone(stack), frames...)
}

// meetingStore has two descriptors that meet: 0 writes object 1 and lies over it; 1 reads object 0 and writes 1.
func meetingStore() store {
	return store{
		Heads: []head{headOf(5, 0, -1), headOf(6, 0, 0)},
		Descs: []desc{descOf(0, undecided, writeOf(1, 0, 6, 8)), descOf(1, undecided, readOf(0, 0, 5), writeOf(1, 0, 6, 7))},
	}
}

// ringStore has two descriptors of which each lies over what the other one waits for.
func ringStore() store {
	return store{
		Heads: []head{headOf(1, 0, 1), headOf(2, 0, 0)},
		Descs: []desc{
			descOf(0, undecided, writeOf(0, 0, 1, 10), writeOf(1, 0, 2, 20)),
			descOf(1, undecided, writeOf(0, 0, 1, 11), writeOf(1, 0, 2, 21)),
		},
	}
}

// rowStore has a row of descriptors, each of which lies over its first object and waits for the next one, as far as the
// last, that waits for none. Each reads the object that it waits for.
func rowStore() store {
	s := store{Heads: plainHeads(8)}
	for object := range 7 {
		s.Descs = append(s.Descs, descOf(object%4, undecided, writesOf(object)[0], readsOf(object + 1)[0]))
	}
	s.Descs = append(s.Descs, descOf(3, undecided, writesOf(7)...))
	for object := range 8 {
		s.Heads[object].Desc = object
	}
	return s
}

// threeStores are of three objects and three descriptors, as these may lie, be decided, and have read what is there or not.
func threeStores(yield func(store) bool) {
	over := [][]int{{-1, 0, 2}, {-1, 0, 1}, {-1, 0, 1, 2}} // what may lie over each object
	for way := range 3 * 3 * 4 * 3 * 3 * 3 * 2 * 2 * 2 {
		rest := way
		digit := func(base int) int {
			last := rest % base
			rest /= base
			return last
		}
		s := store{Heads: []head{headOf(5, 0, over[0][digit(3)]), headOf(6, 0, over[1][digit(3)]), headOf(7, 0, over[2][digit(4)])}}
		s.Descs = []desc{
			descOf(0, digit(3), writeOf(0, 0, 5, 50), readOf(1, 0, 6), writeOf(2, 0, 7, 70)),
			descOf(1, digit(3), writeOf(1, 0, 6, 61), writeOf(2, 0, 7, 71)),
			descOf(2, digit(3), readOf(0, 0, 5), writeOf(2, 0, 7, 72)),
		}
		for object := range 3 {
			s.Heads[object].Version = digit(2)
		}
		if !yield(s) {
			return
		}
	}
}

// plainHelp says of a stack that is in order what the document does, line by line.
func plainHelp(s store, stack []frame) (store, []frame) {
	if len(stack) == 0 {
		return s, stack
	}
	last := len(stack) - 1
	then, next, first := plainDrive(s, stack[last])
	if first >= 0 && len(stack) == 130 {
		return s, stack
	} else if first >= 0 {
		return then, onTop(stack[:last], next, frameOf(first, looks, 0))
	} else if next.Phase == isOver {
		return then, slices.Clone(stack[:last])
	}
	return then, onTop(stack[:last], next)
}

func plainFinish(s store, stack []frame, most int) (store, int, bool) {
	for steps := range most {
		if len(stack) == 0 {
			return s, steps, true
		}
		s, stack = plainHelp(s, stack)
	}
	return s, most, len(stack) == 0
}

// plainFinishAll ends with the first that is not finished: whatever keeps it from that, nobody takes it away.
func plainFinishAll(s store) (store, bool) {
	then := s
	for object := 0; object < len(then.Heads); {
		if then.Heads[object].Desc < 0 {
			object++
			continue
		}
		ok := false
		if then, _, ok = plainFinish(then, lookers(then.Heads[object].Desc), 2000); !ok {
			return s, false
		}
		object = 0
	}
	return then, true
}

// plainDepth goes on as often as there can be descriptors, and counts those that it came by.
func plainDepth(s store, from int) int {
	came := map[int]bool{from: true}
	for range len(s.Descs) {
		for _, e := range s.Descs[from].Entries {
			if over := s.Heads[e.Object].Desc; over >= 0 && over != from {
				from = over
				break
			}
		}
		came[from] = true
	}
	return len(came)
}

func TestLimitsOfHelping(t *testing.T) {
	if impl.MaxStack != mostFrames {
		t.Error(impl.MaxStack)
	}
}

// badStacks are not StackOk in the store, each for one reason.
func badStacks(s store) map[string][]frame {
	bad := map[string][]frame{}
	wrong := []frame{frameOf(-1, looks, 0), frameOf(len(s.Descs), looks, 0), frameOf(60, looks, 0)}
	if len(s.Descs) > 0 {
		many := len(s.Descs[0].Entries)
		wrong = append(wrong,
			frameOf(0, isOver, 0), frameOf(0, -1, 0), frameOf(0, 6, 0), frameOf(0, looks, 1), frameOf(0, lays, -1), frameOf(0, lays, many),
			frameOf(0, decides, 1), frameOf(0, fails, -1), frameOf(0, frees, -1), frameOf(0, frees, many), frameOf(0, isOver, 1),
		)
		good := frameOf(0, looks, 0)
		bad["a frame too many"] = alike(good, 131)
		bad["many frames too many"] = alike(good, 5000)
		for _, f := range wrong {
			name := fmt.Sprint(f)
			bad[name+" below"] = []frame{f, good, good}
			bad[name+" between"] = []frame{good, f, good}
			bad[name+" on top"] = []frame{good, good, f}
			bad[name+" below all of most"] = onTop([]frame{f}, alike(good, 129)...)
			bad[name+" on top of all of most"] = onTop(alike(good, 129), f)
		}
	}
	for _, f := range wrong {
		bad[fmt.Sprint(f)+" alone"] = []frame{f}
	}
	return bad
}

// goodStacks are StackOk in the store.
func goodStacks(s store) map[string][]frame {
	good := map[string][]frame{"nil": nil, "empty": {}}
	for number, d := range s.Descs {
		var each []frame
		for phase := range 5 {
			each = append(each, frameOf(number, phase, 0))
		}
		for at := 1; at < len(d.Entries); at++ {
			each = append(each, frameOf(number, lays, at), frameOf(number, frees, at))
		}
		for _, f := range each {
			good[fmt.Sprint(f)] = []frame{f}
		}
		if number < 3 || number == len(s.Descs)-1 {
			good[fmt.Sprint("all of ", number)] = each
			good[fmt.Sprint("most of ", number)] = alike(frameOf(number, frees, len(d.Entries)-1), 130)
			good[fmt.Sprint("all but one of most of ", number)] = alike(frameOf(number, looks, 0), 129)
		}
	}
	return good
}

func TestStackOk(t *testing.T) {
	for name, s := range goodStores() {
		for what, stack := range goodStacks(s) {
			if !impl.StackOk(s, stack) {
				t.Errorf("%s: %s: refused", name, what)
			}
		}
		for what, stack := range badStacks(s) {
			if impl.StackOk(s, stack) {
				t.Errorf("%s: %s: taken", name, what)
			}
		}
	}
	for name, s := range badStores() {
		for _, stack := range [][]frame{nil, {}, lookers(0), lookers(0, 0), {frameOf(0, lays, 0)}} {
			if impl.StackOk(s, stack) {
				t.Errorf("%s: %v: taken", name, stack)
			}
		}
	}
}

func checkHelp(t *testing.T, name string, s store, stack []frame, want store, wantStack []frame) {
	t.Helper()
	then, left := impl.Help(s, stack)
	if !sameStore(then, want) || !slices.Equal(left, wantStack) {
		t.Errorf("%s: %v:\n%v %v, not\n%v %v", name, stack, then, left, want, wantStack)
	}
	if impl.StackOk(s, stack) && !impl.StackOk(then, left) {
		t.Errorf("%s: %v: the stack is not in order then: %v %v", name, stack, then, left)
	}
}

// The topmost is driven, and it alone: those below, in whatever phase they are, stay as they are.
func TestHelpDrivesTheTopmost(t *testing.T) {
	three := threeStore()
	mine := laid(three, 0, 0, 1, 2)
	below := map[string][]frame{
		"alone":               nil,
		"over another":        lookers(2),
		"over the same":       {frameOf(0, lays, 1), frameOf(0, decides, 0)},
		"over all phases":     {frameOf(1, frees, 0), frameOf(0, fails, 0), frameOf(2, lays, 1), frameOf(2, decides, 0)},
		"with most below":     alike(frameOf(1, lays, 0), 129),
		"with one below most": alike(frameOf(0, frees, 2), 128),
	}
	for name, below := range below {
		checkHelp(t, name, three, onTop(below, frameOf(0, looks, 0)), three, onTop(below, frameOf(0, lays, 0)))
		checkHelp(t, name, decided(three, 0, failed), onTop(below, frameOf(0, looks, 0)), decided(three, 0, failed), onTop(below, frameOf(0, frees, 0)))
		checkHelp(t, name, three, onTop(below, frameOf(0, lays, 0)), laid(three, 0, 0), onTop(below, frameOf(0, lays, 1)))
		checkHelp(t, name, three, onTop(below, frameOf(2, lays, 1)), laid(three, 2, 2), onTop(below, frameOf(2, decides, 0)))
		other := holding(three, 1, headOf(6, 1, -1))
		checkHelp(t, name, other, onTop(below, frameOf(1, lays, 0)), other, onTop(below, frameOf(1, fails, 0)))
		checkHelp(t, name, mine, onTop(below, frameOf(0, decides, 0)), decided(mine, 0, committed), onTop(below, frameOf(0, frees, 0)))
		checkHelp(t, name, mine, onTop(below, frameOf(0, fails, 0)), decided(mine, 0, failed), onTop(below, frameOf(0, frees, 0)))
		done := decided(mine, 0, committed)
		checkHelp(t, name, done, onTop(below, frameOf(0, frees, 0)), holding(done, 0, headOf(50, 4, -1)), onTop(below, frameOf(0, frees, 1)))
	}
}

// Where the topmost is over then, it is taken off, and no other one with it.
func TestHelpTakesOffWhatIsOver(t *testing.T) {
	done := decided(laid(threeStore(), 0, 0, 1, 2), 0, committed)
	freed := holding(done, 2, headOf(70, 0, -1))
	for name, below := range map[string][]frame{
		"alone":                          nil,
		"over another":                   lookers(2),
		"over one that is as far as it":  {frameOf(0, frees, 2)},
		"over several":                   {frameOf(1, frees, 0), frameOf(0, fails, 0), frameOf(2, lays, 1)},
		"with most below":                alike(frameOf(0, frees, 2), 129),
		"over one in PhaseLay, and most": onTop(alike(frameOf(2, decides, 0), 128), frameOf(0, lays, 2)),
	} {
		checkHelp(t, name, done, onTop(below, frameOf(0, frees, 2)), freed, below)
	}
}

// Where a descriptor is told, the frame waits in PhaseLook, wherever it was, and a frame of that one comes on top.
func TestHelpPutsOnTopWhatIsTold(t *testing.T) {
	three := threeStore()
	first := laid(three, 2, 0, 2)
	last := laid(laid(three, 0, 0, 1), 2, 2)
	for _, status := range []int{undecided, committed, failed} {
		for _, below := range [][]frame{nil, lookers(1), {frameOf(0, lays, 2), frameOf(2, frees, 1)}, alike(frameOf(1, lays, 0), 127), alike(frameOf(2, looks, 0), 128)} {
			name := strconv.Itoa(len(below)) + " below"
			first, last := decided(first, 2, status), decided(last, 2, status)
			checkHelp(t, name, first, onTop(below, frameOf(0, lays, 0)), first, onTop(below, lookers(0, 2)...))
			checkHelp(t, name, last, onTop(below, frameOf(0, lays, 2)), last, onTop(below, lookers(0, 2)...))
			// Of the number 0 as well.
			lesser := decided(laid(three, 0, 0, 1, 2), 0, status)
			checkHelp(t, name, lesser, onTop(below, frameOf(1, lays, 0)), lesser, onTop(below, lookers(1, 0)...))
		}
		// With MaxStack there already, the topmost does not even come to PhaseLook.
		for _, f := range []frame{frameOf(0, lays, 0), frameOf(2, lays, 1), frameOf(0, lays, 2)} {
			most := onTop(alike(frameOf(1, frees, 0), 129), f)
			s := decided(laid(three, 2, 0), 2, status)
			if f.Desc == 2 {
				s = decided(laid(three, 0, 2), 0, status)
			} else if f.At == 2 {
				s = decided(last, 2, status)
			}
			checkHelp(t, "with most", s, most, s, most)
			checkHelp(t, "with one less", s, most[1:], s, onTop(most[1:129], lookers(f.Desc, 2-f.Desc)...))
		}
	}
	// A frame of a descriptor that is on the stack already comes on it once more.
	checkHelp(t, "on it already", first, onTop(lookers(2), frameOf(0, lays, 0)), first, lookers(2, 0, 2))
}

func TestHelpRefuses(t *testing.T) {
	for name, s := range goodStores() {
		checkHelp(t, name, s, nil, s, nil)
		checkHelp(t, name, s, []frame{}, s, nil)
		for what, stack := range badStacks(s) {
			checkHelp(t, name+", "+what, s, stack, s, stack)
		}
	}
	for name, s := range badStores() {
		for _, stack := range [][]frame{nil, lookers(0), lookers(1, 0), {frameOf(0, lays, 0)}, {frameOf(0, frees, 0)}, {frameOf(0, decides, 0)}, alike(frameOf(0, looks, 0), 131)} {
			checkHelp(t, name, s, stack, s, stack)
		}
	}
}

// One that meets another one: it waits below till that one is over, and then looks and lays anew from its first entry.
func TestHelpedStepByStep(t *testing.T) {
	s := meetingStore()
	laid1 := laid(s, 1, 0)
	done := decided(laid1, 0, committed)
	freed := holding(done, 1, headOf(8, 1, -1))
	fail := decided(freed, 1, failed)
	over := holding(fail, 0, headOf(5, 0, -1))
	stack := lookers(1)
	for step, want := range []struct {
		s     store
		stack []frame
	}{
		{s, []frame{frameOf(1, lays, 0)}},
		{laid1, []frame{frameOf(1, lays, 1)}},
		{laid1, lookers(1, 0)},
		{laid1, onTop(lookers(1), frameOf(0, lays, 0))},
		{laid1, onTop(lookers(1), frameOf(0, decides, 0))},
		{done, onTop(lookers(1), frameOf(0, frees, 0))},
		{freed, lookers(1)},
		{freed, []frame{frameOf(1, lays, 0)}},
		{freed, []frame{frameOf(1, lays, 1)}},
		{freed, []frame{frameOf(1, fails, 0)}},
		{fail, []frame{frameOf(1, frees, 0)}},
		{over, []frame{frameOf(1, frees, 1)}},
		{over, nil},
		{over, nil},
	} {
		checkHelp(t, "step "+strconv.Itoa(step), s, stack, want.s, want.stack)
		s, stack = impl.Help(s, stack)
	}
}

// What waits below looks again when it is the topmost: by then somebody else may have decided it, and freed it.
func TestWhatWaitsIsDecidedMeanwhile(t *testing.T) {
	for status := 1; status < 3; status++ {
		s := decided(laid(threeStore(), 0, 0, 1, 2), 0, status)
		checkHelp(t, "decided", s, lookers(2, 0), s, onTop(lookers(2), frameOf(0, frees, 0)))
		checkHelp(t, "topmost again", s, lookers(2, 1, 0), s, onTop(lookers(2, 1), frameOf(0, frees, 0)))
	}
	s, stack := meetingStore(), lookers(1)
	for range 3 {
		s, stack = impl.Help(s, stack)
	}
	ended, _, ok := impl.Finish(s, lookers(1), 100)
	if !ok || ended.Descs[0].Status != committed || ended.Descs[1].Status != failed || len(impl.Held(ended)) != 0 {
		t.Fatal("somebody else:", ended, ok)
	}
	for step, want := range [][]frame{
		onTop(lookers(1), frameOf(0, frees, 0)), lookers(1), {frameOf(1, frees, 0)}, {frameOf(1, frees, 1)}, nil,
	} {
		checkHelp(t, "step "+strconv.Itoa(step), ended, stack, ended, want)
		_, stack = impl.Help(ended, stack)
	}
}

// A stack of two who wait for each other grows to MaxStack and no further; nothing is done any more then.
func TestHelpedInARing(t *testing.T) {
	s, stack := ringStore(), lookers(0)
	for step := 1; step <= 330; step++ {
		wasStack := stack
		s, stack = impl.Help(s, stack)
		if !sameStore(s, ringStore()) || !impl.StackOk(s, stack) {
			t.Fatal("step", step, s, stack)
		}
		// Of each two frames the first one takes 2 steps, the other one 3.
		if (len(stack) == mostFrames) != (step >= 322) || slices.Equal(stack, wasStack) != (step > 324) {
			t.Fatal("step", step, len(stack), stack[len(stack)-1])
		}
	}
	var want []frame
	for range 65 {
		want = append(want, lookers(0, 1)...)
	}
	want[129] = frameOf(1, lays, 1)
	if !slices.Equal(stack, want) {
		t.Error(stack)
	}
}

func checkFinish(t *testing.T, name string, s store, stack []frame, most int, want store, wantSteps int, wantOk bool) {
	t.Helper()
	then, steps, ok := impl.Finish(s, stack, most)
	if !sameStore(then, want) || steps != wantSteps || ok != wantOk {
		t.Errorf("%s: %v, at most %d:\n%v %d %v, not\n%v %d %v", name, stack, most, then, steps, ok, want, wantSteps, wantOk)
	}
}

// Each stack takes just so many steps: with as many it is empty, with one less something is left.
func TestFinish(t *testing.T) {
	three := threeStore()
	mine := laid(three, 0, 0, 1, 2)
	for _, c := range []struct {
		name  string
		s     store
		stack []frame
		steps int
	}{
		{"nobody", three, nil, 0},
		{"nobody, and no descriptors", store{Heads: plainHeads(1)}, []frame{}, 0},
		{"one alone", three, lookers(0), 8},
		{"one of one entry", three, lookers(1), 4},
		{"one that is laid", mine, []frame{frameOf(0, decides, 0)}, 4},
		{"one that fails", mine, []frame{frameOf(0, fails, 0)}, 4},
		{"one at its last entry", mine, []frame{frameOf(0, frees, 2)}, 1},
		{"one that is decided", decided(mine, 0, committed), lookers(0), 4},
		{"one that reads another version", holding(three, 1, headOf(6, 2, -1)), lookers(0), 7},
		{"the same twice", three, lookers(0, 0), 8 + 4},
		{"two that do not meet", three, lookers(1, 2), 6 + 4},
		{"two, and what the topmost leaves", three, lookers(2, 0), 8 + 5},
		{"most of one", three, alike(frameOf(1, looks, 0), 130), 4 + 129*2},
		{"most in PhaseLay of a read", three, alike(frameOf(2, lays, 0), 130), 130 * 5},
		{"two that meet", meetingStore(), lookers(1), 13},
		{"the one that is met", meetingStore(), lookers(0), 4},
		{"a row", rowStore(), lookers(0), 7*3 + 4 + 7*6},
		{"a row, from its middle", rowStore(), lookers(4), 3*3 + 4 + 3*6},
		{"a row, with most below", rowStore(), onTop(alike(frameOf(0, frees, 1), 122), lookers(0)...), 7*3 + 4 + 7*6 + 122},
	} {
		s, stack := c.s, c.stack
		for most := range c.steps {
			checkFinish(t, c.name, c.s, c.stack, most, s, most, false)
			s, stack = plainHelp(s, stack)
		}
		if len(stack) != 0 {
			t.Error(c.name, "something is left:", stack)
		}
		for _, most := range []int{c.steps, c.steps + 1, 1999, 2000} {
			checkFinish(t, c.name, c.s, c.stack, most, s, c.steps, true)
		}
	}
}

// What is never empty takes all steps that there may be.
func TestFinishOfARing(t *testing.T) {
	for _, most := range []int{0, 1, 322, 323, 324, 325, 1999, 2000} {
		checkFinish(t, "a ring", ringStore(), lookers(0), most, ringStore(), most, false)
	}
	// Who comes to the ring lays what is ahead of it.
	s := ringStore()
	s.Heads = append([]head{headOf(4, 2, -1)}, s.Heads...)
	for number := range s.Descs {
		for at := range s.Descs[number].Entries {
			s.Descs[number].Entries[at].Object++
		}
	}
	s.Descs = append(s.Descs, descOf(2, undecided, writeOf(0, 2, 4, 5), readOf(2, 0, 2)))
	checkFinish(t, "to a ring", s, lookers(2), 1, s, 1, false)
	checkFinish(t, "to a ring", s, lookers(2), 2000, laid(s, 2, 0), 2000, false)
	// What waits below the ring is not driven, though it could be.
	checkFinish(t, "over others", s, []frame{frameOf(2, decides, 0), frameOf(0, looks, 0)}, 2000, s, 2000, false)
	// With MaxStack below it, it does not come to the next one.
	most := onTop(alike(frameOf(2, looks, 0), 129), frameOf(2, lays, 0))
	checkFinish(t, "with most", s, most, 2000, laid(s, 2, 0), 2000, false)
}

// With no room for the one that is met, it is not driven, so that nothing goes on; with room for one, all goes on.
func TestFinishWithoutRoom(t *testing.T) {
	s := meetingStore()
	checkFinish(t, "no room", s, onTop(alike(frameOf(0, looks, 0), 129), lookers(1)...), 2000, laid(s, 1, 0), 2000, false)
	want, _, _ := plainFinish(s, lookers(1), 100)
	checkFinish(t, "room for one", s, onTop(alike(frameOf(0, looks, 0), 128), lookers(1)...), 2000, want, 13+128*2, true)
	// A row needs room for each of its frames.
	row := rowStore()
	stack := onTop(alike(frameOf(7, looks, 0), 123), lookers(0)...)
	checkFinish(t, "a row, and no room for its last", row, stack, 2000, row, 2000, false)
}

func TestFinishRefuses(t *testing.T) {
	mosts := []int{math.MinInt, -2000, -2, -1, 2001, 2002, 5000, top, math.MaxInt}
	for name, s := range goodStores() {
		for _, most := range mosts {
			for what, stack := range map[string][]frame{"nobody": nil, "one": lookers(0), "two": lookers(0, 0)} {
				checkFinish(t, name+", "+what, s, stack, most, s, 0, false)
			}
		}
		for what, stack := range badStacks(s) {
			for _, most := range []int{-1, 0, 1, 100, 2000, 2001} {
				checkFinish(t, name+", "+what, s, stack, most, s, 0, false)
			}
		}
	}
	for name, s := range badStores() {
		for _, stack := range [][]frame{nil, {}, lookers(0), {frameOf(0, frees, 0)}} {
			for _, most := range []int{-1, 0, 1, 2000, 2001} {
				checkFinish(t, name, s, stack, most, s, 0, false)
			}
		}
	}
}

func checkFinishAll(t *testing.T, name string, s store, want store, wantOk bool) {
	t.Helper()
	then, ok := impl.FinishAll(s)
	if !sameStore(then, want) || ok != wantOk {
		t.Errorf("%s: of %v:\n%v %v, not\n%v %v", name, s, then, ok, want, wantOk)
	}
	if ok && len(impl.Held(then)) != 0 {
		t.Errorf("%s: somebody lies still: %v", name, then)
	}
}

func TestFinishAll(t *testing.T) {
	three := threeStore()
	mine := laid(three, 0, 0, 1, 2)
	wrote := store{Heads: []head{headOf(50, 4, -1), headOf(6, 0, -1), headOf(70, 0, -1)}, Descs: three.Descs}
	most := store{Heads: plainHeads(8), Descs: alike(descOf(1, undecided, writesOf(1, 5)...), 60)}
	mostWrote := decided(holding(holding(most, 1, headOf(31, 12, -1)), 5, headOf(35, 16, -1)), 59, committed)
	for _, c := range []struct {
		name    string
		s, want store
	}{
		{"over all of its objects", mine, decided(wrote, 0, committed)},
		{"over the last one alone", laid(three, 0, 2), decided(wrote, 0, committed)},
		{"committed already", decided(mine, 0, committed), decided(wrote, 0, committed)},
		{"failed already", decided(mine, 0, failed), decided(three, 0, failed)},
		{"it reads another version", holding(laid(three, 0, 0), 1, headOf(6, 1, -1)), decided(holding(three, 1, headOf(6, 1, -1)), 0, failed)},
		{"several that do not meet", laid(laid(three, 2, 0, 2), 1, 1), decided(decided(holding(three, 1, headOf(60, 1, -1)), 2, committed), 1, committed)},
		{"the last of most", laid(most, 59, 5), mostWrote},
	} {
		checkFinishAll(t, c.name, c.s, c.want, true)
	}
	// As many as there are objects, each alone.
	s, want := store{Heads: plainHeads(8)}, store{}
	for object := range 8 {
		s.Descs = append(s.Descs, descOf(object%4, undecided, writesOf(object)...))
		s.Heads[object].Desc = object
		want.Heads = append(want.Heads, headOf(30+object, 11+object, -1))
		want.Descs = append(want.Descs, descOf(object%4, committed, writesOf(object)...))
	}
	checkFinishAll(t, "over each object another one", s, want, true)
}

// Where nothing lies, nothing is driven, whatever is announced.
func TestFinishAllOfWhatLiesOverNothing(t *testing.T) {
	three := threeStore()
	for name, s := range map[string]store{
		"nothing lies":     three,
		"some are decided": decided(decided(three, 0, failed), 2, committed),
		"no descriptors":   {Heads: plainHeads(8)},
		"most descriptors": {Heads: plainHeads(8), Descs: alike(descOf(1, undecided, writesOf(1, 5)...), 60)},
	} {
		checkFinishAll(t, name, s, s, true)
	}
}

// orderStore has two descriptors that lie over objects 0 .. 3 as told, write these, and both write object 4.
func orderStore(heads ...int) store {
	s := store{Heads: plainHeads(5)}
	for object, number := range heads {
		s.Heads[object].Desc = number
	}
	s.Descs = []desc{descOf(0, undecided, writesOf(0, 1, 2, 3, 4)...), descOf(1, undecided, writesOf(0, 1, 2, 3, 4)...)}
	for number := range s.Descs {
		s.Descs[number].Entries = slices.DeleteFunc(s.Descs[number].Entries, func(e entry) bool {
			return e.Object < 4 && s.Heads[e.Object].Desc != number
		})
	}
	return s
}

// The one that is finished first commits, and so the other one fails.
func TestFinishAllByTheLeastObject(t *testing.T) {
	for _, c := range []struct {
		heads []int
		first int
	}{
		{[]int{0, 1, -1, -1}, 0},
		{[]int{1, 0, -1, -1}, 1}, // it is not the number that counts
		{[]int{1, 0, 0, 0}, 1},   // nor how many objects
		{[]int{0, 0, 0, 1}, 0},   // nor the greatest object
		{[]int{0, 1, 1, 0}, 0},   // nor whose last object is the least one
		{[]int{1, 0, 0, 1}, 1},
		{[]int{-1, 1, 1, 0}, 1}, // object 0 may have none
		{[]int{-1, -1, 1, 0}, 1},
		{[]int{-1, -1, -1, 1}, 1},
	} {
		s := orderStore(c.heads...)
		want := cloneStore(s)
		for object, number := range c.heads {
			want.Heads[object].Desc = -1
			if number == c.first {
				want.Heads[object] = headOf(30+object, 11+object, -1)
			}
		}
		want.Heads[4] = headOf(34, 15, -1)
		want.Descs[c.first].Status = committed
		if slices.Contains(c.heads, 1-c.first) {
			want.Descs[1-c.first].Status = failed
		}
		checkFinishAll(t, fmt.Sprint(c.heads), s, want, true)
	}
}

// Who is met is finished first, wherever it lies; and who lies over nothing is met by nobody.
func TestFinishAllOfARow(t *testing.T) {
	s := rowStore()
	s.Descs = append(s.Descs, descOf(0, undecided, writesOf(0, 7)...))
	want := store{Heads: plainHeads(8), Descs: slices.Clone(s.Descs)}
	// The last one writes what the one ahead of it has read, so that one fails; then the next one finds what it has read.
	for number := range 8 {
		want.Descs[number].Status = failed
		if number%2 == 1 {
			want.Descs[number].Status = committed
			want.Heads[number] = headOf(30+number, 11+number, -1)
		}
	}
	checkFinishAll(t, "a row", s, want, true)
	for from := range 8 {
		then, _, ok := impl.Finish(s, lookers(from), 2000)
		if !ok {
			t.Error("from", from, then)
		}
		checkFinishAll(t, "what is left of a row", then, want, true)
	}
}

// Where one lies still behind 60, the store is as it was, though others were finished.
func TestFinishAllOfARing(t *testing.T) {
	ring := ringStore()
	checkFinishAll(t, "a ring", ring, ring, false)
	behind := cloneStore(ring)
	behind.Heads = append(behind.Heads, headOf(3, 0, 2))
	behind.Descs = append(behind.Descs, descOf(2, undecided, writeOf(2, 0, 3, 30)))
	checkFinishAll(t, "one behind a ring", behind, behind, false)
	ahead := rowStore()
	ahead.Heads[7].Desc = 8
	ahead.Heads[6].Desc = 9
	ahead.Descs = append(ahead.Descs, descOf(0, undecided, writesOf(6, 7)...), descOf(1, undecided, writesOf(6, 7)...))
	ahead.Descs[3] = descOf(2, committed, ahead.Descs[3].Entries...)
	ahead.Heads[4].Desc = -1
	checkFinishAll(t, "a ring behind a row that ends ahead of it", ahead, ahead, false)
	// A ring with one that is decided is none: it goes on without it.
	for number := range 2 {
		for status := 1; status < 3; status++ {
			open := decided(ring, number, status)
			want, ok := plainFinishAll(open)
			if !ok {
				t.Error("a ring that is open:", open)
			}
			checkFinishAll(t, "a ring that is open", open, want, true)
		}
	}
	// Nor is one of which one finds another version ahead of what it waits for.
	late := cloneStore(ring)
	late.Heads = append(late.Heads, headOf(3, 1, 1))
	late.Heads[0].Desc, late.Heads[1].Desc = -1, 0
	late.Descs[0].Entries = append(late.Descs[0].Entries[1:], readOf(2, 1, 3))
	late.Descs[1].Entries = []entry{writeOf(0, 7, 1, 11), writeOf(1, 0, 2, 21), writeOf(2, 1, 3, 31)}
	if impl.Depth(late, 0) != 2 || impl.Depth(late, 1) != 2 {
		t.Error("no ring:", late)
	}
	want := decided(decided(late, 1, failed), 0, committed)
	want.Heads = []head{headOf(1, 0, -1), headOf(20, 1, -1), headOf(3, 1, -1)}
	checkFinishAll(t, "a ring that ends in time", late, want, true)
}

func TestFinishAllRefuses(t *testing.T) {
	for name, s := range badStores() {
		checkFinishAll(t, name, s, s, false)
	}
}

func checkTogether(t *testing.T, name string, s store, a []frame, b []frame, turns []bool, want store, wantA []frame, wantB []frame) {
	t.Helper()
	then, ofA, ofB := impl.Together(s, a, b, turns)
	if !sameStore(then, want) || !slices.Equal(ofA, wantA) || !slices.Equal(ofB, wantB) {
		t.Errorf("%s: %v %v, turns %v:\n%v %v %v, not\n%v %v %v", name, a, b, turns, then, ofA, ofB, want, wantA, wantB)
	}
}

// plainTogether takes the turns one by one.
func plainTogether(s store, a []frame, b []frame, turns []bool) (store, []frame, []frame) {
	for _, turn := range turns {
		if turn {
			s, b = plainHelp(s, b)
		} else {
			s, a = plainHelp(s, a)
		}
	}
	return s, a, b
}

func TestTogetherTakesTurns(t *testing.T) {
	three := threeStore()
	checkTogether(t, "no turns", three, lookers(0), lookers(1), nil, three, lookers(0), lookers(1))
	checkTogether(t, "nobody", three, nil, nil, []bool{true, false}, three, nil, nil)
	checkTogether(t, "of a", three, lookers(0), lookers(1), []bool{false}, three, []frame{frameOf(0, lays, 0)}, lookers(1))
	checkTogether(t, "of b", three, lookers(0), lookers(1), []bool{true}, three, lookers(0), []frame{frameOf(1, lays, 0)})
	checkTogether(t, "of b, then of a", three, lookers(0), lookers(1), []bool{true, true, false}, laid(three, 1, 1), []frame{frameOf(0, lays, 0)}, []frame{frameOf(1, decides, 0)})
	checkTogether(t, "a alone has something", three, lookers(1), nil, []bool{true, false, true, false}, laid(three, 1, 1), []frame{frameOf(1, decides, 0)}, nil)
	checkTogether(t, "b alone has something", three, nil, lookers(1), []bool{true, false, true, false}, laid(three, 1, 1), nil, []frame{frameOf(1, decides, 0)})
	// b meets what a has laid meanwhile, and drives it.
	checkTogether(t, "b meets a", three, lookers(1), lookers(0), []bool{true, true, false, false, true, true}, laid(laid(three, 0, 0), 1, 1),
		[]frame{frameOf(1, decides, 0)}, onTop(lookers(0), frameOf(1, lays, 0)))
}

// Turns at which a stack is empty already count, and do nothing; so the other one's come when they come.
func TestTogetherWhereOneIsEmpty(t *testing.T) {
	three := threeStore()
	done := decided(holding(three, 1, headOf(60, 1, -1)), 1, committed)
	checkTogether(t, "both, and turns left", three, lookers(1), lookers(1), append(alike(false, 10), alike(true, 10)...), done, nil, nil)
	checkTogether(t, "a is empty at its last turn", three, lookers(1), lookers(2), alike(false, 4), done, nil, lookers(2))
	checkTogether(t, "a is empty, and its turns left", three, lookers(1), lookers(2), append(alike(false, 9), true), done, nil, []frame{frameOf(2, lays, 0)})
	checkTogether(t, "b is empty, and its turns left", three, lookers(2), lookers(1), append(alike(true, 9), false, true, false), laid(done, 2, 0), []frame{frameOf(2, lays, 1)}, nil)
	alternate := make([]bool, 400)
	for turn := range alternate {
		alternate[turn] = turn%2 == 0
	}
	want, _, _ := plainTogether(meetingStore(), lookers(1), lookers(0), alternate)
	checkTogether(t, "most turns", meetingStore(), lookers(1), lookers(0), alternate, want, nil, nil)
}

func TestTogetherOfTheMostTurns(t *testing.T) {
	ring := ringStore()
	for _, turns := range [][]bool{alike(false, 400), alike(true, 400), append(alike(true, 399), false), append(alike(false, 200), alike(true, 200)...)} {
		want, a, b := plainTogether(ring, lookers(0), lookers(1), turns)
		checkTogether(t, "400", ring, lookers(0), lookers(1), turns, want, a, b)
		for _, more := range [][]bool{append(slices.Clone(turns), false), append(slices.Clone(turns), true), append(slices.Clone(turns), turns...), alike(true, 5000)} {
			checkTogether(t, strconv.Itoa(len(more)), ring, lookers(0), lookers(1), more, ring, lookers(0), lookers(1))
			checkTogether(t, strconv.Itoa(len(more))+", nobody", ring, nil, nil, more, ring, nil, nil)
		}
	}
	// The last of 400 turns is taken.
	three := threeStore()
	checkTogether(t, "the last is of a", three, lookers(0), nil, append(alike(true, 399), false), three, []frame{frameOf(0, lays, 0)}, nil)
	checkTogether(t, "the last is of b", three, nil, lookers(0), append(alike(false, 399), true), three, nil, []frame{frameOf(0, lays, 0)})
}

// Promise 8: whoever's turn it is, two who help the same come to the store to which one of them comes alone.
func TestTogetherOnTheSame(t *testing.T) {
	rest := append(alike(false, 40), alike(true, 40)...)
	for name, c := range sameCases() {
		want, _, _ := impl.Finish(c.store, c.stacks[0], 2000)
		for _, turns := range turnLists(11) {
			checkTogether(t, name, c.store, c.stacks[0], c.stacks[1], append(turns, rest...), want, nil, nil)
		}
	}
}

func TestTogetherRefuses(t *testing.T) {
	turns := []bool{false, true, true, false, true}
	for name, s := range goodStores() {
		if len(s.Descs) == 0 {
			continue
		}
		for what, stack := range badStacks(s) {
			for _, good := range [][]frame{nil, lookers(0), {frameOf(0, decides, 0)}} {
				checkTogether(t, name+", a: "+what, s, stack, good, turns, s, stack, good)
				checkTogether(t, name+", b: "+what, s, good, stack, turns, s, good, stack)
			}
			checkTogether(t, name+", both: "+what, s, stack, stack, turns, s, stack, stack)
			checkTogether(t, name+", no turns: "+what, s, stack, nil, nil, s, stack, nil)
		}
	}
	for name, s := range badStores() {
		for _, stack := range [][]frame{nil, lookers(0), {frameOf(0, lays, 0)}, {frameOf(0, frees, 0)}} {
			checkTogether(t, name, s, stack, lookers(0), turns, s, stack, lookers(0))
			checkTogether(t, name, s, nil, stack, turns, s, nil, stack)
		}
	}
}

func TestDepth(t *testing.T) {
	three, row, ring := threeStore(), rowStore(), ringStore()
	// A ring of three: each lies over one object and has the next one, too; 3 meets it.
	rounds := store{Heads: plainHeads(4), Descs: []desc{
		descOf(0, undecided, writesOf(0, 1)...), descOf(1, undecided, writesOf(1, 2)...), descOf(2, undecided, writesOf(0, 2)...), descOf(3, undecided, readsOf(1, 3)...),
	}}
	for object := range 3 {
		rounds.Heads[object].Desc = object
	}
	// The way leads from 0 to 1 by object 2, though 2 lies over object 3.
	behind := store{Heads: plainHeads(4), Descs: []desc{
		descOf(0, undecided, readsOf(0, 1, 2, 3)...), descOf(1, undecided, readsOf(2)...), descOf(2, undecided, readsOf(1, 3)...), descOf(3, undecided, readsOf(0, 1)...),
	}}
	for _, c := range []struct {
		name string
		s    store
		from int
		want int
	}{
		{"it meets none", three, 0, 1},
		{"it lies over all of its own", laid(three, 0, 0, 1, 2), 0, 1},
		{"it lies over nothing, and another one over its object", laid(three, 0, 1), 1, 2},
		{"over its last object alone", laid(three, 2, 2), 0, 2},
		{"behind those of its own", laid(laid(three, 0, 0, 1), 2, 2), 0, 2},
		{"the one that is met", laid(laid(three, 0, 0, 1), 2, 2), 2, 2},
		{"two over its objects, that meet none", laid(laid(three, 2, 2), 1, 1), 0, 2},
		{"decided ones count", decided(decided(laid(three, 0, 1), 0, failed), 1, committed), 1, 2},
		{"reads that do not write count", laid(three, 2, 0), 0, 2},
		{"a row", row, 0, 8},
		{"a row, from its middle", row, 3, 5},
		{"a row, at its end", row, 7, 1},
		{"a ring of two", ring, 0, 2},
		{"a ring of two, from the other one", ring, 1, 2},
		{"a ring of three", rounds, 0, 3},
		{"a ring of three, from the second one", rounds, 1, 3},
		{"a ring of three, from the third one", rounds, 2, 3},
		{"to a ring of three", rounds, 3, 4},
		{"by the first object over which another one lies", laid(laid(behind, 1, 2), 2, 3), 0, 2},
		{"by the first object, on a longer way", laid(laid(laid(behind, 3, 0), 2, 1), 1, 2), 0, 3},
		{"by the second object, on the way to another one", laid(laid(behind, 2, 1), 1, 2), 3, 2},
	} {
		if got := impl.Depth(c.s, c.from); got != c.want {
			t.Errorf("%s: %d, not %d", c.name, got, c.want)
		}
	}
	most := store{Heads: plainHeads(8), Descs: alike(descOf(1, 0, writesOf(1, 5)...), 60)}
	for from := range 60 {
		if impl.Depth(most, from) != 1 || from != 59 && impl.Depth(laid(most, 59, 5), from) != 2 {
			t.Error("most descriptors, from", from)
		}
	}
}

func TestDepthOfNone(t *testing.T) {
	for name, s := range goodStores() {
		for _, from := range []int{math.MinInt, -top, -2, -1, len(s.Descs), len(s.Descs) + 1, 60, 61, top, math.MaxInt} {
			if got := impl.Depth(s, from); got != 0 {
				t.Errorf("%s: from %d: %d", name, from, got)
			}
		}
	}
	for name, s := range badStores() {
		for _, from := range []int{-1, 0, 1, 60} {
			if got := impl.Depth(s, from); got != 0 {
				t.Errorf("%s: from %d: %d", name, from, got)
			}
		}
	}
}

// Over all small stores, all functions tell what the document says line by line; what is alone there is empty soon, if it
// is not a ring that it comes to.
func TestHelpingOverAllSmallStores(t *testing.T) {
	turns := []bool{false, true, true, false, false, false, true, true, true, false, true, false, true, false}
	for _, stores := range []func(func(store) bool){smallStores, threeStores} {
		for s := range stores {
			want, ok := plainFinishAll(s)
			checkFinishAll(t, "small", s, want, ok)
			for number := range s.Descs {
				if got := impl.Depth(s, number); got != plainDepth(s, number) {
					t.Fatal("depth of", number, "in", s, "is", got)
				}
				want, steps, ok := plainFinish(s, lookers(number), 340)
				checkFinish(t, "small", s, lookers(number), 340, want, steps, ok)
				if ok && (steps > 50 || want.Descs[number].Status == undecided) {
					t.Fatal("from", number, "in", s, "there are", steps, "steps to", want)
				}
				b := lookers((number + 1) % len(s.Descs))
				want, wantA, wantB := plainTogether(s, lookers(number), b, turns)
				checkTogether(t, "small", s, lookers(number), b, turns, want, wantA, wantB)
			}
			if t.Failed() {
				return
			}
		}
	}
}

func TestHelpOverAllSmallStores(t *testing.T) {
	for s := range smallStores {
		for _, below := range [][]frame{nil, lookers(0), {frameOf(1, lays, 1), frameOf(0, frees, 1)}, alike(frameOf(1, looks, 0), 128), alike(frameOf(0, lays, 1), 129)} {
			for _, stack := range goodStacks(s) {
				if len(stack) == 1 {
					stack = onTop(below, stack...)
					want, left := plainHelp(s, stack)
					checkHelp(t, "small", s, stack, want, left)
				}
			}
		}
		if t.Failed() {
			return
		}
	}
}

// helped is a store and the stacks of all who help in it.
type helped struct {
	store
	stacks [][]frame
}

func helpedKey(h helped) string {
	key := drivenKey(driven{store: h.store})
	for _, stack := range h.stacks {
		key += "| " + drivenKey(driven{frames: stack})
	}
	return key
}

// helpWith is what comes of it when that one takes a step.
func helpWith(t *testing.T, h helped, who int) helped {
	t.Helper()
	stack := h.stacks[who]
	then := helped{stacks: slices.Clone(h.stacks)}
	then.store, then.stacks[who] = impl.Help(h.store, stack)
	checkChange(t, h.store, then.store, stack[len(stack)-1].Desc)
	for _, left := range then.stacks {
		if !impl.StackOk(then.store, left) {
			t.Fatal("not StackOk:", then)
		}
	}
	return then
}

// eachHelp goes through all that comes of it when each may take the next step at any time, and hands it all out.
func eachHelp(t *testing.T, begin helped, yield func(helped)) {
	t.Helper()
	seen := map[string]bool{helpedKey(begin): true}
	for work := []helped{begin}; len(work) > 0; {
		h := work[len(work)-1]
		work = work[:len(work)-1]
		yield(h)
		for who, stack := range h.stacks {
			if len(stack) == 0 {
				continue
			}
			to := helpWith(t, h, who)
			if key := helpedKey(to); !seen[key] {
				seen[key] = true
				work = append(work, to)
			}
		}
	}
}

// isHelped tells whether all stacks are empty.
func isHelped(h helped) bool {
	return !slices.ContainsFunc(h.stacks, func(stack []frame) bool { return len(stack) > 0 })
}

// checkAlone asks that each one is soon at the end of its stack when all others are left standing where they are, and
// that the one it began with is decided then.
func checkAlone(t *testing.T, h helped, bottom []int) {
	t.Helper()
	for who, stack := range h.stacks {
		then, steps, ok := impl.Finish(h.store, stack, 2000)
		if !ok || steps > 60 || then.Descs[bottom[who]].Status == undecided {
			t.Fatal(who, "alone of", h, "comes to", then, steps, ok)
		}
	}
}

// sameCases are stores and descriptors of them that several help.
func sameCases() map[string]helped {
	three := threeStore()
	reads := meetingStore()
	reads.Descs[0] = descOf(0, undecided, readOf(1, 0, 6))
	chain := store{Heads: []head{headOf(1, 0, 0), headOf(2, 0, 1), headOf(3, 0, 2)}, Descs: []desc{
		descOf(0, undecided, writeOf(0, 0, 1, 10), readOf(1, 0, 2)), descOf(1, undecided, writeOf(1, 0, 2, 20), readOf(2, 0, 3)), descOf(2, undecided, writeOf(2, 0, 3, 30)),
	}}
	return map[string]helped{
		"one that meets none":           {three, [][]frame{lookers(0), lookers(0)}},
		"one that is late":              {holding(three, 2, headOf(-7, 4, -1)), [][]frame{lookers(0), lookers(0)}},
		"one of one entry":              {three, [][]frame{lookers(1), lookers(1), lookers(1)}},
		"one that is decided":           {decided(laid(three, 0, 0, 1, 2), 0, committed), [][]frame{lookers(0), lookers(0), lookers(0)}},
		"one that meets a Write":        {meetingStore(), [][]frame{lookers(1), lookers(1)}},
		"one that meets a read":         {reads, [][]frame{lookers(1), lookers(1)}},
		"one that meets a failed one":   {decided(laid(three, 0, 1), 0, failed), [][]frame{lookers(1), lookers(1), lookers(1)}},
		"one that meets a row":          {chain, [][]frame{lookers(0), lookers(0)}},
		"one, somebody standing within": {laid(three, 0, 0), [][]frame{lookers(0), {frameOf(0, lays, 1)}}},
	}
}

// Promise 8, in all ways in which the steps can come: who help the same come to the one store to which one of them comes
// alone, and so does each of them alone from wherever the others are left standing.
func TestAllWaysOfHelpingTheSame(t *testing.T) {
	for name, begin := range sameCases() {
		t.Run(name, func(t *testing.T) {
			number := begin.stacks[0][0].Desc
			want, _, ok := impl.Finish(begin.store, lookers(number), 2000)
			if !ok || len(impl.Held(want)) != 0 || want.Descs[number].Status == undecided {
				t.Fatal("alone:", want, ok)
			}
			ends := 0
			eachHelp(t, begin, func(h helped) {
				checkAlone(t, h, alike(number, len(h.stacks)))
				if isHelped(h) {
					ends++
					if !sameStore(h.store, want) {
						t.Fatal("comes to", h.store, "not to", want)
					}
				}
			})
			if ends == 0 {
				t.Error("no end")
			}
		})
	}
}

// Two who help different ones that meet: whoever comes first, each is decided, what is committed is done wholly and one
// after the other, nothing lies in the end, and nobody waits for anybody.
func TestAllWaysOfHelpingDifferentOnes(t *testing.T) {
	heads := []head{headOf(1, 0, -1), headOf(2, 4, -1), headOf(3, mostVersions, -1)}
	both := []desc{
		descOf(0, undecided, writeOf(0, 0, 1, 10), writeOf(1, 4, 2, 20)),
		descOf(1, undecided, writeOf(0, 0, 1, 11), writeOf(1, 4, 2, 21)),
	}
	for _, c := range []struct {
		name  string
		descs []desc
		begin [][]frame
		ends  string // the status of each descriptor, in all ends that there are
	}{
		{"both write both", both, [][]frame{lookers(0), lookers(1)}, "[12 21]"},
		{"both write both, one helps first one, then the other one", both, [][]frame{lookers(1, 0), lookers(1)}, "[12 21]"},
		{"each reads what the other one writes",
			[]desc{descOf(0, undecided, writeOf(0, 0, 1, 10), readOf(1, 4, 2)), descOf(1, undecided, readOf(0, 0, 1), writeOf(1, 4, 2, 20))},
			[][]frame{lookers(0), lookers(1)}, "[12 21]"},
		{"both read", []desc{descOf(0, undecided, readOf(0, 0, 1), readOf(2, mostVersions, 3)), descOf(1, undecided, readOf(0, 0, 1), readOf(1, 4, 2))},
			[][]frame{lookers(0), lookers(1)}, "[11]"},
		{"three meet in a round", []desc{
			descOf(0, undecided, writeOf(0, 0, 1, 10), writeOf(1, 4, 2, 20)),
			descOf(1, undecided, writeOf(1, 4, 2, 21), writeOf(2, mostVersions, 3, 31)),
			descOf(2, undecided, writeOf(0, 0, 1, 12), writeOf(2, mostVersions, 3, 32)),
		}, [][]frame{lookers(0), lookers(1), lookers(2)}, "[122 212 221]"},
		{"one that nobody drives is met by nobody", append(both[:1:1], descOf(1, undecided, writeOf(1, 4, 2, 3)), both[1]),
			[][]frame{lookers(0), lookers(2)}, "[102 201]"},
	} {
		t.Run(c.name, func(t *testing.T) {
			begin := helped{store{Heads: heads, Descs: c.descs}, c.begin}
			var bottom []int
			for _, stack := range c.begin {
				bottom = append(bottom, stack[0].Desc)
			}
			ends := map[string]bool{}
			eachHelp(t, begin, func(h helped) {
				checkAlone(t, h, bottom)
				if isHelped(h) {
					ends[checkEnd(t, begin.store, h.store)] = true
				}
			})
			var texts []string
			for end := range ends {
				texts = append(texts, end)
			}
			slices.Sort(texts)
			if fmt.Sprint(texts) != c.ends {
				t.Error("ends are", texts, "not", c.ends)
			}
		})
	}
}

// frameBehind lies behind the lists that are handed in; it is no frame of any store.
func frameBehind() frame { return frameOf(7, 9, 9) }

// helpAnswer is a store and all stacks that one call answers with.
type helpAnswer struct {
	store
	stacks [][]frame
}

// helpAnswers are what all functions answer, done or refused; those that answer no list are called, too.
func helpAnswers(s store, a []frame, b []frame, turns []bool) []helpAnswer {
	impl.StackOk(s, a)
	impl.Depth(s, 0)
	all, _ := impl.FinishAll(s)
	answers := []helpAnswer{{all, nil}}
	for _, stack := range [][]frame{a, b} {
		then, left := impl.Help(s, stack)
		answers = append(answers, helpAnswer{then, [][]frame{left}})
		for _, most := range []int{-1, 0, 1, 5, 2000, 2001} {
			then, _, _ := impl.Finish(s, stack, most)
			answers = append(answers, helpAnswer{then, nil})
		}
	}
	for many := range len(turns) + 1 {
		then, ofA, ofB := impl.Together(s, a, b, turns[:many])
		answers = append(answers, helpAnswer{then, [][]frame{ofA, ofB}})
	}
	return answers
}

// someStacks are in order in some stores, and in others not.
func someStacks() [][]frame {
	return [][]frame{
		nil, lookers(0), {frameOf(0, lays, 0)}, {frameOf(0, frees, 0)}, lookers(1, 0), {frameOf(2, lays, 1), frameOf(0, decides, 0)},
		alike(frameOf(0, looks, 0), 130), alike(frameOf(0, lays, 0), 131), {frameOf(0, isOver, 0)}, {frameOf(1, fails, 0), frameOf(-1, 0, 0)},
	}
}

func sameHelpAnswer(a helpAnswer, b helpAnswer) bool {
	return sameStore(a.store, b.store) && slices.EqualFunc(a.stacks, b.stacks, slices.Equal)
}

// overwriteAnswer changes one list after the other, with its spare room, and asks that the others stay as they were.
func overwriteAnswer(t *testing.T, name string, answer helpAnswer) {
	t.Helper()
	was := helpAnswer{store: cloneStore(answer.store)}
	for _, stack := range answer.stacks {
		was.stacks = append(was.stacks, slices.Clone(stack))
	}
	for i, stack := range answer.stacks {
		overwrite(stack, frameOf(-7, i, 0))
		was.stacks[i] = slices.Clone(stack)
		if !sameHelpAnswer(answer, was) {
			t.Errorf("%s: two lists of one answer share memory", name)
		}
	}
	overwriteStore(t, name, answer.store)
	if !slices.EqualFunc(answer.stacks, was.stacks, slices.Equal) {
		t.Errorf("%s: a stack shares memory with the store", name)
	}
}

func helpStores() map[string]store {
	all := everyStore()
	all["two that meet"], all["a ring"], all["a row"] = meetingStore(), ringStore(), rowStore()
	return all
}

// Promise 19: nothing is written into an argument, nor behind it; every answer is new memory, also where all comes back
// as it was.
func TestHelpingWritesNothingAndSharesNothing(t *testing.T) {
	for name, plain := range helpStores() {
		stacks := someStacks()
		for i, stack := range stacks {
			g := guardStore(plain)
			a, b, turns := guard(stack, frameBehind()), guard(stacks[(i+3)%len(stacks)], frameBehind()), guard([]bool{false, true, true, false, true}, true)
			answers := helpAnswers(g.store, a.list(), b.list(), turns.list())
			// Both stacks may be one list.
			answers = append(answers, helpAnswers(g.store, a.list(), a.list(), turns.list())...)
			check := func(when string) {
				g.check(t, name+when)
				a.check(t, name+when)
				b.check(t, name+when)
				turns.check(t, name+when)
			}
			check(", called")
			for _, answer := range answers {
				overwriteAnswer(t, name, answer)
			}
			check(", overwritten")
		}
	}
}

// What lies behind a list's length is neither read nor handed out, also not as spare room of an answer.
func TestHelpingReadsNothingBehind(t *testing.T) {
	turns := []bool{true, false, false, true, false}
	for name, plain := range helpStores() {
		s := guardStore(plain).store
		stacks := someStacks()
		for i, stack := range stacks {
			b := stacks[(i+3)%len(stacks)]
			wants := helpAnswers(plain, slices.Clone(stack), slices.Clone(b), turns)
			answers := helpAnswers(s, guard(stack, frameBehind()).list(), guard(b, frameBehind()).list(), guard(turns, true).list())
			for j, answer := range answers {
				if !sameHelpAnswer(answer, wants[j]) {
					t.Errorf("%s: what lies behind is read: %v, not %v", name, answer, wants[j])
				}
				checkSpare(t, name, answer)
			}
			if impl.StackOk(s, guard(stack, frameBehind()).list()) != impl.StackOk(plain, stack) {
				t.Errorf("%s: what lies behind a stack is read", name)
			}
		}
		for from := range 3 {
			if impl.Depth(s, from) != impl.Depth(plain, from) {
				t.Errorf("%s: what lies behind is read", name)
			}
		}
	}
	// A frame and a descriptor behind what is there count for nothing, though they are in order.
	row := rowStore()
	long := alike(frameOf(0, looks, 0), 131)
	if !impl.StackOk(row, long[:130]) {
		t.Error("what lies behind a stack is read")
	}
	row.Descs, row.Heads[7].Desc = row.Descs[:7], -1
	if impl.Depth(row, 7) != 0 || impl.StackOk(row, lookers(7)) {
		t.Error("a descriptor behind is read")
	}
}

func checkSpare(t *testing.T, name string, answer helpAnswer) {
	t.Helper()
	for _, stack := range answer.stacks {
		if slices.Contains(spare(stack), frameBehind()) {
			t.Errorf("%s: what lies behind a stack is handed out", name)
		}
	}
	if slices.Contains(spare(answer.Heads), headBehind()) || slices.ContainsFunc(spare(answer.Descs), func(d desc) bool { return sameDesc(d, descBehind()) }) {
		t.Errorf("%s: what lies behind is handed out", name)
	}
	for _, d := range answer.Descs {
		if slices.Contains(spare(d.Entries), entryBehind()) {
			t.Errorf("%s: what lies behind the entries is handed out", name)
		}
	}
}
