package tests

import (
	"fmt"
	"maps"
	"math"
	"slices"
	"sync"
	"testing"

	"loop.example/g00087/impl"
)

// What Explained tells, as the document numbers it.
const (
	orderWell   = 0
	orderBad    = 1
	orderCommit = 2
	orderSeen   = 3
)

// logged is a world of the objects 5, 6 and 7, and of three threads, in which the events came to pass. The descriptors
// are committed as these tell it; those that they do not tell are undecided.
func logged(descs []desc, events ...event) world {
	w := worldOf([]int{5, 6, 7}, "commit", "", "read 0 1; commit")
	w.Store.Descs = cloneStore(store{Descs: descs}).Descs
	for _, e := range events {
		if e.Kind == impl.EvCommit {
			w.Store.Descs[e.Object].Status = committed
		}
	}
	w.Log = events
	return w
}

// fourDescs can be done in this order: 0 writes object 0; 1 only reads; 2 writes 0 again, and 2, and reads 1 between; 3
// writes 2 again.
func fourDescs() []desc {
	return []desc{
		descOf(0, undecided, writeOf(0, 0, 5, 50)),
		descOf(1, undecided, readOf(0, 1, 50), readOf(1, 0, 6)),
		descOf(0, undecided, writeOf(0, 1, 50, 51), readOf(1, 0, 6), writeOf(2, 0, 7, 70)),
		descOf(2, undecided, writeOf(2, 1, 70, 71)),
	}
}

// fourLogged tells that all of these are committed, and other things between.
func fourLogged() world {
	return logged(fourDescs(),
		opensEvent(2, 1, 6), commitEvent(0, 0), seenEvent(2), commitEvent(1, 1), commitEvent(0, 2), failEvent(1), abortEvent(0), commitEvent(2, 3), doneEvent(1))
}

// stateBehind says of a world what the document says of StateAt, whatever the world is like otherwise.
func stateBehind(w world, place int) []int {
	return replayed(world{First: w.First, Store: w.Store, Log: w.Log[:place]})
}

// plainStateAt says what the document does, and so do those below.
func plainStateAt(w world, place int) ([]int, bool) {
	if !plainWorldOk(w) || place < 0 || place > len(w.Log) {
		return nil, false
	}
	return stateBehind(w, place), true
}

func plainCommits(w world) ([]int, bool) {
	var numbers []int
	for _, e := range w.Log {
		if e.Kind == 3 {
			numbers = append(numbers, e.Object)
		}
	}
	if !plainWorldOk(w) {
		return nil, false
	}
	return numbers, true
}

// plainAttempt are the places of the EvOpens of the thread's attempt, as it is behind that many events.
func plainAttempt(w world, who int, place int) []int {
	var opens []int
	for at, e := range w.Log[:place] {
		if e.Thread != who {
			continue
		}
		switch e.Kind {
		case 1:
			opens = append(opens, at)
		case 3, 4, 5:
			opens = nil
		}
	}
	return opens
}

// plainTold is what the thread's attempt has been told of each object, and what there was when it opened the last one.
func plainTold(w world, who int, place int) (map[int]int, []int) {
	opens := plainAttempt(w, who, place)
	if len(opens) == 0 {
		return nil, nil
	}
	values := map[int]int{}
	for _, at := range opens {
		values[w.Log[at].Object] = w.Log[at].Value
	}
	return values, stateBehind(w, opens[len(opens)-1])
}

func plainExplained(w world) (int, int) {
	if !plainWorldOk(w) {
		return -1, orderBad
	}
	for place, e := range w.Log {
		if e.Kind == 3 && !fitsTo(stateBehind(w, place), w.Store.Descs[e.Object]) {
			return place, orderCommit
		}
		if e.Kind != 2 {
			continue
		}
		values, state := plainTold(w, e.Thread, place)
		ok := len(values) > 0
		for object, value := range values {
			ok = ok && state[object] == value
		}
		if !ok {
			return place, orderSeen
		}
	}
	return -1, orderWell
}

// fitsTo asks whether each entry's Old is the value that there is.
func fitsTo(values []int, d desc) bool {
	return !slices.ContainsFunc(d.Entries, func(e entry) bool { return values[e.Object] != e.Old })
}

func plainSerialOk(first []int, descs []desc) bool {
	if len(first) < 1 || len(first) > 8 || len(descs) > 60 {
		return false
	}
	ok := slices.Min(first) >= -top && slices.Max(first) <= top
	for _, d := range descs {
		ok = ok && impl.DescOk(d) && d.Entries[len(d.Entries)-1].Object < len(first)
	}
	return ok
}

func plainSerial(first []int, descs []desc) ([]int, bool) {
	if !plainSerialOk(first, descs) {
		return nil, false
	}
	values := slices.Clone(first)
	for _, d := range descs {
		if !fitsTo(values, d) {
			return values, false
		}
		for _, e := range d.Entries {
			values[e.Object] = e.New
		}
	}
	return values, true
}

// arrangements are all orders of the places of that many.
func arrangements(many int) [][]int {
	if many == 0 {
		return [][]int{{}}
	}
	var all [][]int
	for _, order := range arrangements(many - 1) {
		for at := range many {
			all = append(all, slices.Insert(slices.Clone(order), at, many-1))
		}
	}
	return all
}

// arranged are the descriptors at the places, in the order of these.
func arranged(descs []desc, order []int) []desc {
	var list []desc
	for _, place := range order {
		list = append(list, descs[place])
	}
	return list
}

func plainOrders(first []int, descs []desc) (int, bool) {
	if !plainSerialOk(first, descs) || len(descs) > 6 {
		return 0, false
	}
	many := 0
	for _, order := range arrangements(len(descs)) {
		if _, ok := plainSerial(first, arranged(descs, order)); ok {
			many++
		}
	}
	return many, true
}

func plainMended(w world) ([]int, bool) {
	if !plainWorldOk(w) {
		return nil, false
	}
	then, ok := plainFinishAll(w.Store)
	if !ok {
		return nil, false
	}
	var values []int
	for _, h := range then.Heads {
		values = append(values, h.Value)
	}
	return values, true
}

func TestLimitsOfOrders(t *testing.T) {
	if !slices.Equal([]int{impl.OrderWell, impl.OrderBad, impl.OrderCommit, impl.OrderSeen}, []int{orderWell, orderBad, orderCommit, orderSeen}) {
		t.Error("codes")
	}
}

func checkState(t *testing.T, name string, w world, place int, want []int, wantOk bool) {
	t.Helper()
	values, ok := impl.StateAt(w, place)
	if ok != wantOk || !slices.Equal(values, want) {
		t.Fatalf("%s: %+v\nbehind %d: %v %v, not %v %v", name, w, place, values, ok, want, wantOk)
	}
}

func checkCommits(t *testing.T, name string, w world, want []int, wantOk bool) {
	t.Helper()
	numbers, ok := impl.Commits12(w)
	if ok != wantOk || !slices.Equal(numbers, want) {
		t.Fatalf("%s: %+v: commits %v %v, not %v %v", name, w, numbers, ok, want, wantOk)
	}
}

func checkExplained(t *testing.T, name string, w world, wantPlace int, wantCode int) {
	t.Helper()
	place, code := impl.Explained(w)
	if place != wantPlace || code != wantCode {
		t.Fatalf("%s: %+v: explained %d %d, not %d %d", name, w, place, code, wantPlace, wantCode)
	}
}

func checkMended(t *testing.T, name string, w world, want []int, wantOk bool) {
	t.Helper()
	values, ok := impl.Mended(w)
	if ok != wantOk || !slices.Equal(values, want) {
		t.Fatalf("%s: %+v: mended %v %v, not %v %v", name, w, values, ok, want, wantOk)
	}
}

// noPlaces are numbers of no place in a log of that many events.
func noPlaces(many int) []int {
	return []int{math.MinInt, -top, -many - 1, -2, -1, many + 1, many + 2, 2*many + 7, mostEvents + 1, math.MaxInt}
}

// checkPlainOrder asks of a world all that this chapter does.
func checkPlainOrder(t *testing.T, name string, w world) {
	t.Helper()
	places := append(placesTo(min(len(w.Log)+1, 40)), len(w.Log))
	for _, place := range append(places, noPlaces(len(w.Log))...) {
		want, ok := plainStateAt(w, place)
		checkState(t, name, w, place, want, ok)
	}
	numbers, ok := plainCommits(w)
	checkCommits(t, name, w, numbers, ok)
	place, code := plainExplained(w)
	checkExplained(t, name, w, place, code)
	values, ok := plainMended(w)
	checkMended(t, name, w, values, ok)
}

func TestOrderOfGoodAndBadWorlds(t *testing.T) {
	for name, w := range goodWorlds() {
		checkPlainOrder(t, name, w)
	}
	for name, w := range badWorlds() {
		for _, place := range []int{0, 1, len(w.Log), -1, len(w.Log) + 1} {
			checkState(t, name, w, place, nil, false)
		}
		checkCommits(t, name, w, nil, false)
		checkExplained(t, name, w, -1, orderBad)
		checkMended(t, name, w, nil, false)
	}
}

func TestOrderOverEdges(t *testing.T) {
	eachWorldEdge(fourLogged(), func(name string, w world) { checkPlainOrder(t, name, w) })
}

func TestStateAt(t *testing.T) {
	four := fourLogged()
	for place, want := range [][]int{
		{5, 6, 7}, {5, 6, 7}, // right ahead of the first commit
		{50, 6, 7}, {50, 6, 7}, // right ahead of one that only reads
		{50, 6, 7},                            // behind it
		{51, 6, 70}, {51, 6, 70}, {51, 6, 70}, // behind one that writes two objects
		{51, 6, 71}, {51, 6, 71}, // all
	} {
		checkState(t, "four", four, place, want, true)
	}
	for _, place := range noPlaces(len(four.Log)) {
		checkState(t, "four", four, place, nil, false)
	}
	none := logged(nil)
	checkState(t, "no events", none, 0, []int{5, 6, 7}, true)
	checkState(t, "no events", none, 1, nil, false)
	checkState(t, "no events", none, -1, nil, false)
}

// It is the order of the log that counts, not that of the numbers; whatever was read, each Write is done; what is not
// told to be committed is not; and neither a head nor an event of another kind is looked at.
func TestStateAtGoesByTheLog(t *testing.T) {
	backward := logged(fourDescs(), commitEvent(2, 3), commitEvent(0, 2), commitEvent(1, 1), commitEvent(0, 0))
	for place, want := range [][]int{{5, 6, 7}, {5, 6, 71}, {51, 6, 70}, {51, 6, 70}, {50, 6, 70}} {
		checkState(t, "backward", backward, place, want, true)
	}
	one := logged(fourDescs(), opensEvent(0, 0, 99), commitEvent(2, 3), eventOf(2, 0, 1, 98), eventOf(4, 1, 2, 97), eventOf(6, 0, 0, 96))
	one.Store = decided(holding(one.Store, 2, headOf(95, 7, -1)), 0, failed)
	for place, want := range [][]int{{5, 6, 7}, {5, 6, 7}, {5, 6, 71}, {5, 6, 71}, {5, 6, 71}, {5, 6, 71}} {
		checkState(t, "one of four", one, place, want, true)
	}
	first := withWorld(one, func(w *world) { w.First = []int{top, -top, 0} })
	checkState(t, "another First", first, 1, []int{top, -top, 0}, true)
	checkState(t, "another First", first, 2, []int{top, -top, 71}, true)
}

func TestCommits12(t *testing.T) {
	four, descs := fourLogged(), fourDescs()
	checkCommits(t, "four", four, []int{0, 1, 2, 3}, true)
	checkCommits(t, "no events", logged(nil), nil, true)
	checkCommits(t, "no commits", logged(descs, opensEvent(0, 1, 1), failEvent(0), abortEvent(1), doneEvent(2)), nil, true)
	checkCommits(t, "one", logged(descs, commitEvent(0, 2)), []int{2}, true)
	checkCommits(t, "backward", logged(descs, commitEvent(2, 3), commitEvent(0, 2), commitEvent(1, 1), commitEvent(0, 0)), []int{3, 2, 1, 0}, true)
	checkCommits(t, "some, in any order", logged(descs, seenEvent(0), commitEvent(0, 2), opensEvent(1, 0, 3), commitEvent(2, 3), commitEvent(0, 0)), []int{2, 3, 0}, true)
	checkCommits(t, "most", fullWorld(), []int{58, 55, 52, 49, 46, 43, 40, 37, 34, 31, 28, 25, 22, 19, 16, 13, 10, 7, 4, 1}, true)
}

// orderCase is a log, and what Explained tells of it.
type orderCase struct {
	name  string
	log   []event
	place int
	code  int
}

func checkOrderCases(t *testing.T, descs []desc, cases []orderCase) {
	t.Helper()
	for _, c := range cases {
		w := logged(descs, c.log...)
		checkExplained(t, c.name, w, c.place, c.code)
		checkPlainOrder(t, c.name, w)
	}
}

func TestExplainedOfCommits(t *testing.T) {
	first, second, third, fourth := commitEvent(0, 0), commitEvent(1, 1), commitEvent(0, 2), commitEvent(2, 3)
	checkOrderCases(t, fourDescs(), []orderCase{
		{"no events", nil, -1, orderWell},
		{"no commits, and none seen", []event{opensEvent(0, 0, 99), abortEvent(0), doneEvent(1)}, -1, orderWell},
		{"in order", []event{first, second, third, fourth}, -1, orderWell},
		{"in order, other events between", fourLogged().Log, -1, orderWell},
		{"one that reads is left out", []event{first, third, fourth}, -1, orderWell},
		{"the first is left out", []event{second, third, fourth}, 0, orderCommit},
		{"the second Write is left out", []event{first, second, fourth}, 2, orderCommit},
		{"one that reads comes ahead of what it read", []event{second, first, third}, 0, orderCommit},
		{"one that reads comes behind what others wrote", []event{first, third, second}, 2, orderCommit},
		{"backward", []event{fourth, third, second, first}, 0, orderCommit},
		{"other events ahead of it", []event{doneEvent(0), first, abortEvent(2), fourth, third}, 3, orderCommit},
		{"its place is that in the log, not among commits", []event{failEvent(0), failEvent(0), failEvent(0), third}, 3, orderCommit},
	})
}

// One entry of three has another Old than there is: each of them counts, a Write or not.
func TestExplainedOfEachEntry(t *testing.T) {
	fits := descOf(1, undecided, writeOf(0, 0, 50, 51), readOf(1, 0, 6), writeOf(2, 0, 7, 70))
	for way := range 1 << 6 {
		d := descOf(1, undecided, slices.Clone(fits.Entries)...)
		want := orderWell
		for place := range d.Entries {
			if way>>place&1 == 1 {
				d.Entries[place].Old = 8
				want = orderCommit
			}
			d.Entries[place].Write = way>>(3+place)&1 == 1
			if !d.Entries[place].Write {
				d.Entries[place].New = d.Entries[place].Old
			}
			d.Entries[place].Version = 77 // nobody looks at it
		}
		place := -1
		if want == orderCommit {
			place = 1
		}
		checkOrderCases(t, []desc{fourDescs()[0], d}, []orderCase{{fmt.Sprint("way ", way), []event{commitEvent(0, 0), commitEvent(1, 1), doneEvent(0)}, place, want}})
	}
	// What is written again as it was is as good as what stayed.
	descs := []desc{descOf(0, undecided, writeOf(1, 0, 6, 8)), descOf(1, undecided, writeOf(1, 1, 8, 6)), descOf(2, undecided, readOf(1, 0, 6))}
	checkOrderCases(t, descs, []orderCase{
		{"as it was again", []event{commitEvent(0, 0), commitEvent(1, 1), commitEvent(2, 2)}, -1, orderWell},
		{"as it was not", []event{commitEvent(0, 0), commitEvent(2, 2), commitEvent(1, 1)}, 1, orderCommit},
		{"it is read ahead of both", []event{commitEvent(2, 2), commitEvent(0, 0), commitEvent(1, 1)}, -1, orderWell},
	})
}

func TestExplainedOfSeen(t *testing.T) {
	commit := commitEvent(0, 0) // object 0, of 5, becomes 50
	seen := seenEvent(1)
	opens := func(object int, value int) event { return opensEvent(1, object, value) }
	checkOrderCases(t, fourDescs(), []orderCase{
		{"as it is", []event{opens(0, 5), seen}, -1, orderWell},
		{"as it is not", []event{opens(0, 6), seen}, 1, orderSeen},
		{"opened, and not seen", []event{opens(0, 6)}, -1, orderWell},
		{"all as they are", []event{opens(0, 5), seen, opens(2, 7), seen, opens(1, 6), seen}, -1, orderWell},
		{"all at once", []event{opens(2, 7), opens(0, 5), opens(1, 6), seen}, -1, orderWell},
		{"the first of three is not", []event{opens(0, 4), opens(1, 6), opens(2, 7), seen}, 3, orderSeen},
		{"one of three is not", []event{opens(0, 5), opens(1, 7), opens(2, 7), seen}, 3, orderSeen},
		{"the last of three is not", []event{opens(0, 5), opens(1, 6), opens(2, 6), seen}, 3, orderSeen},
		{"what was seen is asked again", []event{opens(0, 5), seen, commit, opens(1, 6), seen}, 4, orderSeen},
		{"seen twice", []event{opens(0, 5), seen, seen}, -1, orderWell},
		{"as it was ahead of the commit", []event{opens(0, 5), commit, seen}, -1, orderWell},
		{"it fits at its own place, not at that of the last opened", []event{opens(0, 50), commit, seen}, 2, orderSeen},
		{"it fits at that of the last opened, not at its own", []event{opens(1, 6), opens(0, 5), commit, seen}, -1, orderWell},
		{"it fits right behind the commit", []event{commit, opens(0, 50), seen}, -1, orderWell},
		{"it fits no more right behind the commit", []event{commit, opens(0, 5), seen}, 2, orderSeen},
		{"it fitted where it was opened, not at the last", []event{opens(0, 5), commit, opens(1, 6), seen}, 3, orderSeen},
		{"it fits at the last, not where it was opened", []event{opens(0, 50), commit, opens(1, 6), seen}, -1, orderWell},
		{"opened twice, the last one fits", []event{opens(0, 9), opens(0, 5), seen}, -1, orderWell},
		{"opened twice, the first one fits", []event{opens(0, 5), opens(0, 9), seen}, 2, orderSeen},
		{"opened twice, a commit between", []event{opens(0, 5), commit, opens(0, 50), seen}, -1, orderWell},
		{"opened twice, another one between, the last one fits", []event{opens(0, 9), opens(1, 6), opens(0, 5), seen}, -1, orderWell},
		{"opened twice, another one behind, the first one fits", []event{opens(0, 5), opens(0, 9), opens(1, 6), seen}, 3, orderSeen},
		{"opened twice, seen between", []event{opens(0, 5), seen, commit, opens(0, 50), seen}, -1, orderWell},
		{"values at the limits", []event{opens(0, top), opens(1, -top), opens(0, 5), opens(1, 6), seen}, -1, orderWell},
		{"other fields are not looked at", []event{opens(0, 5), eventOf(2, 1, 77, 88)}, -1, orderWell},
	})
}

// An attempt has what its thread opened behind its last commit, fail or abort, and nothing else ends it.
func TestExplainedOfAttempts(t *testing.T) {
	seen := seenEvent(1)
	opens := func(object int, value int) event { return opensEvent(1, object, value) }
	checkOrderCases(t, fourDescs(), []orderCase{
		{"none opened", []event{seen}, 0, orderSeen},
		{"none opened, other events ahead", []event{doneEvent(1), seen}, 1, orderSeen},
		{"others have opened", []event{opensEvent(0, 0, 5), opensEvent(2, 0, 5), seen}, 2, orderSeen},
		{"opened behind", []event{seen, opens(0, 5)}, 0, orderSeen},
		{"it is done", []event{opens(0, 5), doneEvent(1), seen}, -1, orderWell},
		{"it is done, and saw something else", []event{opens(0, 9), doneEvent(1), seen}, 2, orderSeen},
		{"others end theirs", []event{opens(0, 5), failEvent(0), abortEvent(2), commitEvent(0, 0), failEvent(2), seen}, -1, orderWell},
		{"others end theirs, and it saw something else", []event{opens(0, 9), failEvent(0), abortEvent(2), commitEvent(0, 0), failEvent(2), seen}, 5, orderSeen},
		{"others open what they open", []event{opens(0, 5), opensEvent(0, 0, 9), opensEvent(2, 1, 9), seen}, -1, orderWell},
		{"others open behind a commit", []event{opens(0, 5), commitEvent(0, 0), opensEvent(2, 0, 50), seen, seenEvent(2)}, -1, orderWell},
		{"others see something else", []event{opens(0, 5), opensEvent(2, 0, 9), seen, seenEvent(2)}, 3, orderSeen},
		{"three at once", []event{opensEvent(0, 0, 5), opens(0, 5), opensEvent(2, 0, 5), commitEvent(0, 0), seen, opens(0, 50), seen, seenEvent(2)}, -1, orderWell},
		{"the committed one sees no more", []event{opensEvent(0, 0, 5), commitEvent(0, 0), seenEvent(0)}, 2, orderSeen},
		{"the committed one opens anew", []event{opensEvent(0, 0, 5), commitEvent(0, 0), opensEvent(0, 0, 50), seenEvent(0)}, -1, orderWell},
		{"two attempts end", []event{opens(0, 9), failEvent(1), opens(0, 8), abortEvent(1), opens(0, 5), seen}, -1, orderWell},
		{"it ends twice", []event{opens(0, 5), failEvent(1), abortEvent(1), seen}, 3, orderSeen},
	})
	for _, end := range []event{failEvent(1), abortEvent(1), commitEvent(1, 0)} {
		descs := []desc{descOf(1, undecided, writeOf(2, 0, 7, 7))}
		name := fmt.Sprint("ended by ", end.Kind)
		checkOrderCases(t, descs, []orderCase{
			{name, []event{opens(0, 5), end, seen}, 2, orderSeen},
			{name + ", seen ahead", []event{opens(0, 5), seen, end, seen}, 3, orderSeen},
			{name + ", what was opened ahead counts no more", []event{opens(0, 9), end, opens(1, 6), seen}, -1, orderWell},
			{name + ", what was opened behind counts", []event{opens(0, 5), end, opens(0, 9), seen}, 3, orderSeen},
			{name + ", at first", []event{end, opens(0, 5), seen}, -1, orderWell},
			{name + ", another one goes on", []event{opensEvent(2, 0, 5), opens(0, 5), end, seenEvent(2)}, -1, orderWell},
			{name + ", another one goes on with what is not", []event{opensEvent(2, 0, 9), opens(0, 5), end, seenEvent(2)}, 3, orderSeen},
		})
	}
	// It is the thread that the commit tells whose attempt ends, also where that is not the owner.
	descs := []desc{descOf(0, undecided, writeOf(2, 0, 7, 7))}
	checkOrderCases(t, descs, []orderCase{
		{"told of another one", []event{opens(0, 5), commitEvent(1, 0), seen}, 2, orderSeen},
		{"told of the owner", []event{opens(0, 5), commitEvent(0, 0), seen}, -1, orderWell},
		{"told of another one, the owner goes on", []event{opensEvent(0, 0, 5), commitEvent(1, 0), seenEvent(0)}, -1, orderWell},
	})
}

func TestExplainedTellsTheFirst(t *testing.T) {
	bad := []event{commitEvent(0, 2), opensEvent(1, 0, 4), seenEvent(1)}
	checkOrderCases(t, fourDescs(), []orderCase{
		{"a commit, and then seen", bad, 0, orderCommit},
		{"seen, and then a commit", []event{bad[1], bad[2], bad[0]}, 1, orderSeen},
		{"a commit between", []event{bad[1], bad[0], bad[2]}, 1, orderCommit},
		{"two commits", []event{commitEvent(0, 0), commitEvent(2, 3), commitEvent(0, 2), commitEvent(1, 1)}, 1, orderCommit},
		{"seen twice", []event{opensEvent(0, 0, 5), seenEvent(0), opensEvent(1, 1, 7), opensEvent(2, 2, 8), seenEvent(2), seenEvent(1)}, 4, orderSeen},
		{"all is well up to the last", append(slices.Clone(fourLogged().Log), seenEvent(0)), 9, orderSeen},
	})
	// The last of most events, and all of most.
	w := telling(logged(fourDescs(), opensEvent(0, 0, 5)), mostEvents)
	checkExplained(t, "most events", w, -1, orderWell)
	w.Log[mostEvents-1] = seenEvent(2)
	checkExplained(t, "the last of most events", w, mostEvents-1, orderSeen)
	w.Log[1] = seenEvent(1)
	checkExplained(t, "the second of most events", w, 1, orderSeen)
	checkExplained(t, "one event too many", told(w, doneEvent(0)), -1, orderBad)
}

// eachShortLog goes through all logs of that many events at most, of two threads and two objects, each descriptor being
// told once at most.
func eachShortLog(most int, yield func([]event)) {
	alphabet := []event{opensEvent(0, 0, 5), opensEvent(0, 0, 50), opensEvent(0, 1, 6), opensEvent(1, 0, 5), seenEvent(0), seenEvent(1), commitEvent(0, 0), commitEvent(1, 1), failEvent(0)}
	var extend func(log []event)
	extend = func(log []event) {
		yield(log)
		if len(log) == most {
			return
		}
		for _, e := range alphabet {
			if e.Kind != impl.EvCommit || !slices.Contains(log, e) {
				extend(append(slices.Clone(log), e))
			}
		}
	}
	extend(nil)
}

func TestExplainedOfAllShortLogs(t *testing.T) {
	codes := map[int]int{}
	descs := []desc{descOf(0, undecided, writeOf(0, 0, 5, 50)), descOf(1, undecided, readOf(0, 1, 50), writeOf(1, 0, 6, 60))}
	eachShortLog(5, func(log []event) {
		w := logged(descs, log...)
		place, code := plainExplained(w)
		checkExplained(t, "short", w, place, code)
		codes[code]++
	})
	if codes[orderWell] < 1000 || codes[orderCommit] < 1000 || codes[orderSeen] < 1000 {
		t.Error("only", codes)
	}
}

func checkSerial(t *testing.T, name string, first []int, descs []desc, want []int, wantOk bool) {
	t.Helper()
	values, ok := impl.Serial(first, descs)
	if ok != wantOk || !slices.Equal(values, want) {
		t.Fatalf("%s: %v behind %v: %v %v, not %v %v", name, first, descs, values, ok, want, wantOk)
	}
	plain, plainOk := plainSerial(first, descs)
	if plainOk != wantOk || !slices.Equal(plain, want) {
		t.Fatalf("%s: %v behind %v: plainly %v %v, not %v %v", name, first, descs, plain, plainOk, want, wantOk)
	}
}

func TestSerial(t *testing.T) {
	four, first := fourDescs(), []int{5, 6, 7}
	for _, c := range []struct {
		name  string
		order []int
		want  []int
		ok    bool
	}{
		{"none", nil, []int{5, 6, 7}, true},
		{"one", []int{0}, []int{50, 6, 7}, true},
		{"one that only reads behind it", []int{0, 1}, []int{50, 6, 7}, true},
		{"all", []int{0, 1, 2, 3}, []int{51, 6, 71}, true},
		{"one that reads is left out", []int{0, 2, 3}, []int{51, 6, 71}, true},
		{"one that reads twice", []int{0, 1, 1, 2}, []int{51, 6, 70}, true},
		{"the first is refused", []int{1, 0, 2}, []int{5, 6, 7}, false},
		{"one between is refused", []int{0, 1, 3, 2}, []int{50, 6, 7}, false},
		{"the last is refused", []int{0, 1, 2, 3, 1}, []int{51, 6, 71}, false},
		{"the same again is refused", []int{0, 0}, []int{50, 6, 7}, false},
		{"those behind are not done", []int{0, 3, 2}, []int{50, 6, 7}, false},
		{"alone, and refused", []int{3}, []int{5, 6, 7}, false},
	} {
		checkSerial(t, c.name, first, arranged(four, c.order), c.want, c.ok)
	}
	// What is refused is not done in part, whichever entry refuses it.
	for place := range 3 {
		d := descOf(3, undecided, writeOf(0, 0, 5, 50), writeOf(1, 0, 6, 60), writeOf(2, 0, 7, 70))
		d.Entries[place].Old = 8
		checkSerial(t, fmt.Sprint("refused by a Write at ", place), first, []desc{d}, first, false)
		d.Entries[place] = readOf(place, 0, 8)
		checkSerial(t, fmt.Sprint("refused by a read at ", place), first, []desc{d}, first, false)
		d.Entries[place] = readOf(place, 0, 5+place)
		want := []int{50, 60, 70}
		want[place] = 5 + place
		checkSerial(t, fmt.Sprint("all but ", place, " are written"), first, []desc{d}, want, true)
	}
	// Neither status, owner nor version counts.
	for status := range 3 {
		for owner := range 4 {
			checkSerial(t, "status", []int{4}, []desc{descOf(owner, status, writeOf(0, owner*9, 4, -4))}, []int{-4}, true)
		}
	}
	checkSerial(t, "values at the limits", []int{top, -top}, []desc{descOf(0, undecided, writeOf(0, 0, top, -top), writeOf(1, 0, -top, top))}, []int{-top, top}, true)
	checkSerial(t, "as it was again", []int{1, 4}, []desc{descOf(0, 0, writeOf(0, 0, 1, 2)), descOf(0, 0, writeOf(0, 0, 2, 1)), descOf(0, 0, readOf(0, 0, 1), readOf(1, 0, 4))}, []int{1, 4}, true)
}

// countUp are descriptors that count the object up from 0, one behind the other.
func countUp(object int, many int) []desc {
	var list []desc
	for number := range many {
		list = append(list, descOf(number%4, undecided, writeOf(object, number, number, number+1)))
	}
	return list
}

func TestSerialOfMost(t *testing.T) {
	eight := placesTo(8)
	all := []desc{descOf(0, 0, writeOf(2, 0, 2, 22), readOf(3, 0, 3), readOf(4, 0, 4), readOf(5, 0, 5), readOf(6, 0, 6), writeOf(7, 0, 7, 77))}
	checkSerial(t, "most objects", eight, all, []int{0, 1, 22, 3, 4, 5, 6, 77}, true)
	checkSerial(t, "one object too many", append(eight, 8), all, nil, false)
	checkSerial(t, "one object too many, no descriptors", append(eight, 8), nil, nil, false)
	checkSerial(t, "many objects too many", placesTo(5000), nil, nil, false)
	checkSerial(t, "most descriptors", []int{0, 9}, countUp(0, 60), []int{60, 9}, true)
	checkSerial(t, "one descriptor too many", []int{0, 9}, countUp(0, 61), nil, false)
	checkSerial(t, "many descriptors too many", []int{0, 9}, countUp(0, 5000), nil, false)
	checkSerial(t, "one too many, and one is refused", []int{7}, countUp(0, 61), nil, false)
	checkSerial(t, "the last of most is refused", []int{0}, append(countUp(0, 59), countUp(0, 1)...), []int{59}, false)
}

// badFirstLists are not 1 to MaxObjects values; the others are those of TestSerialOfMost.
func badFirstLists() [][]int {
	return [][]int{nil, {}, {top + 1}, {-top - 1}, {0, 6, top + 1}, {math.MinInt, 6, 7}, {0, math.MaxInt}, append(alike(0, 7), -top-1), alike(0, 9)}
}

// Neither first nor any descriptor is looked at in part: where one of these is none, nothing is told.
func TestSerialRefuses(t *testing.T) {
	for _, first := range badFirstLists() {
		for _, descs := range [][]desc{nil, {}, countUp(0, 1), countUp(0, 7), fourDescs()} {
			checkSerial(t, "first", first, descs, nil, false)
		}
	}
	bad := badDescs()
	for object := 3; object < 8; object++ {
		bad[fmt.Sprint("of no object ", object)] = descOf(0, undecided, readsOf(object)...)
		bad[fmt.Sprint("of an object and none ", object)] = descOf(0, undecided, readOf(0, 0, 0), writeOf(object, 0, 0, 0))
	}
	good, refused := countUp(0, 4), countUp(1, 4)
	for name, d := range bad {
		checkSerial(t, name, []int{0, 9, 9}, []desc{d}, nil, false)
		for at := range 5 {
			checkSerial(t, fmt.Sprint(name, " at ", at), []int{0, 9, 9}, slices.Insert(slices.Clone(good), at, d), nil, false)
			checkSerial(t, fmt.Sprint(name, " at ", at, ", others are refused"), []int{0, 9, 9}, slices.Insert(slices.Clone(refused), at, d), nil, false)
		}
		if n, ok := impl.OrdersOf([]int{0, 9, 9}, []desc{d}); n != 0 || ok {
			t.Errorf("%s: %d orders, %v", name, n, ok)
		}
	}
	// An object that there is in a longer list is one.
	checkSerial(t, "object 3 of four", []int{0, 0, 0, 4}, []desc{descOf(0, 0, writeOf(3, 0, 4, 5))}, []int{0, 0, 0, 5}, true)
	checkSerial(t, "object 3 of three", []int{0, 0, 0}, []desc{descOf(0, 0, writeOf(3, 0, 4, 5))}, nil, false)
}

func checkOrders(t *testing.T, name string, first []int, descs []desc, want int, wantOk bool) {
	t.Helper()
	many, ok := impl.OrdersOf(first, descs)
	if many != want || ok != wantOk {
		t.Fatalf("%s: %v behind %v: %d orders, %v, not %d %v", name, first, descs, many, ok, want, wantOk)
	}
	if plain, is := plainOrders(first, descs); plain != want || is != wantOk {
		t.Fatalf("%s: %v behind %v: plainly %d orders, %v, not %d %v", name, first, descs, plain, is, want, wantOk)
	}
}

func TestOrdersOf(t *testing.T) {
	var apart, readers []desc
	ways := 1
	for many := range 7 {
		checkOrders(t, fmt.Sprint(many, " that are apart"), alike(0, 8), apart, ways, true)
		checkOrders(t, fmt.Sprint(many, " that only read"), alike(0, 8), readers, ways, true)
		checkOrders(t, fmt.Sprint(many, " one behind the other"), alike(0, 8), countUp(3, many), 1, true)
		apart = append(apart, countUp(many, 1)...)
		readers = append(readers, descOf(0, undecided, readOf(0, 0, 0), readOf(1+many, 0, 0)))
		ways *= many + 1
		checkOrders(t, fmt.Sprint(many, " that are apart, and one that is refused"), alike(0, 8), append(slices.Clone(apart[:many]), descOf(1, 0, readOf(7, 0, 1))), 0, many < 6)
	}
	checkOrders(t, "seven that are apart", alike(0, 8), apart, 0, false)
	checkOrders(t, "seven one behind the other", alike(0, 8), countUp(0, 7), 0, false)
	checkOrders(t, "seven that are refused", alike(9, 8), countUp(0, 7), 0, false)
	checkOrders(t, "far more", alike(0, 8), alike(readers[0], 61), 0, false)
	for _, first := range badFirstLists() {
		for _, descs := range [][]desc{nil, {}, countUp(0, 1), countUp(0, 6)} {
			checkOrders(t, "first", first, descs, 0, false)
		}
	}
}

func TestOrdersOfSome(t *testing.T) {
	four, first := fourDescs(), []int{5, 6, 7}
	reads := descOf(3, undecided, readOf(0, 0, 5))
	for _, c := range []struct {
		name  string
		descs []desc
		want  int
	}{
		{"only in their own order", four, 1},
		{"in their own order, told backward", arranged(four, []int{3, 2, 1, 0}), 1},
		{"in their own order, told in any", arranged(four, []int{2, 0, 3, 1}), 1},
		{"one is done, two are refused", arranged(four, []int{0, 1, 3}), 0},
		{"all are refused", arranged(four, []int{1, 2, 3}), 0},
		{"two that write the same", []desc{four[0], four[0]}, 0},
		{"two readers ahead of who writes", []desc{four[0], reads, reads}, 2},
		{"a reader ahead of it, and one behind", []desc{four[0], four[1], reads}, 1},
		{"one behind another, and one apart", []desc{four[0], four[1], descOf(2, undecided, writeOf(2, 0, 7, 8))}, 3},
		{"there and back", []desc{four[0], descOf(0, 0, writeOf(0, 0, 50, 5))}, 1},
		{"there and back, and who reads at both ends", []desc{four[0], descOf(0, 0, writeOf(0, 0, 50, 5)), reads}, 2},
		{"each is written by who reads the other one, so one alone can be done", []desc{
			descOf(0, 0, readOf(0, 0, 5), writeOf(1, 0, 6, 60)), descOf(1, 0, writeOf(0, 0, 5, 50), readOf(1, 0, 6)),
		}, 0},
	} {
		checkOrders(t, c.name, first, c.descs, c.want, true)
	}
	two := append(countUp(0, 3), countUp(1, 3)...)
	checkOrders(t, "two rows of three", []int{0, 0}, two, 20, true)
	checkOrders(t, "two rows of three, mixed", []int{0, 0}, arranged(two, []int{3, 5, 0, 2, 1, 4}), 20, true)
	checkOrders(t, "rows of two, two and one, and who reads one end", []int{0, 0, 0}, append(append(countUp(0, 2), countUp(1, 2)...), descOf(0, 0, writeOf(2, 0, 0, 1)), descOf(0, 0, readOf(0, 0, 2))), 60, true)
	checkOrders(t, "six, of which the last is refused always", []int{0, 0}, append(two[:5:5], descOf(0, 0, readOf(0, 0, 4))), 0, true)
}

// Over all lists of up to four of these: how many orders there are, and what comes of each.
func TestOrdersOfAllShortLists(t *testing.T) {
	var pieces []desc
	for old := range 2 {
		pieces = append(pieces, descOf(0, 0, writeOf(0, 0, old, 1-old)), descOf(1, 1, readOf(0, 0, old), writeOf(1, 0, 0, 1)), descOf(2, 2, writeOf(1, 0, old, 0)), descOf(3, 0, readOf(0, 0, 0), readOf(1, 0, old)))
	}
	found := map[int]int{}
	var extend func(list []desc)
	extend = func(list []desc) {
		want, ok := plainOrders([]int{0, 0}, list)
		checkOrders(t, "short", []int{0, 0}, list, want, ok)
		values, ok := plainSerial([]int{0, 0}, list)
		checkSerial(t, "short", []int{0, 0}, list, values, ok)
		found[want]++
		if len(list) < 4 {
			for _, d := range pieces {
				extend(append(list[:len(list):len(list)], d))
			}
		}
	}
	extend(nil)
	if len(found) < 8 || found[0] < 100 || found[24] < 1 {
		t.Error("only", found)
	}
}

func TestMended(t *testing.T) {
	three := threeStore()
	all := laid(three, 0, 0, 1, 2)
	two := laid(laid(three, 1, 1), 0, 0)
	for _, c := range []struct {
		name string
		s    store
		want []int
	}{
		{"nothing lies", three, []int{5, 6, -7}},
		{"a committed one lies over nothing", decided(three, 0, committed), []int{5, 6, -7}},
		{"an undecided one lies over all", all, []int{50, 6, 70}},
		{"an undecided one lies over the last", laid(three, 0, 2), []int{50, 6, 70}},
		{"an undecided one lies over what it reads", laid(three, 0, 1), []int{50, 6, 70}},
		{"a committed one lies over all", decided(all, 0, committed), []int{50, 6, 70}},
		{"a committed one lies over one", decided(laid(three, 0, 0), 0, committed), []int{50, 6, -7}},
		{"a committed one lies over what it reads", decided(laid(three, 0, 1), 0, committed), []int{5, 6, -7}},
		{"a failed one lies over all", decided(all, 0, failed), []int{5, 6, -7}},
		{"a failed one lies over one", decided(laid(three, 0, 2), 0, failed), []int{5, 6, -7}},
		{"an undecided one that only reads", laid(three, 2, 0, 2), []int{5, 6, -7}},
		{"an undecided one, what it reads is of another version", holding(laid(three, 0, 0), 1, headOf(66, 1, -1)), []int{5, 66, -7}},
		{"an undecided one, what it reads is of another value", holding(laid(three, 0, 0), 1, headOf(66, 0, -1)), []int{50, 66, 70}},
		{"what it waits for fails it", two, []int{5, 60, -7}},
		{"what it waits for is committed", decided(two, 1, committed), []int{5, 60, -7}},
		{"what it waits for has failed", decided(two, 1, failed), []int{50, 6, 70}},
		{"it is committed, and another one lies", decided(two, 0, committed), []int{50, 60, -7}},
	} {
		w := overAny(c.s)
		checkMended(t, c.name, w, c.want, true)
		checkPlainOrder(t, c.name, w)
	}
	// Two wait for each other: neither is finished, unless one of them has been decided.
	for _, c := range []struct {
		number, status int
		want           []int
	}{{0, committed, []int{1, 20}}, {0, failed, []int{11, 21}}, {1, committed, []int{11, 2}}, {1, failed, []int{10, 20}}} {
		checkMended(t, fmt.Sprint("a ring, decided: ", c), overAny(decided(ringStore(), c.number, c.status)), c.want, true)
	}
	checkMended(t, "a ring", overAny(ringStore()), nil, false)
	checkMended(t, "each of two lies over what the other one waits for", overAny(laid(laid(three, 0, 0), 2, 2)), nil, false)
	checkMended(t, "a ring, and another one", overAny(store{Heads: append(ringStore().Heads, headOf(9, 0, -1)), Descs: ringStore().Descs}), nil, false)
	checkMended(t, "four", fourWorld(), []int{5, 60, -7}, true)
	checkMended(t, "what lies is in the way of what does not", overAny(meetingStore()), []int{5, 8}, true)
	// Of a row each reads what the next one writes, so that the last one is done, the one ahead of it fails, and so on.
	checkMended(t, "a row", overAny(rowStore()), []int{-20, 31, -22, 33, -24, 35, -26, 37}, true)
}

// checkWell asks promise 12 of a world to which one comes from a new one: all is explained, and what is committed can be
// done one at a time in its order, which comes to what is seen.
func checkWell(t *testing.T, w world) {
	t.Helper()
	checkExplained(t, "reached", w, -1, orderWell)
	numbers, ok := impl.Commits12(w)
	descs := arranged(w.Store.Descs, numbers)
	values, isSerial := impl.Serial(w.First, descs)
	seen, isSeen := impl.Seen11(w)
	if !ok || !isSerial || !isSeen || !slices.Equal(values, seen) {
		t.Fatalf("%v, done one at a time, come to %v %v, not to %v: %+v", numbers, values, isSerial, seen, w)
	}
	checkState(t, "reached", w, len(w.Log), seen, true)
	if many, ok := impl.OrdersOf(w.First, descs); len(descs) <= 6 && (many == 0 || !ok) {
		t.Fatalf("%v can be done in %d orders, %v: %+v", numbers, many, ok, w)
	}
	checkMendedOf(t, w, seen)
}

// checkMendedOf asks that what is mended is what comes of what is seen by those that are committed only then, in one of
// their orders.
func checkMendedOf(t *testing.T, w world, seen []int) {
	t.Helper()
	then, _ := impl.FinishAll(w.Store)
	var late []desc
	for number, d := range then.Descs {
		if d.Status == committed && w.Store.Descs[number].Status != committed {
			late = append(late, d)
		}
	}
	mended, ok := impl.Mended(w)
	fits := func(order []int) bool {
		values, ok := impl.Serial(seen, arranged(late, order))
		return ok && slices.Equal(values, mended)
	}
	if !ok || !slices.ContainsFunc(arrangements(len(late)), fits) {
		t.Fatalf("%v come of %v, mended %v: %+v", mended, seen, ok, w)
	}
}

// orderKey is alike of two worlds when they are so but for their logs, and when whatever may be told of both from there
// on is explained in the one as it is in the other.
func orderKey(w world) string {
	key := worldKey(w)
	for who := range w.Threads {
		values, state := plainTold(w, who, len(w.Log))
		key += fmt.Sprint(values, state)
	}
	return key
}

// Promise 12, in all ways in which the steps of two can come.
func TestAllWaysOfTwoInOrder(t *testing.T) {
	for _, begin := range []world{
		worldOf([]int{5}, "read 0 0; set 1 1; add 0 1; write 0 0; commit", "read 0 0; set 1 10; add 0 1; write 0 0; commit"),
		worldOf([]int{5, 7}, "read 0 1; read 0 0; write 0 0; commit", "read 1 0; read 0 1; write 1 0; commit"),
		worldOf([]int{5, 7}, "set 0 3; write 0 0; write 1 0; commit", "read 2 1; read 3 0; abort; read 2 0; commit"),
		worldOf([]int{5, 7}, "read 0 0; write 1 0; commit; read 1 1; write 0 1; commit", "read 0 1; set 1 2; add 0 1; write 1 0; commit"),
	} {
		many := 0
		eachWorldBy(t, begin, orderKey, func(w world) {
			checkWell(t, w)
			many++
		})
		if many < 100 {
			t.Errorf("%+v comes to %d worlds", begin, many)
		}
	}
}

// orderCrowds are worlds that many steps of four have come to.
func orderCrowds(seeds int) []world {
	var list []world
	for _, lines := range slices.Concat(crowds(), straightCrowds()) {
		for seed := range seeds {
			w, _ := impl.RunWorld(worldOf([]int{0, 1, 0, 3, 4, 5, 6, 7}, lines...), mixedSteps(seed, 500))
			list = append(list, w)
		}
	}
	return list
}

// Promise 12, over long runs of four, on the way and at the end.
func TestCrowdsInOrder(t *testing.T) {
	commits := 0
	for _, lines := range slices.Concat(crowds(), straightCrowds()) {
		for seed := range 5 {
			w := worldOf([]int{0, 1, 0, 3, 4, 5, 6, 7}, lines...)
			for steps := range slices.Chunk(mixedSteps(seed, 600), 5) {
				w, _ = impl.RunWorld(w, steps)
				checkWell(t, w)
			}
			place, code := plainExplained(w)
			if place != -1 || code != orderWell {
				t.Error("plainly not explained:", place, code)
			}
			numbers, _ := impl.Commits12(w)
			commits += len(numbers)
		}
	}
	if commits < 300 {
		t.Error("only", commits, "commits")
	}
}

// What a run tells is explained; what is made of that by changing one event is explained only where it is plainly.
func TestOrderOfChangedLogs(t *testing.T) {
	changes := map[string]func(log []event, at int) []event{
		"another value":  func(log []event, at int) []event { log[at].Value++; return log },
		"another object": func(log []event, at int) []event { log[at].Object ^= 1; return log },
		"another thread": func(log []event, at int) []event { log[at].Thread ^= 1; return log },
		"left out":       func(log []event, at int) []event { return slices.Delete(log, at, at+1) },
		"told twice":     func(log []event, at int) []event { return slices.Insert(log, at, log[at]) },
		"a seen ahead":   func(log []event, at int) []event { return slices.Insert(log, at, seenEvent(at%4)) },
		"told in another order": func(log []event, at int) []event {
			next := slices.IndexFunc(log[at+1:], func(e event) bool { return e.Kind == log[at].Kind })
			log[at], log[at+1+next] = log[at+1+next], log[at]
			return log
		},
	}
	codes := map[int]int{}
	for _, w := range orderCrowds(2) {
		for at := range w.Log {
			for name, change := range changes {
				changed := withWorld(w, func(w *world) { w.Log = change(w.Log, at) })
				place, code := plainExplained(changed)
				checkExplained(t, fmt.Sprint(name, " at ", at), changed, place, code)
				codes[code]++
			}
		}
	}
	for code := range 4 {
		if codes[code] < 30 {
			t.Error("only", codes)
		}
	}
}

// orderAnswers are all lists that are answered of a world, and of its descriptors one behind the other.
func orderAnswers(w world) [][]int {
	var answers [][]int
	for _, place := range []int{-1, 0, 1, 2, len(w.Log) / 2, len(w.Log), len(w.Log) + 1} {
		values, _ := impl.StateAt(w, place)
		answers = append(answers, values)
	}
	numbers, _ := impl.Commits12(w)
	mended, _ := impl.Mended(w)
	serial, _ := impl.Serial(w.First, w.Store.Descs)
	none, _ := impl.Serial(w.First, nil)
	place, code := impl.Explained(w)
	few := w.Store.Descs[:min(len(w.Store.Descs), 6)]
	many, _ := impl.OrdersOf(w.First, few)
	none2, _ := impl.OrdersOf(w.First, w.Store.Descs)
	return append(answers, numbers, mended, serial, none, []int{place, code, many, none2})
}

// Promise 19: nothing is written into an argument, nor behind it; every answer is new memory; and what lies behind a
// list counts for nothing, and is not handed out.
func TestOrdersWriteNothingAndShareNothing(t *testing.T) {
	all := everyWorld()
	maps.Copy(all, map[string]world{"four logged": fourLogged(), "two rows": logged(append(countUp(0, 3), countUp(1, 3)...))})
	for name, w := range all {
		g := guardWorld(w)
		wants := orderAnswers(w)
		answers := orderAnswers(g.world)
		g.check(t, name+", called")
		for i, answer := range answers {
			if !slices.Equal(answer, wants[i]) {
				t.Errorf("%s: what lies behind is read: %v, not %v", name, answer, wants[i])
			}
			if slices.Contains(spare(answer), firstBehind) {
				t.Errorf("%s: what lies behind is handed out", name)
			}
			overwrite(answer, -7)
		}
		g.check(t, name+", overwritten")
		if again := orderAnswers(g.world); !slices.EqualFunc(again, wants, slices.Equal) {
			t.Errorf("%s: asked again: %v, not %v", name, again, wants)
		}
	}
}

// Whoever asks at once of the same arguments, the answer is one: they are not written into for a while, either.
func TestOrdersAtOnce(t *testing.T) {
	first, rows, long := []int{0, 0}, append(countUp(0, 3), countUp(1, 3)...), countUp(0, 60)
	four := fourLogged()
	wants := orderAnswers(four)
	var asking sync.WaitGroup
	for range 8 {
		asking.Go(func() {
			for range 300 {
				if many, ok := impl.OrdersOf(first, rows); many != 20 || !ok {
					t.Errorf("%d orders, %v", many, ok)
				}
				if values, ok := impl.Serial(first, long); !ok || !slices.Equal(values, []int{60, 0}) {
					t.Error(values, ok)
				}
				if answers := orderAnswers(four); !slices.EqualFunc(answers, wants, slices.Equal) {
					t.Error(answers)
				}
			}
		})
	}
	asking.Wait()
}

// Promise 19: whatever the arguments are, there is an answer, and it is kept nowhere.
func TestOrdersOfOddArguments(t *testing.T) {
	kept := fourLogged()
	for _, number := range edges() {
		for _, other := range edges() {
			odd := entry{Object: number, Version: other, Old: number, New: other, Write: number < other}
			d := descOf(number, other, odd)
			w := world{First: []int{number}, Store: store{Heads: []head{headOf(other, number, number)}, Descs: []desc{d}}, Threads: []thread{{Id: other}}, Log: []event{eventOf(number, other, number, other)}}
			checkPlainOrder(t, "odd", w)
			for _, first := range [][]int{{number}, {other, number}, {other, 0, number}} {
				for _, descs := range [][]desc{nil, {d}, {descOf(0, 0, odd)}, {descOf(number, 0, readOf(0, 0, other)), descOf(0, other, writeOf(1, other, number, 3))}} {
					want, ok := plainSerial(first, descs)
					checkSerial(t, "odd", first, descs, want, ok)
					many, ok := plainOrders(first, descs)
					checkOrders(t, "odd", first, descs, many, ok)
				}
			}
		}
		want, ok := plainStateAt(kept, number)
		checkState(t, "behind odd", kept, number, want, ok)
	}
	for _, w := range []world{{}, {First: []int{1}}, {Threads: make([]thread, 3)}, {Log: make([]event, 5)}, {Store: threeStore()}} {
		checkPlainOrder(t, "odd", w)
	}
	checkPlainOrder(t, "behind odd", kept)
}
