package tests

import (
	"maps"
	"math"
	"slices"
	"strconv"
	"testing"

	"loop.example/g00087/impl"
)

type (
	entry = impl.Entry
	desc  = impl.Desc
)

const mostVersions = 1000000

// readOf is an entry that is no Write.
func readOf(object int, version int, value int) entry {
	return entry{Object: object, Version: version, Old: value, New: value}
}

func writeOf(object int, version int, old int, new int) entry {
	return entry{Object: object, Version: version, Old: old, New: new, Write: true}
}

// readsOf opens the objects in order, each with a version and a value of its own.
func readsOf(objects ...int) []entry {
	var list []entry
	for _, object := range objects {
		list = append(list, readOf(object, 10+object, -20-object))
	}
	return list
}

// writesOf is readsOf where each is a Write.
func writesOf(objects ...int) []entry {
	list := readsOf(objects...)
	for i := range list {
		list[i].New, list[i].Write = 30+list[i].Object, true
	}
	return list
}

func descOf(owner int, status int, entries ...entry) desc {
	return desc{Owner: owner, Status: status, Entries: entries}
}

func sameDesc(a desc, b desc) bool {
	return a.Owner == b.Owner && a.Status == b.Status && slices.Equal(a.Entries, b.Entries)
}

// edges are the numbers at the limits of objects, versions, values, threads and statuses, one past them, and far off.
func edges() []int {
	return []int{math.MinInt, -top - 1, -top, -1, 0, 1, 2, 3, 4, 7, 8, mostVersions, mostVersions + 1, top, top + 1, math.MaxInt}
}

// plainEntry says of an entry what the document does.
func plainEntry(e entry) bool {
	if e.Object < 0 || e.Object > 7 || e.Version < 0 || e.Version > mostVersions {
		return false
	}
	if e.Old < -top || e.Old > top || e.New < -top || e.New > top {
		return false
	}
	return e.Write || e.New == e.Old
}

// goodOpenLists are OpenOk, at the limits and within.
func goodOpenLists() map[string][]entry {
	return map[string][]entry{
		"nothing opened":                {},
		"nil":                           nil,
		"a zero value":                  {{}},
		"the first object":              readsOf(0),
		"the last object":               readsOf(7),
		"ascending":                     readsOf(0, 1, 2),
		"descending":                    readsOf(7, 4, 3, 0),
		"in any order":                  readsOf(4, 6, 0, 2, 1),
		"most entries":                  readsOf(0, 1, 2, 3, 4, 5),
		"most entries, in any order":    readsOf(7, 2, 5, 0, 6, 1),
		"most entries, all Writes":      writesOf(5, 7, 6, 1, 3, 2),
		"all but one of most":           readsOf(7, 6, 5, 4, 3),
		"version 0, and the most":       {readOf(0, 0, 1), readOf(1, mostVersions, 1)},
		"values at both limits":         {readOf(3, 1, top), readOf(2, 1, -top), writeOf(1, 1, -top, top), writeOf(0, 1, top, -top)},
		"a Write of what was read":      {writeOf(6, 5, 4, 4)},
		"a Write of 0":                  {writeOf(6, 5, 4, 0)},
		"reads and Writes":              {readOf(2, 9, 1), writeOf(5, 0, 1, 2), readOf(0, 3, 1), writeOf(1, 9, -1, 7)},
		"of the same value and version": {readOf(1, 2, 3), readOf(0, 2, 3), readOf(2, 2, 3)},
	}
}

// badOpenLists are not OpenOk, nearly all for one reason. Their objects are ascending where that reason lets them be, so
// that a descriptor of them is refused for it alone.
func badOpenLists() map[string][]entry {
	return map[string][]entry{
		"one entry too many":               readsOf(0, 1, 2, 3, 4, 5, 6),
		"each object there is":             writesOf(0, 1, 2, 3, 4, 5, 6, 7),
		"many entries too many":            alike(readOf(0, 0, 0), 5000),
		"object below 0":                   readsOf(-1, 2),
		"object past the last":             readsOf(2, 8),
		"least object":                     readsOf(math.MinInt),
		"greatest object":                  {readOf(math.MaxInt, 0, 0)},
		"version below 0":                  {readOf(1, -1, 0)},
		"version past the most":            {readOf(1, 0, 0), readOf(2, mostVersions+1, 0)},
		"a version as great as a value":    {readOf(0, top, 0)},
		"a version as low as a value":      {writeOf(0, -top, 0, 1)},
		"least version":                    {readOf(0, math.MinInt, 0)},
		"greatest version":                 {readOf(0, math.MaxInt, 0)},
		"what was read is above":           {readOf(0, 0, top+1)},
		"what was read is below":           {readOf(0, 0, 0), readOf(1, 0, -top-1)},
		"Old above, where it is a Write":   {writeOf(0, 0, top+1, 0)},
		"Old below, where it is a Write":   {writeOf(0, 0, -top-1, 0)},
		"least Old":                        {writeOf(3, 0, math.MinInt, 0)},
		"New above":                        {writeOf(0, 0, 0, top+1)},
		"New below":                        {writeOf(0, 0, 0, 1), writeOf(1, 0, 0, -top-1)},
		"greatest New":                     {writeOf(3, 0, 0, math.MaxInt)},
		"no Write, and New is not Old":     {{Object: 1, Version: 1, Old: 3, New: 4}},
		"no Write, and New is 0":           {readOf(0, 0, 0), {Object: 1, Version: 1, Old: 3}},
		"no Write, New is Old turned":      {{Object: 1, Old: 3, New: -3}},
		"an object twice, alike":           readsOf(1, 1),
		"an object twice, another version": {readOf(1, 1, 0), readOf(1, 2, 0)},
		"an object twice, another value":   {readOf(1, 1, 0), readOf(1, 1, 5)},
		"an object twice, read and Write":  {readOf(1, 1, 0), writeOf(1, 1, 0, 5)},
		"an object twice, apart":           readsOf(3, 1, 5, 2, 3),
		"object 0 twice, at the ends":      readsOf(0, 7, 6, 5, 4, 0),
	}
}

// badDescs are not DescOk, each for one reason.
func badDescs() map[string]desc {
	bad := map[string]desc{
		"the zero value":              {},
		"no entries, and not nil":     {Entries: []entry{}},
		"no entries, committed":       {Owner: 3, Status: 1},
		"out of order":                descOf(0, 0, writesOf(1, 0)...),
		"out of order at the end":     descOf(1, 1, writesOf(0, 1, 3, 2)...),
		"out of order at the front":   descOf(1, 2, writesOf(1, 0, 2, 3)...),
		"backward":                    descOf(1, 0, writesOf(5, 4, 3, 2, 1, 0)...),
		"the least object in between": descOf(1, 0, writesOf(2, 0, 4)...),
	}
	for _, number := range edges() {
		if number < 0 || number > 3 {
			bad["owner "+strconv.Itoa(number)] = descOf(number, 0, writesOf(0, 1)...)
		}
		if number < 0 || number > 2 {
			bad["status "+strconv.Itoa(number)] = descOf(1, number, writesOf(0, 1)...)
		}
	}
	for name, list := range badOpenLists() {
		bad["entries: "+name] = descOf(2, 0, list...)
	}
	return bad
}

func TestLimitsOfDescs(t *testing.T) {
	if impl.MaxObjects != 8 || impl.MaxOpen != 6 || impl.OpenDone != 0 || impl.OpenBad != 1 || impl.OpenMany != 2 {
		t.Error(impl.MaxObjects, impl.MaxOpen, impl.OpenDone, impl.OpenBad, impl.OpenMany)
	}
	if impl.StatUndecided != 0 || impl.StatCommitted != 1 || impl.StatFailed != 2 {
		t.Error(impl.StatUndecided, impl.StatCommitted, impl.StatFailed)
	}
}

func TestOpenOk(t *testing.T) {
	for name, list := range goodOpenLists() {
		if !impl.OpenOk(list) {
			t.Errorf("%s: refused", name)
		}
	}
	for name, list := range badOpenLists() {
		if impl.OpenOk(list) {
			t.Errorf("%s: taken", name)
		}
	}
}

// TestEntriesOverEdges asks each entry of numbers at the edges, alone and behind another one.
func TestEntriesOverEdges(t *testing.T) {
	for _, object := range edges() {
		for _, version := range edges() {
			for _, old := range edges() {
				for _, new := range edges() {
					for _, write := range []bool{false, true} {
						checkEntry(t, entry{Object: object, Version: version, Old: old, New: new, Write: write})
					}
				}
			}
		}
	}
}

func checkEntry(t *testing.T, e entry) {
	t.Helper()
	want := plainEntry(e)
	if impl.OpenOk([]entry{e}) != want || impl.DescOk(descOf(3, 2, e)) != want {
		t.Fatal(e, "alone: not", want)
	}
	two := []entry{readOf(2, 0, 0), e}
	if impl.OpenOk(two) != (want && e.Object != 2) || impl.DescOk(desc{Entries: two}) != (want && e.Object > 2) {
		t.Fatal(e, "behind object 2: not as wanted")
	}
}

func TestOpened(t *testing.T) {
	for name, list := range goodOpenLists() {
		places := map[int]int{}
		for place, e := range list {
			places[e.Object] = place
		}
		for _, object := range append(edges(), 5, 6) {
			want, opened := places[object]
			if !opened {
				want = -1
			}
			if place := impl.Opened(list, object); place != want {
				t.Errorf("%s: object %d at %d, not at %d", name, object, place, want)
			}
		}
	}
}

func TestOpenedOfABadList(t *testing.T) {
	for name, list := range badOpenLists() {
		for _, object := range edges() {
			if place := impl.Opened(list, object); place != -1 {
				t.Errorf("%s: object %d at %d", name, object, place)
			}
		}
	}
}

func checkAdded(t *testing.T, list []entry, numbers [3]int, want []entry, wantCode int) {
	t.Helper()
	then, code := impl.AddRead(list, numbers[0], numbers[1], numbers[2])
	if code != wantCode || !slices.Equal(then, want) {
		t.Errorf("%v and %v: %v %d, not %v %d", list, numbers, then, code, want, wantCode)
	}
}

func TestAddRead(t *testing.T) {
	for _, c := range []struct {
		list []entry
		add  three
		want []entry
	}{
		{nil, three{0, 0, 0}, []entry{{}}},
		{[]entry{}, three{7, 3, 4}, []entry{{Object: 7, Version: 3, Old: 4, New: 4}}},
		{nil, three{0, mostVersions, top}, []entry{readOf(0, mostVersions, top)}},
		{nil, three{7, 0, -top}, []entry{readOf(7, 0, -top)}},
		{readsOf(3), three{1, 13, 5}, []entry{readOf(3, 13, -23), readOf(1, 13, 5)}},
		{writesOf(1, 6), three{2, 1, -23}, []entry{writeOf(1, 11, -21, 31), writeOf(6, 16, -26, 36), readOf(2, 1, -23)}},
		{readsOf(7, 0, 6, 1, 5), three{2, 12, -22}, readsOf(7, 0, 6, 1, 5, 2)},
	} {
		checkAdded(t, c.list, c.add, c.want, impl.OpenDone)
	}
}

func TestAddReadRefuses(t *testing.T) {
	full := readsOf(0, 1, 2, 3, 4, 5)
	badNumbers := []three{
		{-1, 0, 0}, {8, 0, 0}, {math.MinInt, 0, 0}, {math.MaxInt, 0, 0}, // objects
		{7, -1, 0}, {7, mostVersions + 1, 0}, {7, top, 0}, {7, -top, 0}, {7, math.MinInt, 0}, {7, math.MaxInt, 0}, // versions
		{7, 0, top + 1}, {7, 0, -top - 1}, {7, 0, math.MinInt}, {7, 0, math.MaxInt}, // values
	}
	for _, numbers := range badNumbers {
		for name, list := range goodOpenLists() {
			t.Run(name, func(t *testing.T) { checkAdded(t, list, numbers, list, impl.OpenBad) })
		}
		// OpenBad is ahead of OpenMany.
		checkAdded(t, full, numbers, full, impl.OpenBad)
	}
	for name, list := range goodOpenLists() {
		for _, e := range list {
			t.Run(name, func(t *testing.T) {
				checkAdded(t, list, three{e.Object, e.Version, e.Old}, list, impl.OpenBad)
				checkAdded(t, list, three{e.Object, 77, 78}, list, impl.OpenBad)
			})
		}
	}
	for name, list := range badOpenLists() {
		t.Run(name, func(t *testing.T) {
			checkAdded(t, list, three{7, 0, 0}, list, impl.OpenBad)
			checkAdded(t, list, three{1, 0, 0}, list, impl.OpenBad)
			checkAdded(t, list, three{8, -1, top + 1}, list, impl.OpenBad)
		})
	}
}

func TestAddReadOfTheMost(t *testing.T) {
	for _, full := range [][]entry{readsOf(0, 1, 2, 3, 4, 5), writesOf(0, 5, 1, 4, 2, 3)} {
		checkAdded(t, full, three{6, 0, 0}, full, impl.OpenMany)
		checkAdded(t, full, three{7, mostVersions, -top}, full, impl.OpenMany)
		checkAdded(t, full[:5], three{7, 17, -27}, append(slices.Clone(full[:5]), readOf(7, 17, -27)), impl.OpenDone)
	}
}

func checkSet(t *testing.T, list []entry, object int, value int, want []entry, wantOk bool) {
	t.Helper()
	then, ok := impl.SetNew(list, object, value)
	if ok != wantOk || !slices.Equal(then, want) {
		t.Errorf("%v, object %d and %d: %v %v, not %v %v", list, object, value, then, ok, want, wantOk)
	}
}

func TestSetNew(t *testing.T) {
	opened := []entry{readOf(4, 9, 1), writeOf(0, mostVersions, 2, 5), readOf(2, 0, 3)}
	for _, c := range []struct {
		place int
		value int
		want  entry
	}{
		{0, 8, writeOf(4, 9, 1, 8)},
		{0, 1, writeOf(4, 9, 1, 1)}, // what was read, and yet a Write
		{0, 0, writeOf(4, 9, 1, 0)},
		{0, top, writeOf(4, 9, 1, top)},
		{1, -top, writeOf(0, mostVersions, 2, -top)}, // another value than the one written ahead; Old is what was read
		{1, 5, writeOf(0, mostVersions, 2, 5)},
		{1, 2, writeOf(0, mostVersions, 2, 2)},
		{2, -6, writeOf(2, 0, 3, -6)},
	} {
		want := slices.Clone(opened)
		want[c.place] = c.want
		checkSet(t, opened, c.want.Object, c.value, want, true)
	}
	checkSet(t, []entry{{}}, 0, 0, []entry{{Write: true}}, true)
	checkSet(t, readsOf(7), 7, -1, []entry{writeOf(7, 17, -27, -1)}, true)
}

func TestSetNewRefuses(t *testing.T) {
	for name, list := range goodOpenLists() {
		t.Run(name, func(t *testing.T) {
			for _, object := range append(edges(), 5, 6) {
				if impl.Opened(list, object) < 0 {
					checkSet(t, list, object, 1, list, false)
				}
				for _, value := range []int{top + 1, -top - 1, math.MinInt, math.MaxInt} {
					checkSet(t, list, object, value, list, false)
				}
			}
		})
	}
	for name, list := range badOpenLists() {
		t.Run(name, func(t *testing.T) {
			for _, object := range edges() {
				checkSet(t, list, object, 1, list, false)
				checkSet(t, list, object, top+1, list, false)
			}
		})
	}
}

// Writing keeps what was read, and leaves all other entries as they are.
func TestSetNewKeepsWhatWasRead(t *testing.T) {
	for name, list := range goodOpenLists() {
		for place, e := range list {
			for _, value := range []int{-top, -1, 0, 1, e.Old, e.New, top} {
				then, ok := impl.SetNew(list, e.Object, value)
				want := slices.Clone(list)
				want[place] = entry{Object: e.Object, Version: e.Version, Old: e.Old, New: value, Write: true}
				if !ok || !slices.Equal(then, want) || !impl.OpenOk(then) {
					t.Errorf("%s: object %d and %d: %v %v", name, e.Object, value, then, ok)
				}
				again, ok := impl.SetNew(then, e.Object, 9)
				if want[place].New = 9; !ok || !slices.Equal(again, want) {
					t.Errorf("%s: object %d, written twice: %v %v", name, e.Object, again, ok)
				}
			}
		}
	}
}

func TestDescOk(t *testing.T) {
	for owner := range 4 {
		for status := range 3 {
			for _, entries := range [][]entry{
				{{}}, readsOf(0), readsOf(7), writesOf(7), readsOf(0, 1), readsOf(0, 7), writesOf(2, 3, 6), readsOf(0, 1, 2, 3, 4, 5),
				writesOf(2, 3, 4, 5, 6, 7), {readOf(0, 5, 5), writeOf(1, 0, 4, 4), readOf(6, mostVersions, top), writeOf(7, 4, -top, top)},
			} {
				if d := descOf(owner, status, entries...); !impl.DescOk(d) {
					t.Error("refused:", d)
				}
			}
		}
	}
	for name, d := range badDescs() {
		if impl.DescOk(d) {
			t.Errorf("%s: taken", name)
		}
	}
}

// shortLists are all lists of at most that many of the objects, in each order and also with an object twice.
func shortLists(most int) [][]int {
	lists := [][]int{{}}
	for from := 0; most > 0; most-- {
		for _, list := range lists[from:] {
			from++
			for object := range 8 {
				lists = append(lists, append(slices.Clone(list), object))
			}
		}
	}
	return lists
}

// standsTwice says whether a number is in the list more than once.
func standsTwice(list []int) bool {
	sorted := slices.Sorted(slices.Values(list))
	return len(slices.Compact(sorted)) < len(list)
}

func TestDescOkOfAllShortLists(t *testing.T) {
	for _, objects := range shortLists(4) {
		list, twice := writesOf(objects...), standsTwice(objects)
		if impl.OpenOk(list) == twice {
			t.Fatal("opened:", objects)
		}
		if impl.DescOk(descOf(0, 1, list...)) != (len(list) > 0 && !twice && slices.IsSorted(objects)) {
			t.Fatal("a descriptor:", objects)
		}
	}
}

func TestMakeDesc(t *testing.T) {
	for _, c := range []struct {
		owner int
		list  []entry
		want  desc
	}{
		{0, []entry{{}}, desc{Entries: []entry{{}}}},
		{3, readsOf(7), descOf(3, 0, readsOf(7)...)},
		{1, readsOf(0, 1, 2), descOf(1, 0, readsOf(0, 1, 2)...)},
		{2, readsOf(7, 4, 3, 0), descOf(2, 0, readsOf(0, 3, 4, 7)...)},
		{1, writesOf(5, 7, 6, 1, 3, 2), descOf(1, 0, writesOf(1, 2, 3, 5, 6, 7)...)},
		// The order is that of the objects, whatever stands beside them.
		{0, []entry{writeOf(2, 0, -4, 1), readOf(1, 6, -2), readOf(3, 5, -9), writeOf(0, mostVersions, top, 7)},
			descOf(0, 0, writeOf(0, mostVersions, top, 7), readOf(1, 6, -2), writeOf(2, 0, -4, 1), readOf(3, 5, -9))},
	} {
		if d, ok := impl.MakeDesc(c.owner, c.list); !ok || !sameDesc(d, c.want) || !impl.DescOk(d) {
			t.Errorf("%d %v: %v %v", c.owner, c.list, d, ok)
		}
	}
}

func TestMakeDescRefuses(t *testing.T) {
	refused := func(name string, owner int, list []entry) {
		t.Helper()
		if d, ok := impl.MakeDesc(owner, list); ok || !sameDesc(d, desc{}) {
			t.Errorf("%s: owner %d: %v %v", name, owner, d, ok)
		}
	}
	for _, owner := range edges() {
		refused("nil", owner, nil)
		refused("nothing opened", owner, []entry{})
		for name, list := range badOpenLists() {
			refused(name, owner, list)
		}
		if 0 <= owner && owner < 4 {
			continue
		}
		for name, list := range goodOpenLists() {
			refused(name, owner, list)
		}
	}
}

// eachOrder hands out all orders of all sets of 1 to 6 objects.
func eachOrder(yield func([]int) bool) {
	more(nil, yield)
}

func more(objects []int, yield func([]int) bool) bool {
	for object := range 8 {
		if slices.Contains(objects, object) {
			continue
		}
		longer := append(slices.Clone(objects), object)
		if !yield(longer) || len(longer) < 6 && !more(longer, yield) {
			return false
		}
	}
	return true
}

// Promise 6: a descriptor has each opened object once, in order, with what was read and what shall be.
func TestDescsOfAllOrders(t *testing.T) {
	many := 0
	for objects := range eachOrder {
		many++
		read := map[int]entry{}
		var list []entry
		for i, object := range objects {
			version, value := (many*7919+i*31)%(mostVersions+1), many%100-i
			list, _ = impl.AddRead(list, object, version, value)
			read[object] = entry{Object: object, Version: version, Old: value, New: value}
			if (many+i)%3 != 0 {
				list, _ = impl.SetNew(list, object, many-10*i)
				read[object] = entry{Object: object, Version: version, Old: value, New: many - 10*i, Write: true}
			}
		}
		want := desc{Owner: many % 4}
		for _, object := range slices.Sorted(maps.Keys(read)) {
			want.Entries = append(want.Entries, read[object])
		}
		if d, ok := impl.MakeDesc(many%4, list); !ok || !sameDesc(d, want) || !impl.DescOk(d) {
			t.Fatal(objects, d, ok, "not", want)
		}
	}
	if many != 8+56+336+1680+6720+20160 {
		t.Error(many, "orders")
	}
}

// Promise 6, from the first entry on: whoever opens what is opened is refused, and whatever is refused changes nothing.
func TestOpeningByAnySteps(t *testing.T) {
	for seed := range 4000 {
		var list []entry
		for step := range 24 {
			roll := (seed*2654435761 + step*40503*(seed+7)) >> 5
			object, number := roll%10-1, (roll>>4)%40-20
			if roll>>9%3 == 0 {
				list = checkSetStep(t, list, object, number)
			} else {
				list = checkAddStep(t, list, object, number, roll%50)
			}
		}
	}
}

func checkAddStep(t *testing.T, list []entry, object int, version int, value int) []entry {
	t.Helper()
	want, wantCode := slices.Clone(list), impl.OpenDone
	isOpen := slices.ContainsFunc(list, func(e entry) bool { return e.Object == object })
	switch {
	case !plainEntry(readOf(object, version, value)) || isOpen:
		wantCode = impl.OpenBad
	case len(list) == 6:
		wantCode = impl.OpenMany
	default:
		want = append(want, readOf(object, version, value))
	}
	then, code := impl.AddRead(list, object, version, value)
	if code != wantCode || !slices.Equal(then, want) || !impl.OpenOk(then) {
		t.Fatal("added:", list, object, version, value, then, code, "not", want, wantCode)
	}
	return then
}

func checkSetStep(t *testing.T, list []entry, object int, value int) []entry {
	t.Helper()
	want, wantOk := slices.Clone(list), false
	for i := range want {
		if want[i].Object == object {
			want[i].New, want[i].Write, wantOk = value, true, true
		}
	}
	then, ok := impl.SetNew(list, object, value)
	if ok != wantOk || !slices.Equal(then, want) || !impl.OpenOk(then) {
		t.Fatal("set:", list, object, value, then, ok, "not", want, wantOk)
	}
	return then
}

func checkMeets(t *testing.T, a desc, b desc, want bool) {
	t.Helper()
	if impl.Meets(a, b) != want || impl.Meets(b, a) != want {
		t.Errorf("%v and %v: not %v", a, b, want)
	}
}

func TestMeets(t *testing.T) {
	for _, c := range []struct {
		name string
		a, b []entry
		want bool
	}{
		{"both read it", readsOf(3), readsOf(3), false},
		{"one writes it", writesOf(3), readsOf(3), true},
		{"both write it", writesOf(3), writesOf(3), true},
		{"one writes what was read", []entry{writeOf(3, 1, 2, 2)}, []entry{readOf(3, 1, 2)}, true},
		{"another version and value", []entry{writeOf(3, 1, 2, 4)}, []entry{readOf(3, 9, 5)}, true},
		{"both write another one", writesOf(2), writesOf(3), false},
		{"they write others than they share", []entry{writeOf(0, 0, 0, 1), readOf(3, 0, 0)}, []entry{readOf(3, 0, 0), writeOf(5, 0, 0, 1)}, false},
		{"the first of several", writesOf(0, 2, 4), []entry{readOf(0, 1, 1), readOf(1, 1, 1), readOf(3, 1, 1)}, true},
		{"the last of several", []entry{readOf(0, 1, 1), readOf(2, 1, 1), writeOf(7, 1, 1, 3)}, readsOf(0, 5, 7), true},
		{"the last of the one, the first of the other", readsOf(0, 1, 4), writesOf(4, 5, 6, 7), true},
		{"one behind the other", writesOf(0, 1, 2), writesOf(3, 4, 5, 6, 7), false},
		{"one between the other", writesOf(0, 2, 4, 6), writesOf(1, 3, 5, 7), false},
		{"most entries, of two they share", readsOf(0, 1, 2, 3, 4, 5), writesOf(2, 3, 4, 5, 6, 7), true},
		{"most entries, all read", readsOf(0, 1, 2, 3, 4, 5), readsOf(2, 3, 4, 5, 6, 7), false},
		{"a write in each, of what both read else", []entry{readOf(0, 0, 0), writeOf(1, 0, 0, 0)}, []entry{readOf(0, 0, 0), writeOf(2, 0, 0, 0)}, false},
	} {
		t.Run(c.name, func(t *testing.T) {
			// Who owns them, and whether they are decided, makes no difference.
			for status := range 9 {
				checkMeets(t, descOf(1, status/3, c.a...), descOf(2, status%3, c.b...), c.want)
				checkMeets(t, descOf(3, status/3, c.a...), descOf(3, status%3, c.b...), c.want)
			}
		})
	}
}

func TestMeetsOfWhatIsNoDescriptor(t *testing.T) {
	for _, good := range []desc{descOf(0, 0, writesOf(0, 1, 2, 3, 4, 5)...), descOf(3, 1, writesOf(0, 1, 4, 5, 6, 7)...)} {
		for name, bad := range badDescs() {
			t.Run(name, func(t *testing.T) {
				checkMeets(t, good, bad, false)
				checkMeets(t, bad, bad, false)
			})
		}
		checkMeets(t, good, good, true)
	}
}

// smallDescs are all that read or write some of the objects 1, 4 and 6.
func smallDescs() []desc {
	var list []desc
	for ways := 1; ways < 27; ways++ {
		d := descOf(ways%4, ways%3)
		for i, object := range []int{1, 4, 6} {
			switch ways / [3]int{1, 3, 9}[i] % 3 {
			case 1:
				d.Entries = append(d.Entries, readOf(object, ways, 0))
			case 2:
				d.Entries = append(d.Entries, writeOf(object, 0, ways, 1))
			}
		}
		list = append(list, d)
	}
	return list
}

func TestMeetsOfAllSmallDescs(t *testing.T) {
	for _, a := range smallDescs() {
		for _, b := range smallDescs() {
			want := false
			for _, e := range a.Entries {
				for _, f := range b.Entries {
					want = want || e.Object == f.Object && (e.Write || f.Write)
				}
			}
			checkMeets(t, a, b, want)
		}
	}
}

func TestDescText(t *testing.T) {
	for want, d := range map[string]desc{
		"0 undecided 0@0:0":                                                 {Entries: []entry{{}}},
		"0 undecided 0@0:0>0":                                               {Entries: []entry{{Write: true}}},
		"1 committed 0@0:0>5":                                               descOf(1, 1, writeOf(0, 0, 0, 5)),
		"2 failed 7@1000000:-1000000000>1000000000":                         descOf(2, 2, writeOf(7, mostVersions, -top, top)),
		"3 undecided 7@1000000:1000000000":                                  descOf(3, 0, readOf(7, mostVersions, top)),
		"3 failed 2@10:-5":                                                  descOf(3, 2, readOf(2, 10, -5)),
		"0 committed 2@1:-5>-5":                                             descOf(0, 1, writeOf(2, 1, -5, -5)),
		"0 failed 6@1:1000000000>-1000000000":                               descOf(0, 2, writeOf(6, 1, top, -top)),
		"2 undecided 1@0:20 3@1:10>11":                                      descOf(2, 0, readOf(1, 0, 20), writeOf(3, 1, 10, 11)),
		"1 committed 0@3:-1>0 4@20:0>-7 5@0:100":                            descOf(1, 1, writeOf(0, 3, -1, 0), writeOf(4, 20, 0, -7), readOf(5, 0, 100)),
		"1 undecided 0@0:0 1@0:0 2@0:0 3@0:0 4@0:0":                         descOf(1, 0, readOf(0, 0, 0), readOf(1, 0, 0), readOf(2, 0, 0), readOf(3, 0, 0), readOf(4, 0, 0)),
		"0 failed 2@12:-22>32 3@13:-23>33":                                  descOf(0, 2, writesOf(2, 3)...),
		"3 committed 0@10:-20 1@11:-21 2@12:-22 3@13:-23 4@14:-24 5@15:-25": descOf(3, 1, readsOf(0, 1, 2, 3, 4, 5)...),
	} {
		if text := impl.DescText(d); text != want {
			t.Errorf("%q, not %q", text, want)
		}
	}
	for name, d := range badDescs() {
		if text := impl.DescText(d); text != "" {
			t.Errorf("%s: %q", name, text)
		}
	}
}

// entryBehind lies behind the lists of arguments: it would be an entry as good as others.
func entryBehind() entry {
	return writeOf(6, 4321, 65, 66)
}

// everyList has the good and the bad open lists, and those of the bad descriptors.
func everyList() map[string][]entry {
	all := goodOpenLists()
	maps.Copy(all, badOpenLists())
	for name, d := range badDescs() {
		all["descriptor: "+name] = d.Entries
	}
	return all
}

// entryAnswers are the lists that all functions of descriptors answer with, done or refused; those that answer none are
// called, too.
func entryAnswers(list []entry) [][]entry {
	impl.OpenOk(list)
	var answers [][]entry
	for _, number := range []int{-1, 0, 1, 2, 3, 6, 7, 8, top + 1} {
		impl.Opened(list, number)
		read, _ := impl.AddRead(list, number, 1, 2)
		old, _ := impl.AddRead(list, 7, number, 2)
		far, _ := impl.AddRead(list, 7, 1, number)
		set, _ := impl.SetNew(list, number, 5)
		first, _ := impl.SetNew(list, 0, number)
		made, _ := impl.MakeDesc(number, list)
		d := descOf(number, 0, list...)
		impl.DescOk(d)
		impl.DescText(d)
		impl.Meets(d, d)
		answers = append(answers, read, old, far, set, first, made.Entries)
	}
	return answers
}

// Promise 19: nothing is written into an argument, nor behind it; every answer is new memory, also where the list comes
// back as it was.
func TestDescsWriteNothingAndShareNothing(t *testing.T) {
	for name, plain := range everyList() {
		g := guard(plain, entryBehind())
		answers := entryAnswers(g.list())
		g.check(t, name+", called")
		for i, then := range answers {
			if slices.Contains(spare(then), entryBehind()) {
				t.Errorf("%s: what lies behind is handed out: %v", name, spare(then))
			}
			was := slices.Clone(answers[(i+1)%len(answers)])
			overwrite(then, entry{Object: -7, Version: i})
			if !slices.Equal(answers[(i+1)%len(answers)], was) {
				t.Errorf("%s: two answers share memory", name)
			}
		}
		g.check(t, name+", overwritten")
	}
}

// What lies behind a list's length is not read: the answers are those of a list with nothing behind it.
func TestDescsReadNothingBehind(t *testing.T) {
	for name, plain := range everyList() {
		g := guard(plain, entryBehind())
		if impl.OpenOk(g.list()) != impl.OpenOk(slices.Clip(plain)) || impl.Opened(g.list(), 6) != impl.Opened(slices.Clip(plain), 6) {
			t.Errorf("%s: what lies behind is read", name)
		}
		wants := entryAnswers(slices.Clip(plain))
		for i, then := range entryAnswers(g.list()) {
			if !slices.Equal(then, wants[i]) {
				t.Errorf("%s: what lies behind is read: %v, not %v", name, then, wants[i])
			}
		}
		d, clipped := descOf(1, 1, g.list()...), descOf(1, 1, slices.Clip(plain)...)
		other := descOf(0, 0, readsOf(6)...)
		if impl.DescText(d) != impl.DescText(clipped) || impl.Meets(d, other) != impl.Meets(clipped, other) {
			t.Errorf("%s: what lies behind is read: %q", name, impl.DescText(d))
		}
	}
}
