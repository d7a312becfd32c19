package tests

import (
	"fmt"
	"maps"
	"math"
	"slices"
	"testing"

	"loop.example/g00087/impl"
)

type ring = impl.Ring

// What the functions of queues tell, as the document numbers it; how many cells there are, and turns at most.
const (
	ringDone  = 0
	ringBad   = 1
	ringFull  = 2
	ringEmpty = 3

	ringCells = 8
	mostTurns = 1000
)

// ringOf is the ring of these values, the oldest at the place from.
func ringOf(from int, list ...int) ring {
	r := ring{From: from, Many: len(list)}
	for i, value := range list {
		r.Cells[(from+i)%ringCells] = value
	}
	return r
}

// row are that many values: first, and each one more than the one ahead.
func row(first int, many int) []int {
	var list []int
	for i := range many {
		list = append(list, first+i)
	}
	return list
}

// withRing is the ring with one change.
func withRing(r ring, change func(*ring)) ring {
	change(&r)
	return r
}

func goodRings() map[string]ring {
	good := map[string]ring{
		"the zero value":             {},
		"one that is 0":              {Many: 1},
		"all are 0":                  {Many: 8},
		"all are 0, from the middle": {From: 4, Many: 8},
		"some are 0":                 ringOf(6, 0, 3, 0, 0),
		"the last is 0":              ringOf(5, 1, 2, 0),
		"the first is 0":             ringOf(5, 0, 1, 2),
		"values at both ends":        ringOf(7, -top, top),
		"all at the lower end":       ringOf(3, alike(-top, 8)...),
		"all at the upper end":       ringOf(5, alike(top, 8)...),
		"all alike":                  ringOf(2, 4, 4, 4, 4, 4),
		"values fall":                ringOf(6, 3, 2, 1, 0, -1),
	}
	for from := range ringCells {
		for many := range ringCells + 1 {
			good[fmt.Sprint(many, " from ", from)] = ringOf(from, row(11, many)...)
		}
	}
	return good
}

// badRings are not RingOk, each for one reason.
func badRings() map[string]ring {
	three, bent, full := ringOf(2, 11, 12, 13), ringOf(6, 11, 12, 13, 14), ringOf(3, row(11, 8)...)
	bad := map[string]ring{
		"a cell ahead of three":        withRing(three, func(r *ring) { r.Cells[1] = 1 }),
		"a cell behind three":          withRing(three, func(r *ring) { r.Cells[5] = 1 }),
		"the first cell beside three":  withRing(three, func(r *ring) { r.Cells[0] = -1 }),
		"the last cell beside three":   withRing(three, func(r *ring) { r.Cells[7] = top }),
		"a cell ahead of bent ones":    withRing(bent, func(r *ring) { r.Cells[5] = 1 }),
		"a cell behind bent ones":      withRing(bent, func(r *ring) { r.Cells[2] = 1 }),
		"one fewer than there are":     withRing(three, func(r *ring) { r.Many = 2 }),
		"one fewer than bent ones":     withRing(bent, func(r *ring) { r.Many = 3 }),
		"one fewer than all":           withRing(full, func(r *ring) { r.Many = 7 }),
		"none, and there are":          withRing(three, func(r *ring) { r.Many = 0 }),
		"from one too far":             withRing(three, func(r *ring) { r.From = 3 }),
		"from one too near":            withRing(three, func(r *ring) { r.From = 1 }),
		"from the end, of bent ones":   withRing(bent, func(r *ring) { r.From = 7 }),
		"from the start, of bent ones": withRing(bent, func(r *ring) { r.From = 0 }),
		"of an empty one, the oldest":  {Cells: [8]int{4: 1}, From: 4},
		"of an empty one, the last":    {Cells: [8]int{7: 1}},
		"of an empty one, no value":    {Cells: [8]int{3: top + 1}},
		"of an empty one, all":         {Cells: [8]int(alike(5, 8))},
		"ahead of one that is 0":       {Cells: [8]int{3: 1}, From: 4, Many: 1},
		"behind one that is 0":         {Cells: [8]int{5: 1}, From: 4, Many: 1},
		"behind the last one":          {Cells: [8]int{0: 1}, From: 7, Many: 1},
		"one from the end is no value": ringOf(7, top+1),
		"one from the start is none":   ringOf(0, -top-1),
	}
	for _, number := range []int{math.MinInt, -top, -9, -8, -2, -1, 8, 9, 15, 16, top, math.MaxInt} {
		bad[fmt.Sprint("empty, From is ", number)] = ring{From: number}
		bad[fmt.Sprint("all are 0, From is ", number)] = ring{From: number, Many: 8}
		for name, r := range map[string]ring{"three": three, "bent": bent, "full": full} {
			bad[fmt.Sprint(name, ", From is ", number)] = withRing(r, func(r *ring) { r.From = number })
		}
	}
	for _, number := range []int{math.MinInt, -top, -8, -7, -1, 9, 10, 11, 16, top, math.MaxInt} {
		bad[fmt.Sprint("empty, Many is ", number)] = ring{Many: number}
		bad[fmt.Sprint("empty, from the last, Many is ", number)] = ring{From: 7, Many: number}
		for name, r := range map[string]ring{"three": three, "bent": bent, "full": full} {
			bad[fmt.Sprint(name, ", Many is ", number)] = withRing(r, func(r *ring) { r.Many = number })
		}
	}
	for _, number := range []int{math.MinInt, -top - 1, top + 1, math.MaxInt} {
		for place := range ringCells {
			for name, r := range map[string]ring{"three": three, "bent": bent, "full": full} {
				bad[fmt.Sprint(name, ", at ", place, " is ", number)] = withRing(r, func(r *ring) { r.Cells[place] = number })
			}
		}
	}
	return bad
}

// plainRing are all values of a ring, the oldest first; it is false where r is not a ring. It says what the document does,
// and so do those below.
func plainRing(r ring) ([]int, bool) {
	if r.From < 0 || r.From > 7 || r.Many < 0 || r.Many > 8 {
		return nil, false
	}
	twice := append(r.Cells[:], r.Cells[:]...)
	list := twice[r.From : r.From+r.Many]
	return list, !slices.ContainsFunc(list, func(x int) bool { return !plainValue(x) }) && r == ringOf(r.From, list...)
}

func plainRingPut(r ring, value int) (ring, int) {
	list, ok := plainRing(r)
	switch {
	case !ok || !plainValue(value):
		return r, ringBad
	case len(list) == ringCells:
		return r, ringFull
	}
	return ringOf(r.From, append(slices.Clone(list), value)...), ringDone
}

func plainRingTake(r ring) (ring, int, int) {
	list, ok := plainRing(r)
	switch {
	case !ok:
		return r, 0, ringBad
	case len(list) == 0:
		return r, 0, ringEmpty
	}
	return ringOf((r.From+1)%ringCells, list[1:]...), list[0], ringDone
}

func plainRingMove(a ring, b ring, many int) (ring, ring, int) {
	from, isFrom := plainRing(a)
	to, isTo := plainRing(b)
	switch {
	case !isFrom || !isTo || many < 0 || many > 8:
		return a, b, ringBad
	case len(from) < many:
		return a, b, ringEmpty
	case len(to)+many > 8:
		return a, b, ringFull
	}
	return ringOf((a.From+many)%ringCells, from[many:]...), ringOf(b.From, slices.Concat(to, from[:many])...), ringDone
}

func plainRingTurn(r ring, by int) (ring, int) {
	list, ok := plainRing(r)
	switch {
	case !ok || by < 0 || by > mostTurns:
		return r, ringBad
	case len(list) == 0:
		return r, ringDone
	}
	at := by % len(list)
	return ringOf((r.From+by)%ringCells, slices.Concat(list[at:], list[:at])...), ringDone
}

func TestLimitsOfQueues(t *testing.T) {
	if impl.RingSize != ringCells {
		t.Error(impl.RingSize)
	}
	if codes := []int{impl.RingDone, impl.RingBad, impl.RingFull, impl.RingEmpty}; !slices.Equal(codes, []int{ringDone, ringBad, ringFull, ringEmpty}) {
		t.Error("codes", codes)
	}
}

func checkRing(t *testing.T, name string, r ring, want bool) {
	t.Helper()
	if _, plain := plainRing(r); impl.RingOk(r) != want || plain != want {
		t.Fatalf("%s: not %v: %+v", name, want, r)
	}
}

// checkRingPut, and those below, hold an answer against what is wanted, and that against the plain telling.
func checkRingPut(t *testing.T, name string, r ring, value int, want ring, wantCode int) {
	t.Helper()
	then, code := impl.RingPut(r, value)
	if then != want || code != wantCode {
		t.Fatalf("%s: %+v\nput %d: %+v %d\nnot %+v %d", name, r, value, then, code, want, wantCode)
	}
	if plain, told := plainRingPut(r, value); plain != want || told != wantCode {
		t.Fatalf("%s: %+v\nput %d: plainly %+v %d\nnot %+v %d", name, r, value, plain, told, want, wantCode)
	}
}

func checkRingTake(t *testing.T, name string, r ring, want ring, wantValue int, wantCode int) {
	t.Helper()
	then, value, code := impl.RingTake(r)
	if then != want || value != wantValue || code != wantCode {
		t.Fatalf("%s: %+v\ntaken: %+v %d %d\nnot %+v %d %d", name, r, then, value, code, want, wantValue, wantCode)
	}
	if plain, oldest, told := plainRingTake(r); plain != want || oldest != wantValue || told != wantCode {
		t.Fatalf("%s: %+v\ntaken: plainly %+v %d %d\nnot %+v %d %d", name, r, plain, oldest, told, want, wantValue, wantCode)
	}
}

func checkRingList(t *testing.T, name string, r ring, want ...int) {
	t.Helper()
	if list := impl.RingList(r); !slices.Equal(list, want) {
		t.Fatalf("%s: %+v\nlisted %v, not %v", name, r, list, want)
	}
	if plain, ok := plainRing(r); ok && !slices.Equal(plain, want) || !ok && len(want) > 0 {
		t.Fatalf("%s: %+v\nlisted: plainly %v, not %v", name, r, plain, want)
	}
}

func checkRingMove(t *testing.T, name string, a ring, b ring, many int, wantA ring, wantB ring, wantCode int) {
	t.Helper()
	thenA, thenB, code := impl.RingMove(a, b, many)
	if thenA != wantA || thenB != wantB || code != wantCode {
		t.Fatalf("%s: %+v %+v\nmoved %d: %+v %+v %d\nnot %+v %+v %d", name, a, b, many, thenA, thenB, code, wantA, wantB, wantCode)
	}
	if plainA, plainB, told := plainRingMove(a, b, many); plainA != wantA || plainB != wantB || told != wantCode {
		t.Fatalf("%s: %+v %+v\nmoved %d: plainly %+v %+v %d\nnot %+v %+v %d", name, a, b, many, plainA, plainB, told, wantA, wantB, wantCode)
	}
}

// checkNotMoved asks that a move is refused with that code, and both rings are as they were.
func checkNotMoved(t *testing.T, name string, a ring, b ring, many int, wantCode int) {
	t.Helper()
	checkRingMove(t, name, a, b, many, a, b, wantCode)
}

func checkRingTurn(t *testing.T, name string, r ring, by int, want ring, wantCode int) {
	t.Helper()
	then, code := impl.RingTurn(r, by)
	if then != want || code != wantCode {
		t.Fatalf("%s: %+v\nturned by %d: %+v %d\nnot %+v %d", name, r, by, then, code, want, wantCode)
	}
	if plain, told := plainRingTurn(r, by); plain != want || told != wantCode {
		t.Fatalf("%s: %+v\nturned by %d: plainly %+v %d\nnot %+v %d", name, r, by, plain, told, want, wantCode)
	}
}

// checkPlainRing asks of a ring all that it can be asked alone, by these numbers, and asks that what is left is a ring, if
// r is.
func checkPlainRing(t *testing.T, name string, r ring, numbers ...int) {
	t.Helper()
	list, ok := plainRing(r)
	if !ok {
		list = nil
	}
	checkRing(t, name, r, ok)
	checkRingList(t, name, r, list...)
	then, value, code := plainRingTake(r)
	checkRingTake(t, name, r, then, value, code)
	checkRing(t, name, then, ok)
	for _, number := range numbers {
		then, code = plainRingPut(r, number)
		checkRingPut(t, name, r, number, then, code)
		checkRing(t, name, then, ok)
		then, code = plainRingTurn(r, number)
		checkRingTurn(t, name, r, number, then, code)
		checkRing(t, name, then, ok)
	}
}

// checkPlainMove asks for a move of each of these numbers, and asks that what is left are rings, if both are.
func checkPlainMove(t *testing.T, name string, a ring, b ring, numbers ...int) {
	t.Helper()
	_, isA := plainRing(a)
	_, isB := plainRing(b)
	for _, many := range numbers {
		thenA, thenB, code := plainRingMove(a, b, many)
		checkRingMove(t, name, a, b, many, thenA, thenB, code)
		checkRing(t, name, thenA, isA)
		checkRing(t, name, thenB, isB)
	}
}

func TestRingOk(t *testing.T) {
	for name, r := range goodRings() {
		checkRing(t, name, r, true)
	}
	for name, r := range badRings() {
		checkRing(t, name, r, false)
	}
}

// Each From and each Many about their ends, of a ring that is empty, and of one that has only values of 0.
func TestRingOkOfFromAndMany(t *testing.T) {
	for from := -2; from < 11; from++ {
		for many := -2; many < 11; many++ {
			r := ring{From: from, Many: many}
			checkRing(t, "all 0", r, from >= 0 && from <= 7 && many >= 0 && many <= 8)
		}
	}
}

// One cell that is not 0 is right where it is in use, and nowhere else; at both ends of values, and past them.
func TestRingOkOfOneCell(t *testing.T) {
	for from := range ringCells {
		for many := range ringCells + 1 {
			for place := range ringCells {
				inUse := (place-from+ringCells)%ringCells < many
				for value, isValue := range map[int]bool{-top - 1: false, -top: true, -1: true, 1: true, top: true, top + 1: false} {
					r := ring{From: from, Many: many}
					r.Cells[place] = value
					checkRing(t, fmt.Sprint("at ", place), r, inUse && isValue)
				}
			}
		}
	}
}

// What is not RingOk is refused ahead of all, and left as it was, field by field.
func TestQueuesRefuseWhatIsNoRing(t *testing.T) {
	empty, some, full := ring{From: 3}, ringOf(6, 21, 22, 23, 24), ringOf(5, row(21, 8)...)
	for name, r := range badRings() {
		for _, number := range []int{0, 1, 7, 8, 9, 1000, 1001, -1, top, top + 1, math.MinInt, math.MaxInt} {
			checkRingPut(t, name, r, number, r, ringBad)
			checkRingTurn(t, name, r, number, r, ringBad)
			for _, good := range []ring{empty, some, full} {
				checkNotMoved(t, name, r, good, number, ringBad)
				checkNotMoved(t, name, good, r, number, ringBad)
			}
			checkNotMoved(t, name, r, r, number, ringBad)
		}
		checkRingTake(t, name, r, r, 0, ringBad)
		checkRingList(t, name, r)
	}
}

func TestRingPutOfNoValue(t *testing.T) {
	for name, r := range goodRings() {
		for _, value := range []int{math.MinInt, -top - 1, top + 1, math.MaxInt} {
			checkRingPut(t, name, r, value, r, ringBad)
		}
	}
}

func TestRingPut(t *testing.T) {
	for from := range ringCells {
		for many := range ringCells {
			list := row(11, many)
			for _, value := range []int{-top, -1, 0, 1, 11, top} {
				checkRingPut(t, "room", ringOf(from, list...), value, ringOf(from, append(slices.Clone(list), value)...), ringDone)
			}
		}
		full := ringOf(from, row(11, 8)...)
		for _, value := range []int{-top, -1, 0, 1, 11, top} {
			checkRingPut(t, "full", full, value, full, ringFull)
			checkRingPut(t, "full of 0", ring{From: from, Many: 8}, value, ring{From: from, Many: 8}, ringFull)
		}
	}
	checkRingPut(t, "the first", ring{}, 4, ring{Cells: [8]int{4}, Many: 1}, ringDone)
	checkRingPut(t, "the first, at the last place", ring{From: 7}, 4, ring{Cells: [8]int{7: 4}, From: 7, Many: 1}, ringDone)
	checkRingPut(t, "around the end", ringOf(7, 4), 5, ring{Cells: [8]int{0: 5, 7: 4}, From: 7, Many: 2}, ringDone)
	checkRingPut(t, "at the last place", ringOf(0, row(11, 7)...), 5, ring{Cells: [8]int{11, 12, 13, 14, 15, 16, 17, 5}, Many: 8}, ringDone)
	checkRingPut(t, "ahead of the oldest", ringOf(1, row(11, 7)...), 5, ring{Cells: [8]int{5, 11, 12, 13, 14, 15, 16, 17}, From: 1, Many: 8}, ringDone)
	checkRingPut(t, "the value 0", ringOf(2, 0), 0, ring{From: 2, Many: 2}, ringDone)
}

func TestRingTake(t *testing.T) {
	for from := range ringCells {
		checkRingTake(t, "empty", ring{From: from}, ring{From: from}, 0, ringEmpty)
		for many := range ringCells {
			list := row(11, many+1)
			checkRingTake(t, "some", ringOf(from, list...), ringOf((from+1)%8, list[1:]...), 11, ringDone)
		}
		for _, value := range []int{-top, -1, 0, 1, top} {
			checkRingTake(t, "one", ringOf(from, value), ring{From: (from + 1) % 8}, value, ringDone)
		}
	}
	checkRingTake(t, "the last place", ringOf(7, 4), ring{}, 4, ringDone)
	checkRingTake(t, "the last place, one behind it", ringOf(7, 4, 5), ring{Cells: [8]int{5}, Many: 1}, 4, ringDone)
	checkRingTake(t, "full, from the last place", ringOf(7, row(11, 8)...), ring{Cells: [8]int{12, 13, 14, 15, 16, 17, 18}, Many: 7}, 11, ringDone)
	checkRingTake(t, "full", ringOf(0, row(11, 8)...), ring{Cells: [8]int{0, 12, 13, 14, 15, 16, 17, 18}, From: 1, Many: 7}, 11, ringDone)
	checkRingTake(t, "the value 0", ring{From: 6, Many: 2}, ring{From: 7, Many: 1}, 0, ringDone)
}

func TestRingList(t *testing.T) {
	for from := range ringCells {
		checkRingList(t, "empty", ring{From: from})
		for many := range ringCells + 1 {
			checkRingList(t, "some", ringOf(from, row(11, many)...), row(11, many)...)
			checkRingList(t, "of 0", ring{From: from, Many: many}, alike(0, many)...)
		}
	}
	checkRingList(t, "bent", ring{Cells: [8]int{3, 4, 0, 0, 0, 0, 1, 2}, From: 6, Many: 4}, 1, 2, 3, 4)
	checkRingList(t, "full", ring{Cells: [8]int{3, 4, 5, 6, 7, 8, 1, 2}, From: 6, Many: 8}, 1, 2, 3, 4, 5, 6, 7, 8)
	checkRingList(t, "a 0 last", ring{Cells: [8]int{4: 9}, From: 4, Many: 3}, 9, 0, 0)
}

func TestRingMove(t *testing.T) {
	four, two := ringOf(6, 11, 12, 13, 14), ringOf(7, 21, 22)
	for _, m := range []struct {
		many         int
		wantA, wantB ring
	}{
		{0, four, two},
		{1, ringOf(7, 12, 13, 14), ringOf(7, 21, 22, 11)},
		{2, ringOf(0, 13, 14), ringOf(7, 21, 22, 11, 12)},
		{3, ringOf(1, 14), ringOf(7, 21, 22, 11, 12, 13)},
		{4, ring{From: 2}, ringOf(7, 21, 22, 11, 12, 13, 14)},
	} {
		checkRingMove(t, "of four", four, two, m.many, m.wantA, m.wantB, ringDone)
	}
	checkRingMove(t, "none of none", ring{From: 5}, ring{From: 2}, 0, ring{From: 5}, ring{From: 2}, ringDone)
	checkRingMove(t, "the only one", ringOf(7, 4), ring{From: 7}, 1, ring{}, ringOf(7, 4), ringDone)
	checkRingMove(t, "a 0", ring{From: 3, Many: 1}, ringOf(1, 5), 1, ring{From: 4}, ringOf(1, 5, 0), ringDone)
	checkRingMove(t, "all", ringOf(5, row(11, 8)...), ring{From: 7}, 8, ring{From: 5}, ringOf(7, row(11, 8)...), ringDone)
	checkRingMove(t, "into what was empty", ringOf(5, row(11, 8)...), ring{From: 1}, 7, ringOf(4, 18), ringOf(1, row(11, 7)...), ringDone)
	checkRingMove(t, "to the brim", four, ringOf(2, row(21, 4)...), 4, ring{From: 2}, ringOf(2, 21, 22, 23, 24, 11, 12, 13, 14), ringDone)
}

// How many can be moved: none too few, as many as a has, as many as b has room for, and no one more.
func TestRingMoveOfEachNumber(t *testing.T) {
	for has := range ringCells + 1 {
		for other := range ringCells + 1 {
			a, b := ringOf((has+3*other)%8, row(11, has)...), ringOf((5*has+other+6)%8, row(21, other)...)
			for many := range ringCells + 1 {
				switch {
				case many > has:
					checkNotMoved(t, "a has fewer", a, b, many, ringEmpty)
				case many > ringCells-other:
					checkNotMoved(t, "b has no room", a, b, many, ringFull)
				default:
					wantA := ringOf((a.From+many)%8, row(11+many, has-many)...)
					wantB := ringOf(b.From, slices.Concat(row(21, other), row(11, many))...)
					checkRingMove(t, "done", a, b, many, wantA, wantB, ringDone)
				}
			}
			for _, many := range []int{math.MinInt, -top, -9, -8, -1, 9, 10, 16, top, math.MaxInt} {
				checkNotMoved(t, "no number", a, b, many, ringBad)
			}
		}
	}
}

// Where both codes would fit, that a has fewer counts; what is bad counts ahead of both.
func TestRingMoveByItsFirstReason(t *testing.T) {
	empty, one, full := ring{From: 4}, ringOf(6, 5), ringOf(7, row(11, 8)...)
	checkNotMoved(t, "none, and no room", empty, full, 1, ringEmpty)
	checkNotMoved(t, "none, and no room for all", empty, full, 8, ringEmpty)
	checkNotMoved(t, "one, and no room for two", one, full, 2, ringEmpty)
	checkNotMoved(t, "one, and room for seven", one, one, 8, ringEmpty)
	checkNotMoved(t, "there is one, but no room", one, full, 1, ringFull)
	checkNotMoved(t, "all, and no room", full, full, 8, ringFull)
	checkNotMoved(t, "all, and room for seven", full, one, 8, ringFull)
	checkNotMoved(t, "too many, of which a has fewer, and no room", empty, full, 9, ringBad)
	checkNotMoved(t, "too many, and all are there, with room", full, empty, 9, ringBad)
	checkNotMoved(t, "less than none", full, empty, -1, ringBad)
	bad := ring{From: -1}
	checkNotMoved(t, "a is bad, and empty", bad, full, 1, ringBad)
	checkNotMoved(t, "b is bad, and a is empty", empty, bad, 1, ringBad)
	checkNotMoved(t, "nothing is moved, but a is bad", bad, one, 0, ringBad)
	checkNotMoved(t, "nothing is moved, but b is bad", one, bad, 0, ringBad)
}

// Both arguments may be one ring: then two come of it.
func TestRingMoveOfARingToItself(t *testing.T) {
	r := ringOf(6, 1, 2, 3)
	checkRingMove(t, "one", r, r, 1, ringOf(7, 2, 3), ringOf(6, 1, 2, 3, 1), ringDone)
	checkRingMove(t, "all", r, r, 3, ring{From: 1}, ringOf(6, 1, 2, 3, 1, 2, 3), ringDone)
	checkNotMoved(t, "one more", r, r, 4, ringEmpty)
	five := ringOf(6, row(1, 5)...)
	checkRingMove(t, "to the brim", five, five, 3, ringOf(1, 4, 5), ringOf(6, 1, 2, 3, 4, 5, 1, 2, 3), ringDone)
	checkNotMoved(t, "past the brim", five, five, 4, ringFull)
}

func TestRingTurn(t *testing.T) {
	three, full := ringOf(6, 11, 12, 13), ringOf(5, row(11, 8)...)
	for _, by := range []struct {
		name string
		r    ring
		by   int
		want ring
	}{
		{"three", three, 0, three},
		{"three", three, 1, ringOf(7, 12, 13, 11)},
		{"three", three, 2, ringOf(0, 13, 11, 12)},
		{"three", three, 3, ringOf(1, 11, 12, 13)},
		{"three", three, 4, ringOf(2, 12, 13, 11)},
		{"three", three, 8, ringOf(6, 13, 11, 12)},
		{"three", three, 24, three},
		{"three", three, 999, ringOf(5, 11, 12, 13)},
		{"three", three, 1000, ringOf(6, 12, 13, 11)},
		{"full", full, 1, ringOf(6, 12, 13, 14, 15, 16, 17, 18, 11)},
		{"full", full, 7, ringOf(4, 18, 11, 12, 13, 14, 15, 16, 17)},
		{"full", full, 8, full},
		{"full", full, 9, ringOf(6, 12, 13, 14, 15, 16, 17, 18, 11)},
		{"full", full, 999, ringOf(4, 18, 11, 12, 13, 14, 15, 16, 17)},
		{"full", full, 1000, full},
		{"one", ringOf(7, 4), 0, ringOf(7, 4)},
		{"one", ringOf(7, 4), 1, ringOf(0, 4)},
		{"one", ringOf(7, 4), 8, ringOf(7, 4)},
		{"one", ringOf(7, 4), 999, ringOf(6, 4)},
		{"one", ringOf(7, 4), 1000, ringOf(7, 4)},
		{"one that is 0", ring{From: 2, Many: 1}, 3, ring{From: 5, Many: 1}},
	} {
		checkRingTurn(t, by.name, by.r, by.by, by.want, ringDone)
	}
	// The cells of a full ring hold what they held: only the oldest is another one.
	for by := range 9 {
		checkRingTurn(t, "full", full, by, withRing(full, func(r *ring) { r.From = (5 + by) % 8 }), ringDone)
	}
}

// An empty ring stays as it is, with From, however often it is turned; but by is looked at ahead of that.
func TestRingTurnOfAnEmptyRing(t *testing.T) {
	for from := range ringCells {
		for _, by := range []int{0, 1, 2, 7, 8, 999, 1000} {
			checkRingTurn(t, "empty", ring{From: from}, by, ring{From: from}, ringDone)
		}
		for _, by := range []int{math.MinInt, -1, 1001, math.MaxInt} {
			checkRingTurn(t, "empty", ring{From: from}, by, ring{From: from}, ringBad)
		}
	}
}

func TestRingTurnByNoNumber(t *testing.T) {
	for name, r := range goodRings() {
		for _, by := range []int{math.MinInt, -top, -1000, -8, -1, 1001, 1002, 1008, top, math.MaxInt} {
			checkRingTurn(t, name, r, by, r, ringBad)
		}
	}
}

// A ring that is turned as often as it has values holds them in the same order; that many places further on.
func TestRingTurnedAllAround(t *testing.T) {
	for name, r := range goodRings() {
		then, code := impl.RingTurn(r, r.Many)
		if code != ringDone || !slices.Equal(impl.RingList(then), impl.RingList(r)) || then.From != (r.From+r.Many)%8 {
			t.Errorf("%s: %+v\nturned all around: %+v %d", name, r, then, code)
		}
		// To turn is to take and to put, as often.
		one := r
		for by := range 30 {
			checkRingTurn(t, name, r, by, one, ringDone)
			if r.Many > 0 {
				taken, value, _ := impl.RingTake(one)
				one, _ = impl.RingPut(taken, value)
			}
		}
	}
}

func TestGoodRings(t *testing.T) {
	for name, r := range goodRings() {
		checkPlainRing(t, name, r, edges()...)
		checkPlainRing(t, name, r, append(row(0, 40), 998, 999, 1000, 1001)...)
		for _, b := range goodRings() {
			checkPlainMove(t, name, r, b, row(-1, 11)...)
		}
	}
}

// Each number of each ring changed to each edge.
func TestRingsOverEdges(t *testing.T) {
	numbers := append(edges(), 5, 6, 9, 15, 16)
	kept := ringOf(6, 21, 22, 23)
	for name, r := range goodRings() {
		for _, number := range numbers {
			changed := []ring{
				withRing(r, func(r *ring) { r.From = number }),
				withRing(r, func(r *ring) { r.Many = number }),
			}
			for place := range ringCells {
				changed = append(changed, withRing(r, func(r *ring) { r.Cells[place] = number }))
			}
			for _, c := range changed {
				checkPlainRing(t, name, c, 0, 3, 1000)
				checkPlainMove(t, name, c, kept, 0, 2)
				checkPlainMove(t, name, kept, c, 0, 2)
			}
		}
	}
}

// Promise 14, in all ways in which two values can be put and taken: each ring to which one comes is gone through once.
func TestAllWaysOfTwoValues(t *testing.T) {
	seen := map[ring]bool{}
	work := []ring{{}}
	for len(work) > 0 {
		r := work[0]
		work = work[1:]
		if seen[r] {
			continue
		}
		seen[r] = true
		checkPlainRing(t, "reached", r, 0, 1, 2, 9)
		for value := range 2 {
			then, _ := impl.RingPut(r, value)
			work = append(work, then)
		}
		then, _, _ := impl.RingTake(r)
		turned, _ := impl.RingTurn(r, 1)
		work = append(work, then, turned)
	}
	// From is one of eight, and of each number of cells in use each holds one of two values.
	if len(seen) != 8*(1+2+4+8+16+32+64+128+256) {
		t.Error("rings gone through:", len(seen))
	}
}

// What is put is taken in the order in which it was put, from wherever the ring begins, over a long row of puts and takes.
func TestWhatIsTakenIsWhatWasPut(t *testing.T) {
	for from := range ringCells {
		for many := 1; many <= ringCells; many++ {
			r := ring{From: from}
			put, taken := 0, 0
			for range 20 {
				for range many {
					if then, code := impl.RingPut(r, put); code == ringDone {
						r = then
						put++
					}
				}
				for range (many + 1) / 2 {
					then, value, code := impl.RingTake(r)
					if code != ringDone || value != taken {
						t.Fatalf("taken %d, not %d: %d: %+v", value, taken, code, r)
					}
					r = then
					taken++
				}
				checkRingList(t, "left", r, row(taken, put-taken)...)
			}
		}
	}
}

// Promise 14, over long rows of deeds on three rings beside three lists: what is taken is what was put, in order, a move
// loses nothing, and what is refused leaves all as it was.
func TestQueuesBesideLists(t *testing.T) {
	codes := map[string]int{}
	for seed := range 60 {
		rings := [3]ring{{From: seed % 8}, {From: seed / 8}, {From: 7}}
		var lists [3][]int
		for step := range 300 {
			mixed := seed*7919 + step*step*(seed+3)/5 + step/(1+seed%5)
			a, b, many := mixed%3, (mixed/3+step)%3, mixed/7%10-1
			was := rings
			deed, code := mixed/11%5, ringDone
			switch deed {
			case 0, 1:
				rings[a], code = impl.RingPut(rings[a], step)
			case 2:
				rings[a], _, code = impl.RingTake(rings[a])
			case 3:
				if a == b {
					continue
				}
				rings[a], rings[b], code = impl.RingMove(rings[a], rings[b], many)
			case 4:
				rings[a], code = impl.RingTurn(rings[a], many)
			}
			codes[fmt.Sprint([]string{"put", "put", "take", "move", "turn"}[deed], " ", code)]++
			if code != ringDone && rings != was {
				t.Fatalf("refused by %d: %+v\nwas %+v", code, rings, was)
			}
			if code == ringDone {
				doOnLists(&lists, deed, a, b, many, step)
			}
			for i, r := range rings {
				checkRing(t, "beside a list", r, true)
				checkRingList(t, "beside a list", r, lists[i]...)
			}
		}
	}
	for _, name := range []string{"put 0", "put 2", "take 0", "take 3", "move 0", "move 1", "move 2", "move 3", "turn 0", "turn 1"} {
		if codes[name] < 100 {
			t.Error("only", codes, "of", name)
		}
	}
}

// doOnLists does a deed that was done on rings, on lists.
func doOnLists(lists *[3][]int, deed int, a int, b int, many int, value int) {
	switch deed {
	case 0, 1:
		lists[a] = append(lists[a], value)
	case 2:
		lists[a] = lists[a][1:]
	case 3:
		lists[b] = slices.Concat(lists[b], lists[a][:many])
		lists[a] = lists[a][many:]
	case 4:
		for range many {
			if len(lists[a]) > 0 {
				lists[a] = append(slices.Clone(lists[a][1:]), lists[a][0])
			}
		}
	}
}

// A move is its takes and puts one at a time; a move there and back loses nothing.
func TestRingMoveIsTakesAndPuts(t *testing.T) {
	for name, r := range goodRings() {
		for many := range r.Many + 1 {
			b := ringOf((3*many+2)%8, row(31, (8-many)/2)...)
			movedA, movedB, code := impl.RingMove(r, b, many)
			a, to := r, b
			for range many {
				then, value, _ := impl.RingTake(a)
				a = then
				to, _ = impl.RingPut(to, value)
			}
			if code != ringDone || movedA != a || movedB != to {
				t.Fatalf("%s: %+v %+v\nmoved %d: %+v %+v %d\nnot %+v %+v", name, r, b, many, movedA, movedB, code, a, to)
			}
			back, _ := impl.RingTurn(movedB, b.Many)
			left, all, code := impl.RingMove(back, movedA, many)
			around, _ := impl.RingTurn(r, many)
			if code != ringDone || !slices.Equal(impl.RingList(left), impl.RingList(b)) || all != around {
				t.Fatalf("%s: %+v\nmoved back %d: %+v %+v %d", name, r, many, left, all, code)
			}
		}
	}
}

// Promise 19: every answer is new memory, nothing lies behind it, and the argument is left as it was.
func TestQueuesWriteNothingAndShareNothing(t *testing.T) {
	all := goodRings()
	maps.Copy(all, badRings())
	for name, r := range all {
		was := r
		list, again := impl.RingList(r), impl.RingList(r)
		want := slices.Clone(list)
		for _, number := range spare(list) {
			if number != 0 {
				t.Errorf("%s: %d is handed out behind the list", name, number)
			}
		}
		overwrite(list, -7)
		put, _ := impl.RingPut(r, 5)
		taken, _, _ := impl.RingTake(r)
		turned, _ := impl.RingTurn(r, 3)
		a, b, _ := impl.RingMove(r, r, 1)
		for _, then := range []*ring{&put, &taken, &turned, &a, &b} {
			*then = ringOf(1, alike(-7, 8)...)
		}
		if r != was || !slices.Equal(again, want) || !slices.Equal(impl.RingList(r), want) {
			t.Errorf("%s: %+v %v\nwas %+v %v", name, r, again, was, want)
		}
	}
}

// Promise 19: whatever the arguments are, there is an answer, and it is kept nowhere.
func TestQueuesOfOddArguments(t *testing.T) {
	kept := ringOf(5, row(11, 6)...)
	numbers := append(oddNumbers(), 7, 8, 9, 999, 1000, 1001)
	for _, number := range numbers {
		for _, other := range numbers {
			for _, r := range []ring{
				{From: number, Many: other},
				{Cells: [8]int(alike(other, 8)), From: number, Many: 8},
				{Cells: [8]int(alike(number, 8)), From: 3, Many: other},
				{Cells: [8]int{number, other, number}, Many: 2},
				{Cells: [8]int{number, 0, 0, 0, 0, 0, 0, other}, From: 7, Many: 2},
				withRing(kept, func(r *ring) { r.Cells[2], r.Cells[5] = number, other }),
			} {
				checkPlainRing(t, "odd", r, number, other)
				checkPlainMove(t, "odd", r, kept, number, other)
				checkPlainMove(t, "odd", kept, r, number, other)
			}
		}
		checkPlainRing(t, "behind odd", kept, number)
	}
}
