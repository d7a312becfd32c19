package tests

import (
	"fmt"
	"maps"
	"math"
	"slices"
	"testing"

	"loop.example/g00087/impl"
)

// What the functions of sets tell, as the document numbers it; and how many values a bucket has at most, and a set buckets.
const (
	setDone = 0
	setBad  = 1
	setHas  = 2
	setFull = 3
	setNone = 4

	mostInBucket = 3
	mostBuckets  = 8
)

// bucketed has these values in that many buckets (1, 2, 4 or 8), however many come into one.
func bucketed(many int, values ...int) [][]int {
	s := make([][]int, many)
	for _, x := range values {
		// The low bits are what is left modulo 2, 4 or 8, of numbers below 0, too.
		s[x&(many-1)] = append(s[x&(many-1)], x)
	}
	for _, bucket := range s {
		slices.Sort(bucket)
	}
	return s
}

func sameSet(a [][]int, b [][]int) bool {
	return slices.EqualFunc(a, b, slices.Equal[[]int])
}

func cloneSet(s [][]int) [][]int {
	then := slices.Clone(s)
	for place, bucket := range s {
		then[place] = slices.Clone(bucket)
	}
	return then
}

// withSet is the set with one change.
func withSet(s [][]int, change func([][]int)) [][]int {
	then := cloneSet(s)
	change(then)
	return then
}

// eights are that many values, the first one and each 8 more than the one ahead: with any number of buckets they share one.
func eights(first int, many int) []int {
	var list []int
	for i := range many {
		list = append(list, first+8*i)
	}
	return list
}

// brimful has three values in each bucket.
func brimful(many int) [][]int {
	var values []int
	for place := range many {
		values = append(values, eights(place-8, 3)...)
	}
	return bucketed(many, values...)
}

func goodSets() map[string][][]int {
	good := map[string][][]int{
		"one value":             {{4}},
		"the value 0":           {{0}},
		"one bucket, full":      {{-5, 0, 7}},
		"values at both ends":   {{-top, 0, top}},
		"both ends, of two":     {{-top, top}, {-top + 1, top - 1}},
		"both ends, of eight":   {{-top, top}, {-top + 1}, {}, {}, {}, {}, {}, {top - 1}},
		"side by side":          {{1, 2, 3}},
		"below 0, of two":       {{-4, -2, 0}, {-5, -3, -1}},
		"below 0, of four":      {{-8, -4}, {-7, -3}, {-6, -2}, {-5, -1}},
		"below 0, of eight":     {{-8}, {-7}, {-6}, {-5}, {-4}, {-3}, {-2}, {-1}},
		"far apart, in one":     {nil, {-7, 1, 9}, nil, nil, nil, nil, nil, nil},
		"only the last bucket":  {{}, {}, {}, {-1, 3, 7}},
		"only the first bucket": {{-8, 0, 8}, {}, {}, {}},
		"some of eight":         bucketed(8, 0, 1, 9, 17, -6, 12, 7, -1),
		"some of four":          bucketed(4, 0, 4, 8, 5, -1, 11, 3),
	}
	for _, many := range []int{1, 2, 4, 8} {
		good[fmt.Sprint("empty, of ", many)] = make([][]int, many)
		good[fmt.Sprint("empty, no bucket nil, of ", many)] = slices.Repeat([][]int{{}}, many)
		good[fmt.Sprint("brimful, of ", many)] = brimful(many)
	}
	return good
}

// badSets are not SetOk, each for one reason.
func badSets() map[string][][]int {
	bad := map[string][][]int{
		"nil":                             nil,
		"no bucket":                       {},
		"four in one":                     {{1, 2, 3, 4}},
		"four in the last":                {{}, {1, 3, 5, 7}},
		"four in the first":               {{-8, 0, 8, 16}, {}, {}, {}},
		"four in one of eight":            bucketed(8, -7, 1, 9, 17),
		"many in one":                     {row(1, 100)},
		"equal":                           {{4, 4}},
		"all equal":                       {{4, 4, 4}},
		"the last two are equal":          {{}, {1, 3, 3}},
		"falling":                         {{5, 4}},
		"falling at last":                 {{1, 5, 4}},
		"falling at first":                {{5, 1, 9}},
		"falling below 0":                 {{-4, -6}, {}},
		"a value in two buckets":          {{2}, {2}},
		"even among odd":                  {{}, {1, 2, 3}},
		"odd among even":                  {{0, 1, 2}, {}},
		"the first in another's place":    {{1, 2}, {}},
		"the last in another's place":     {{0, 2, 3}, {}},
		"changed about, of two":           {{1}, {0}},
		"changed about, of four":          {{}, {2}, {1}, {}},
		"placed as of two":                {{2}, {}, {}, {}},
		"placed as of four":               {{}, {}, {}, {}, {}, {}, {2}, {}},
		"placed as of eight":              {{}, {}, {2, 6}, {6}},
		"as of four, of eight":            {{0, 4}, {}, {}, {}, {}, {}, {}, {}},
		"below 0, by what is left of 1":   {{}, {}, {}, {}, {}, {}, {-1}, {}},
		"below 0, as if it were above":    {{}, {-1}, {}, {}},
		"below 0, one place too far":      {{-1}, {}, {}, {}},
		"below 0, of eight, above's":      {{}, {}, {}, {-3}, {}, {}, {}, {}},
		"only the last bucket is not so":  {{}, {}, {}, {}, {}, {}, {}, {8}},
		"only the first bucket is not so": {{7}, {}, {}, {}, {}, {}, {}, {}},
	}
	for _, many := range []int{3, 5, 6, 7, 9, 12, 15, 16, 17, 24, 32, 64, 256} {
		bad[fmt.Sprint("empty, of ", many)] = make([][]int, many)
		bad[fmt.Sprint("the value 0, of ", many)] = withSet(make([][]int, many), func(s [][]int) { s[0] = []int{0} })
	}
	for _, number := range []int{math.MinInt, -top - 8, -top - 1, top + 1, top + 8, math.MaxInt} {
		for _, many := range []int{1, 2, 4, 8} {
			bad[fmt.Sprint("of ", many, ", no value: ", number)] = bucketed(many, number)
			bad[fmt.Sprint("of ", many, ", no value beside others: ", number)] = bucketed(many, 0, 1, 2, number)
		}
	}
	return bad
}

// plainSet are all values of a set, ascending; it is false where s is not a set. It says what the document does, and so do
// those below.
func plainSet(s [][]int) ([]int, bool) {
	if !slices.Contains([]int{1, 2, 4, 8}, len(s)) {
		return nil, false
	}
	values := slices.Concat(s...)
	slices.Sort(values)
	isWrong := func(x int) bool { return !plainValue(x) }
	isOver := func(bucket []int) bool { return len(bucket) > 3 }
	if len(slices.Compact(slices.Clone(values))) < len(values) || slices.ContainsFunc(values, isWrong) {
		return nil, false
	}
	return values, !slices.ContainsFunc(s, isOver) && sameSet(s, bucketed(len(s), values...))
}

// plainRoomy lays values in as few buckets as they have room in, but in no fewer than many; it is false where there are none.
func plainRoomy(many int, values []int) ([][]int, bool) {
	for ; many <= 8; many *= 2 {
		if s := bucketed(many, values...); !slices.ContainsFunc(s, func(bucket []int) bool { return len(bucket) > 3 }) {
			return s, true
		}
	}
	return nil, false
}

func plainSetAdd(s [][]int, x int) ([][]int, int) {
	values, ok := plainSet(s)
	switch {
	case !ok || !plainValue(x):
		return s, setBad
	case slices.Contains(values, x):
		return s, setHas
	}
	if then, ok := plainRoomy(len(s), append(values, x)); ok {
		return then, setDone
	}
	return s, setFull
}

func plainSetDrop(s [][]int, x int) ([][]int, int) {
	values, ok := plainSet(s)
	switch {
	case !ok || !plainValue(x):
		return s, setBad
	case !slices.Contains(values, x):
		return s, setNone
	}
	return bucketed(len(s), slices.DeleteFunc(values, func(y int) bool { return y == x })...), setDone
}

// plainSetJoin lays all values at once: it comes to the same as adding them, in whatever order that is done.
func plainSetJoin(a [][]int, b [][]int) ([][]int, int) {
	ones, isA := plainSet(a)
	others, isB := plainSet(b)
	if !isA || !isB {
		return a, setBad
	}
	all := slices.Concat(ones, others)
	slices.Sort(all)
	if then, ok := plainRoomy(len(a), slices.Compact(all)); ok {
		return then, setDone
	}
	return a, setFull
}

func plainSetSame(a [][]int, b [][]int) bool {
	ones, isA := plainSet(a)
	others, isB := plainSet(b)
	return isA && isB && slices.Equal(ones, others)
}

func TestLimitsOfSets(t *testing.T) {
	if impl.BucketMost != mostInBucket || impl.MaxBuckets != mostBuckets {
		t.Error(impl.BucketMost, impl.MaxBuckets)
	}
	codes := []int{impl.SetDone, impl.SetBad, impl.SetHas, impl.SetFull, impl.SetNone}
	if !slices.Equal(codes, []int{setDone, setBad, setHas, setFull, setNone}) {
		t.Error("codes", codes)
	}
}

func checkSetOk(t *testing.T, name string, s [][]int, want bool) {
	t.Helper()
	if _, plain := plainSet(s); impl.SetOk(s) != want || plain != want {
		t.Fatalf("%s: not %v: %v", name, want, s)
	}
}

// checkSetHas, and those below, hold an answer against what is wanted, and that against the plain telling.
func checkSetHas(t *testing.T, name string, s [][]int, x int, want bool) {
	t.Helper()
	values, ok := plainSet(s)
	if plain := ok && slices.Contains(values, x); impl.SetHas16(s, x) != want || plain != want {
		t.Fatalf("%s: %v\nhas %d: not %v, plainly %v", name, s, x, want, plain)
	}
}

func checkSetAdd(t *testing.T, name string, s [][]int, x int, want [][]int, wantCode int) {
	t.Helper()
	then, code := impl.SetAdd(s, x)
	if !sameSet(then, want) || code != wantCode {
		t.Fatalf("%s: %v\nadded %d: %v %d\nnot %v %d", name, s, x, then, code, want, wantCode)
	}
	if plain, told := plainSetAdd(s, x); !sameSet(plain, want) || told != wantCode {
		t.Fatalf("%s: %v\nadded %d: plainly %v %d\nnot %v %d", name, s, x, plain, told, want, wantCode)
	}
}

// checkNotAdded asks that an add is refused with that code, and the set is as it was, bucket by bucket.
func checkNotAdded(t *testing.T, name string, s [][]int, x int, wantCode int) {
	t.Helper()
	checkSetAdd(t, name, s, x, s, wantCode)
}

func checkSetDrop(t *testing.T, name string, s [][]int, x int, want [][]int, wantCode int) {
	t.Helper()
	then, code := impl.SetDrop(s, x)
	if !sameSet(then, want) || code != wantCode {
		t.Fatalf("%s: %v\ndropped %d: %v %d\nnot %v %d", name, s, x, then, code, want, wantCode)
	}
	if plain, told := plainSetDrop(s, x); !sameSet(plain, want) || told != wantCode {
		t.Fatalf("%s: %v\ndropped %d: plainly %v %d\nnot %v %d", name, s, x, plain, told, want, wantCode)
	}
}

func checkSetList(t *testing.T, name string, s [][]int, want ...int) {
	t.Helper()
	if list := impl.SetList(s); !slices.Equal(list, want) {
		t.Fatalf("%s: %v\nlisted %v, not %v", name, s, list, want)
	}
	if plain, ok := plainSet(s); ok && !slices.Equal(plain, want) || !ok && len(want) > 0 {
		t.Fatalf("%s: %v\nlisted: plainly %v, not %v", name, s, plain, want)
	}
}

func checkSetJoin(t *testing.T, name string, a [][]int, b [][]int, want [][]int, wantCode int) {
	t.Helper()
	then, code := impl.SetJoin(a, b)
	if !sameSet(then, want) || code != wantCode {
		t.Fatalf("%s: %v %v\njoined: %v %d\nnot %v %d", name, a, b, then, code, want, wantCode)
	}
	if plain, told := plainSetJoin(a, b); !sameSet(plain, want) || told != wantCode {
		t.Fatalf("%s: %v %v\njoined: plainly %v %d\nnot %v %d", name, a, b, plain, told, want, wantCode)
	}
}

func checkNotJoined(t *testing.T, name string, a [][]int, b [][]int, wantCode int) {
	t.Helper()
	checkSetJoin(t, name, a, b, a, wantCode)
}

// checkSetSame asks both ways about.
func checkSetSame(t *testing.T, name string, a [][]int, b [][]int, want bool) {
	t.Helper()
	if impl.SetSame(a, b) != want || impl.SetSame(b, a) != want || plainSetSame(a, b) != want {
		t.Fatalf("%s: not %v: %v %v", name, want, a, b)
	}
}

// checkPlainSet asks of a set all that it can be asked alone, by these numbers, and asks that what is left is a set, if s is.
func checkPlainSet(t *testing.T, name string, s [][]int, numbers ...int) {
	t.Helper()
	values, ok := plainSet(s)
	if !ok {
		values = nil
	}
	checkSetOk(t, name, s, ok)
	checkSetList(t, name, s, values...)
	for _, x := range numbers {
		checkSetHas(t, name, s, x, slices.Contains(values, x))
		then, code := plainSetAdd(s, x)
		checkSetAdd(t, name, s, x, then, code)
		checkSetOk(t, name, then, ok)
		then, code = plainSetDrop(s, x)
		checkSetDrop(t, name, s, x, then, code)
		checkSetOk(t, name, then, ok)
	}
}

// checkPlainSets asks of two sets all that they can be asked together.
func checkPlainSets(t *testing.T, name string, a [][]int, b [][]int) {
	t.Helper()
	then, code := plainSetJoin(a, b)
	checkSetJoin(t, name, a, b, then, code)
	then, code = plainSetJoin(b, a)
	checkSetJoin(t, name, b, a, then, code)
	checkSetSame(t, name, a, b, plainSetSame(a, b))
}

func TestSetOk(t *testing.T) {
	for name, s := range goodSets() {
		checkSetOk(t, name, s, true)
	}
	for name, s := range badSets() {
		checkSetOk(t, name, s, false)
	}
}

func TestSetOkOfEachNumberOfBuckets(t *testing.T) {
	for many := range 40 {
		checkSetOk(t, "empty", make([][]int, many), many == 1 || many == 2 || many == 4 || many == 8)
	}
}

// One value is right in the bucket of its place, and nowhere else; at both ends of values, and past them.
func TestSetOkOfOneValue(t *testing.T) {
	for _, many := range []int{1, 2, 4, 8} {
		for _, from := range []int{-top - 20, -20, top - 20} {
			for x := from; x <= from+40; x++ {
				for at := range many {
					s := withSet(make([][]int, many), func(s [][]int) { s[at] = []int{x} })
					checkSetOk(t, "one", s, plainValue(x) && (x-at)%many == 0)
				}
			}
		}
	}
}

// A bucket has as many values as BucketMost, and not one more, wherever it is.
func TestSetOkOfFullBuckets(t *testing.T) {
	for _, many := range []int{1, 2, 4, 8} {
		for at := range many {
			for in := range 8 {
				checkSetOk(t, "in one", bucketed(many, eights(at-16, in)...), in <= 3)
				checkSetOk(t, "in one, at the lower end", bucketed(many, eights(at-top, in)...), in <= 3)
			}
		}
	}
}

func TestNewSet(t *testing.T) {
	s := impl.NewSet()
	if !sameSet(s, [][]int{{}}) || !impl.SetOk(s) {
		t.Error(s)
	}
	checkPlainSet(t, "new", s, -top, -1, 0, 1, top)
	s[0] = append(s[0], 5)
	if again := impl.NewSet(); !sameSet(again, [][]int{{}}) {
		t.Error("a new set is kept:", again)
	}
}

// What is not SetOk is refused ahead of all, and left as it was, bucket by bucket.
func TestSetsRefuseWhatIsNoSet(t *testing.T) {
	for name, s := range badSets() {
		for _, x := range append(oddNumbers(), 4, 5, 7) {
			checkSetHas(t, name, s, x, false)
			checkNotAdded(t, name, s, x, setBad)
			checkSetDrop(t, name, s, x, s, setBad)
		}
		checkSetList(t, name, s)
		for _, good := range []([][]int){{{}}, {{1, 2, 3}}, brimful(8)} {
			checkNotJoined(t, name, s, good, setBad)
			checkNotJoined(t, name, good, s, setBad)
			checkSetSame(t, name, s, good, false)
		}
		checkNotJoined(t, name, s, s, setBad)
		checkSetSame(t, name, s, s, false)
	}
}

// Nor is any set changed by what is no value, whether or not its bucket has room.
func TestSetsRefuseWhatIsNoValue(t *testing.T) {
	for name, s := range goodSets() {
		for _, x := range []int{math.MinInt, -top - 8, -top - 1, top + 1, top + 8, math.MaxInt} {
			checkSetHas(t, name, s, x, false)
			checkNotAdded(t, name, s, x, setBad)
			checkSetDrop(t, name, s, x, s, setBad)
		}
	}
}

func TestSetHas16(t *testing.T) {
	for name, s := range goodSets() {
		for _, x := range slices.Concat(s...) {
			checkSetHas(t, name, s, x, true)
		}
		checkSetHas(t, name, s, 1234, false)
	}
	s := [][]int{{-4, 8}, {5}, {}, {-1, 3, 7}}
	for x := -20; x <= 20; x++ {
		checkSetHas(t, "of four", s, x, slices.Contains([]int{-4, 8, 5, -1, 3, 7}, x))
	}
	for _, x := range []int{-top, top} {
		checkSetHas(t, "at an end", [][]int{{-top, top}}, x, true)
		checkSetHas(t, "at an end, of two", [][]int{{-top, top}, {}}, x, true)
		checkSetHas(t, "none at an end", [][]int{{-top + 1, top - 1}}, x, false)
	}
	checkSetHas(t, "empty", [][]int{{}}, 0, false)
}

// besideFull has that last bucket beside seven full ones.
func besideFull(last []int) [][]int {
	return withSet(brimful(8), func(s [][]int) { s[7] = last })
}

func TestSetAdd(t *testing.T) {
	for _, c := range []struct {
		name string
		s    [][]int
		x    int
		want [][]int
	}{
		{"into a new one", [][]int{{}}, 4, [][]int{{4}}},
		{"0 into a new one", [][]int{nil}, 0, [][]int{{0}}},
		{"ahead of one", [][]int{{4}}, -4, [][]int{{-4, 4}}},
		{"behind one", [][]int{{4}}, 5, [][]int{{4, 5}}},
		{"ahead of two", [][]int{{4, 6}}, 3, [][]int{{3, 4, 6}}},
		{"between two", [][]int{{4, 6}}, 5, [][]int{{4, 5, 6}}},
		{"behind two", [][]int{{4, 6}}, 7, [][]int{{4, 6, 7}}},
		{"the lower end", [][]int{{-top + 1, 0}}, -top, [][]int{{-top, -top + 1, 0}}},
		{"the upper end", [][]int{{0, top - 1}}, top, [][]int{{0, top - 1, top}}},
		{"0 between", [][]int{{-1, 1}}, 0, [][]int{{-1, 0, 1}}},
		{"of two, even", [][]int{{}, {1, 3, 5}}, -2, [][]int{{-2}, {1, 3, 5}}},
		{"of two, odd", [][]int{{0, 2, 4}, {1, 3}}, -1, [][]int{{0, 2, 4}, {-1, 1, 3}}},
		{"of four, below 0", [][]int{{}, {}, {}, {}}, -1, [][]int{{}, {}, {}, {-1}}},
		{"of four, below 0, ahead", [][]int{{}, {1, 5}, {}, {}}, -3, [][]int{{}, {-3, 1, 5}, {}, {}}},
		{"of eight, behind", [][]int{{}, {}, {}, {}, {}, {-3, 5}, {}, {}}, 13, [][]int{{}, {}, {}, {}, {}, {-3, 5, 13}, {}, {}}},
		{"of eight, below 0", make([][]int, 8), -8, [][]int{{-8}, {}, {}, {}, {}, {}, {}, {}}},
		{"of eight, all others full", besideFull(nil), -9, besideFull([]int{-9})},
		{"of eight, all others full, between", besideFull([]int{-9, 7}), -1, besideFull([]int{-9, -1, 7})},
	} {
		checkSetAdd(t, c.name, c.s, c.x, c.want, setDone)
		checkNotAdded(t, c.name+", again", c.want, c.x, setHas)
	}
}

// Where a bucket has BucketMost values, one doubling makes room, or more are needed.
func TestSetAddDoubles(t *testing.T) {
	for _, c := range []struct {
		name string
		s    [][]int
		x    int
		want [][]int
	}{
		{"one to two", [][]int{{1, 2, 3}}, 4, [][]int{{2, 4}, {1, 3}}},
		{"one to two, ahead", [][]int{{1, 2, 3}}, 0, [][]int{{0, 2}, {1, 3}}},
		{"one to two, below 0", [][]int{{-3, -2, -1}}, -4, [][]int{{-4, -2}, {-3, -1}}},
		{"one to two, full then", [][]int{{1, 3, 4}}, 5, [][]int{{4}, {1, 3, 5}}},
		{"one to two, alone", [][]int{{1, 3, 5}}, 4, [][]int{{4}, {1, 3, 5}}},
		{"one to four", [][]int{{2, 4, 6}}, 8, [][]int{{4, 8}, {}, {2, 6}, {}}},
		{"one to four, below 0", [][]int{{-5, -3, -1}}, -7, [][]int{{}, {-7, -3}, {}, {-5, -1}}},
		{"one to four, full then", [][]int{{2, 6, 8}}, 10, [][]int{{8}, {}, {2, 6, 10}, {}}},
		{"one to eight", [][]int{{0, 4, 8}}, 12, [][]int{{0, 8}, {}, {}, {}, {4, 12}, {}, {}, {}}},
		{"one to eight, full then", [][]int{{-8, 0, 4}}, 8, [][]int{{-8, 0, 8}, {}, {}, {}, {4}, {}, {}, {}}},
		{"two to four", [][]int{{}, {1, 3, 5}}, 7, [][]int{{}, {1, 5}, {}, {3, 7}}},
		{"two to four, others too", [][]int{{0, 2, 4}, {1, 3, 5}}, 7, [][]int{{0, 4}, {1, 5}, {2}, {3, 7}}},
		{"two to eight", [][]int{{6}, {1, 5, 9}}, 13, [][]int{{}, {1, 9}, {}, {}, {}, {5, 13}, {6}, {}}},
		{"two to eight, below 0", [][]int{{-6}, {-7, -3, 1}}, 5, [][]int{{}, {-7, 1}, {-6}, {}, {}, {-3, 5}, {}, {}}},
		{"four to eight", [][]int{{}, {}, {2, 6, 10}, {3}}, 14, [][]int{{}, {}, {2, 10}, {3}, {}, {}, {6, 14}, {}}},
		{"four to eight, all full", brimful(4), 4, [][]int{{-8, 0, 8}, {-7, 1, 9}, {-6, 2, 10}, {-5, 3, 11}, {4}, {}, {}, {}}},
		{"at both ends", [][]int{{-top, 0, top}}, 1, [][]int{{-top, 0, top}, {1}}},
	} {
		checkSetAdd(t, c.name, c.s, c.x, c.want, setDone)
		checkNotAdded(t, c.name+", again", c.want, c.x, setHas)
	}
}

// Three values that share a bucket of eight share it however many there are: no doubling makes room beside them.
func TestSetAddWhereNoDoublingHelps(t *testing.T) {
	for _, many := range []int{1, 2, 4, 8} {
		for place := range 8 {
			three := bucketed(many, eights(place-8, 3)...)
			for _, x := range []int{place - 16, place + 16, place - 800, place + 800} {
				checkNotAdded(t, "no room", three, x, setFull)
			}
			for _, x := range eights(place-8, 3) {
				checkNotAdded(t, "no room, and it is there", three, x, setHas)
			}
			for x := -9; x < 9; x++ {
				if (x-place)%8 != 0 {
					want, _ := plainRoomy(many, append(eights(place-8, 3), x))
					checkSetAdd(t, "parted from three", three, x, want, setDone)
				}
			}
		}
	}
	checkNotAdded(t, "brimful", brimful(8), 16, setFull)
	checkNotAdded(t, "brimful, the last bucket", brimful(8), 23, setFull)
	checkNotAdded(t, "of two, others would be parted", [][]int{{0, 2, 4}, {1, 9, 17}}, 25, setFull)
	checkNotAdded(t, "below 0 and above it", [][]int{{-8, 0, 8}}, -16, setFull)
	checkNotAdded(t, "at the ends", [][]int{{-top, 0, top}}, 8, setFull)
}

// Of eights in one bucket, that many of which fall elsewhere from the first doubling on, or from a later one.
func TestSetAddDoublesAsOftenAsNeeded(t *testing.T) {
	for _, c := range []struct{ many, step, want int }{
		{1, 1, 2}, {1, 2, 4}, {1, 4, 8}, {2, 2, 4}, {2, 4, 8}, {4, 4, 8},
		{1, 3, 2}, {1, 6, 4}, {1, 12, 8}, {2, 6, 4}, {2, 12, 8}, {4, 12, 8},
	} {
		for first := -20; first <= 20; first++ {
			s := bucketed(c.many, first, first+c.step, first+2*c.step)
			want := bucketed(c.want, first, first+c.step, first+2*c.step, first+3*c.step)
			checkSetAdd(t, "doubled", s, first+3*c.step, want, setDone)
		}
	}
}

func TestSetDrop(t *testing.T) {
	for _, c := range []struct {
		name string
		s    [][]int
		x    int
		want [][]int
	}{
		{"the first", [][]int{{1, 2, 3}}, 1, [][]int{{2, 3}}},
		{"a middle one", [][]int{{1, 2, 3}}, 2, [][]int{{1, 3}}},
		{"the last", [][]int{{1, 2, 3}}, 3, [][]int{{1, 2}}},
		{"the first of two", [][]int{{-5, 7}}, -5, [][]int{{7}}},
		{"the last of two", [][]int{{-5, 7}}, 7, [][]int{{-5}}},
		{"the only one", [][]int{{4}}, 4, [][]int{{}}},
		{"0", [][]int{{-1, 0, 1}}, 0, [][]int{{-1, 1}}},
		{"the only one of a bucket", [][]int{{0, 2}, {-1}}, -1, [][]int{{0, 2}, {}}},
		{"the only one of all buckets", [][]int{{}, {}, {}, {3}}, 3, [][]int{{}, {}, {}, {}}},
		{"of four, below 0", [][]int{{}, {-7, -3, 1}, {2}, {}}, -3, [][]int{{}, {-7, 1}, {2}, {}}},
		{"of eight, the last", bucketed(8, 7, -1, 15, 0), 15, bucketed(8, 7, -1, 0)},
		{"at the lower end", [][]int{{-top, top}}, -top, [][]int{{top}}},
		{"at the upper end", [][]int{{-top, top}}, top, [][]int{{-top}}},
	} {
		checkSetDrop(t, c.name, c.s, c.x, c.want, setDone)
		checkSetDrop(t, c.name+", again", c.want, c.x, c.want, setNone)
	}
	for name, s := range goodSets() {
		for _, x := range []int{-1234, -100, 100, 1234} {
			checkSetDrop(t, name, s, x, s, setNone)
		}
	}
}

// Buckets stay as many as they are, also where all are empty then; what was doubled is not undone.
func TestSetDropKeepsBuckets(t *testing.T) {
	for name, s := range goodSets() {
		then := s
		for _, x := range slices.Concat(s...) {
			want, _ := plainSetDrop(then, x)
			checkSetDrop(t, name, then, x, want, setDone)
			then, _ = impl.SetDrop(then, x)
		}
		if !sameSet(then, make([][]int, len(s))) {
			t.Errorf("%s: %v\nall dropped: %v", name, s, then)
		}
	}
	s, _ := impl.SetAdd([][]int{{0, 4, 8}}, 12)
	for _, x := range []int{0, 4, 8, 12} {
		s, _ = impl.SetDrop(s, x)
	}
	checkSetAdd(t, "dropped to nothing", s, 4, bucketed(8, 4), setDone)
}

func TestSetList(t *testing.T) {
	checkSetList(t, "new", [][]int{{}})
	checkSetList(t, "one bucket", [][]int{{-5, 0, 7}}, -5, 0, 7)
	checkSetList(t, "of two", [][]int{{0, 2}, {-1, 1, 3}}, -1, 0, 1, 2, 3)
	checkSetList(t, "of two, below 0", [][]int{{-4, -2, 0}, {-5, -3, -1}}, -5, -4, -3, -2, -1, 0)
	checkSetList(t, "of four", [][]int{{8}, {-3}, {}, {-1, 3}}, -3, -1, 3, 8)
	checkSetList(t, "of eight", bucketed(8, 7, 0, -1, -9, 14), -9, -1, 0, 7, 14)
	checkSetList(t, "the ends", [][]int{{-top, top}, {-top + 1, top - 1}}, -top, -top+1, top-1, top)
	checkSetList(t, "brimful", brimful(8), row(-8, 24)...)
	for _, many := range []int{1, 2, 4, 8} {
		checkSetList(t, "empty", make([][]int, many))
	}
}

func TestSetJoin(t *testing.T) {
	for _, c := range []struct {
		name string
		a, b [][]int
		want [][]int
	}{
		{"nothing with nothing", [][]int{{}}, [][]int{{}}, [][]int{{}}},
		{"nothing of eight", [][]int{{}}, make([][]int, 8), [][]int{{}}},
		{"with nothing, of eight", make([][]int, 8), [][]int{{}}, make([][]int, 8)},
		{"nothing behind it", [][]int{{1, 2, 3}}, [][]int{{}, {}}, [][]int{{1, 2, 3}}},
		{"nothing ahead of it", [][]int{{}}, [][]int{{2}, {1, 3}}, [][]int{{1, 2, 3}}},
		{"nothing ahead of it, of two", [][]int{{}, {}}, [][]int{{1, 2, 3}}, [][]int{{2}, {1, 3}}},
		{"nothing ahead of brimful", [][]int{{}}, brimful(8), brimful(8)},
		{"of other buckets", [][]int{{1}}, [][]int{{0}, {3}}, [][]int{{0, 1, 3}}},
		{"both have one", [][]int{{1, 2}}, [][]int{{2}, {3}}, [][]int{{1, 2, 3}}},
		{"both have all", [][]int{{1, 2, 3}}, [][]int{{2}, {1, 3}}, [][]int{{1, 2, 3}}},
		{"both have all of a", [][]int{{2}}, [][]int{{2}, {1, 3}}, [][]int{{1, 2, 3}}},
		{"doubled", [][]int{{1, 2, 3}}, [][]int{{3, 4}}, [][]int{{2, 4}, {1, 3}}},
		{"doubled, then passed over", [][]int{{1, 2, 9}}, [][]int{{4, 9}}, [][]int{{2, 4}, {1, 9}}},
		{"doubled twice", [][]int{{0, 2, 4}}, [][]int{{6}}, [][]int{{0, 4}, {}, {2, 6}, {}}},
		{"doubled one by one", [][]int{{0, 1, 2}}, [][]int{{4}, {}, {6}, {}}, [][]int{{0, 4}, {1}, {2, 6}, {}}},
		{"doubled to eight", [][]int{{0, 1, 4}}, [][]int{{8}, {5}, {}, {}}, [][]int{{0, 4, 8}, {1, 5}}},
		{"below 0", [][]int{{-1}}, [][]int{{}, {-3}, {-2}, {}}, [][]int{{-3, -2, -1}}},
		{"a of eight stays so", bucketed(8, 5), [][]int{{4, 6, 7}}, bucketed(8, 4, 5, 6, 7)},
	} {
		checkSetJoin(t, c.name, c.a, c.b, c.want, setDone)
		checkSetJoin(t, c.name+", again", c.want, c.b, c.want, setDone)
	}
	for name, s := range goodSets() {
		checkSetJoin(t, name+", with itself", s, s, s, setDone)
		checkSetJoin(t, name+", with itself in other memory", s, cloneSet(s), s, setDone)
		checkSetJoin(t, name+", with nothing", s, [][]int{{}}, s, setDone)
	}
}

// One value of b that does not come in leaves a as it was, whatever came in ahead of it, and however often a doubled for it.
func TestSetJoinAllOrNothing(t *testing.T) {
	checkNotJoined(t, "the only one", [][]int{{0, 8, 16}}, [][]int{{24}}, setFull)
	checkNotJoined(t, "the first one", [][]int{{0, 8, 16}}, bucketed(2, -8, 1, 2), setFull)
	checkNotJoined(t, "the last one", [][]int{{0, 8, 16}}, bucketed(2, -1, 1, 24), setFull)
	checkNotJoined(t, "between others", [][]int{{0, 8, 16}}, bucketed(2, -1, 24, 25), setFull)
	checkNotJoined(t, "behind one that is there", [][]int{{0, 8, 16}}, bucketed(2, 8, 16, 24), setFull)
	checkNotJoined(t, "behind one that came in", [][]int{{0, 8}}, [][]int{{16, 24}}, setFull)
	checkNotJoined(t, "behind doubling", [][]int{{0, 1, 8}}, bucketed(4, 2, 4, 6, 16, 24), setFull)
	checkNotJoined(t, "of b's own three and one of a", [][]int{{0}}, [][]int{{8, 16, 24}}, setFull)
	checkNotJoined(t, "brimful and one more", brimful(8), [][]int{{23}}, setFull)
	checkNotJoined(t, "brimful, others are there", brimful(8), bucketed(8, -8, 0, 8, 23), setFull)
	checkNotJoined(t, "into nothing of eight, with a", bucketed(8, 23), brimful(8), setFull)
	for name, s := range goodSets() {
		for place := range 8 {
			three := bucketed(8, eights(place+80, 3)...)
			if len(s) == mostBuckets && len(s[place]) > 0 {
				checkNotJoined(t, name, s, three, setFull)
				checkNotJoined(t, name, three, s, setFull)
			}
		}
	}
}

func TestSetSame(t *testing.T) {
	for _, values := range [][]int{{}, {0}, {-1}, {4, 5}, {-3, 2, 7}, {-top, 0, top}, {1, 3, 5}} {
		for _, many := range []int{1, 2, 4, 8} {
			for _, other := range []int{1, 2, 4, 8} {
				a, b := bucketed(many, values...), bucketed(other, values...)
				checkSetSame(t, "the same", a, b, true)
				checkSetSame(t, "one more", a, bucketed(8, append([]int{99}, values...)...), false)
				if len(values) > 0 {
					checkSetSame(t, "one less", a, bucketed(other, values[1:]...), false)
					checkSetSame(t, "the last less", a, bucketed(other, values[:len(values)-1]...), false)
					checkSetSame(t, "one other", a, bucketed(other, append([]int{98}, values[1:]...)...), false)
				}
			}
		}
	}
	checkSetSame(t, "in other buckets", [][]int{{1, 2}}, [][]int{{2}, {1}}, true)
	checkSetSame(t, "many", brimful(4), bucketed(8, slices.Concat(brimful(4)...)...), true)
	checkSetSame(t, "both are as bad", [][]int{{1, 1}}, [][]int{{1, 1}}, false)
	checkSetSame(t, "both are nothing", nil, nil, false)
	checkSetSame(t, "nothing and empty", nil, [][]int{{}}, false)
}

func TestSetsOfGoodSets(t *testing.T) {
	for name, s := range goodSets() {
		for x := -20; x <= 20; x++ {
			checkPlainSet(t, name, s, x)
		}
		for other, b := range goodSets() {
			checkPlainSets(t, name+" with "+other, s, b)
		}
	}
}

// Each value of each good set is changed to each edge, and to each number about it: sets and others.
func TestSetsOverEdges(t *testing.T) {
	for name, s := range goodSets() {
		for place, bucket := range s {
			for at, was := range bucket {
				for _, number := range append(oddNumbers(), was-8, was-1, was+1, was+8) {
					changed := withSet(s, func(s [][]int) { s[place][at] = number })
					checkPlainSet(t, name, changed, number, was, 1, -6)
					checkPlainSets(t, name, s, changed)
				}
			}
		}
	}
}

// setKey tells sets apart.
func setKey(s [][]int) string {
	return fmt.Sprint(s)
}

// reachedSets are all to which one comes from a new set by adding and dropping these values, each once.
func reachedSets(values []int) [][][]int {
	seen := map[string]bool{}
	var list [][][]int
	work := [][][]int{impl.NewSet()}
	for len(work) > 0 {
		s := work[0]
		work = work[1:]
		if seen[setKey(s)] {
			continue
		}
		seen[setKey(s)] = true
		list = append(list, s)
		for _, x := range values {
			added, _ := impl.SetAdd(s, x)
			dropped, _ := impl.SetDrop(s, x)
			work = append(work, added, dropped)
		}
	}
	return list
}

// plainReached counts them by what buckets hold: there are as many buckets as some of these values need, and, as any can be
// dropped again, with so many buckets all sets that have room in them.
func plainReached(values []int) int {
	var reached [mostBuckets + 1]bool
	var roomy [mostBuckets + 1]int
	for some := range 1 << len(values) {
		var list []int
		for i, x := range values {
			if some>>i&1 == 1 {
				list = append(list, x)
			}
		}
		if s, ok := plainRoomy(1, list); ok {
			reached[len(s)] = true
		}
		for _, many := range []int{1, 2, 4, 8} {
			if s, ok := plainRoomy(many, list); ok && len(s) == many {
				roomy[many]++
			}
		}
	}
	sets := 0
	for many, isReached := range reached {
		if isReached {
			sets += roomy[many]
		}
	}
	return sets
}

// Promise 16, in all ways in which six values can be added and dropped: each set to which one comes is gone through once, and
// with each other one.
func TestAllWaysOfSixValues(t *testing.T) {
	for _, values := range [][]int{
		{-8, 0, 8, 4, 2, 1},
		{-8, 0, 8, 16, 4, 1},
		{-3, -2, -1, 0, 1, 2},
		{-16, -8, 0, 8, 16, 24},
		{-4, 0, 4, 8, 2, 6},
	} {
		list := reachedSets(values)
		if want := plainReached(values); len(list) != want {
			t.Error(values, "sets gone through:", len(list), "not", want)
		}
		for _, s := range list {
			checkPlainSet(t, "reached", s, append(values, 3, 32)...)
			checkSetOk(t, "reached", s, true)
			for _, other := range list {
				checkPlainSets(t, "both reached", s, other)
			}
		}
	}
}

// setValue is the value of a step in a long row: by the seed such that some buckets get full soon, or values lie all over.
func setValue(seed int, step int) int {
	mixed := seed*7919 + step*step*(seed+3)/5 + step/(1+seed%5)
	switch seed % 4 {
	case 0:
		return mixed%31 - 15
	case 1:
		return mixed % 7 * 4
	case 2:
		return (mixed%13 - 6) * 2
	}
	return (mixed%23 - 11) * (top / 11)
}

// Promise 16, over long rows of adds and drops beside a set of the language: it has what was added and not dropped, and what
// is refused changes nothing.
func TestSetsBesideMaps(t *testing.T) {
	codes := map[string]int{}
	for seed := range 80 {
		s := impl.NewSet()
		known := map[int]bool{}
		for step := range 200 {
			x := setValue(seed, step)
			was, deed, code := cloneSet(s), "add", 0
			if (seed+step)*step%3 == 0 {
				deed = "drop"
				s, code = impl.SetDrop(s, x)
			} else {
				s, code = impl.SetAdd(s, x)
			}
			codes[fmt.Sprint(deed, " ", code)]++
			if code != setDone && !sameSet(s, was) {
				t.Fatalf("refused by %d: %v\nwas %v", code, s, was)
			}
			if (code == setHas) != (deed == "add" && known[x]) || (code == setNone) != (deed == "drop" && !known[x]) {
				t.Fatalf("%s of %d: %d: %v", deed, x, code, was)
			}
			if code == setDone {
				known[x] = deed == "add"
			}
			checkKnownValues(t, s, known)
		}
	}
	for _, name := range []string{"add 0", "add 2", "add 3", "drop 0", "drop 4"} {
		if codes[name] < 100 {
			t.Error("only", codes, "of", name)
		}
	}
}

// checkKnownValues asks that a set has each value that is known, once, in order, and tells of all that were ever there.
func checkKnownValues(t *testing.T, s [][]int, known map[int]bool) {
	t.Helper()
	var want []int
	for x, isThere := range known {
		checkSetHas(t, "beside a map", s, x, isThere)
		if isThere {
			want = append(want, x)
		}
	}
	slices.Sort(want)
	checkSetOk(t, "beside a map", s, true)
	checkSetList(t, "beside a map", s, want...)
}

// Doubling changes no answer: what is told of a set is told of the one with the same values in more buckets.
func TestDoublingChangesNoAnswer(t *testing.T) {
	for name, s := range goodSets() {
		values := slices.Concat(s...)
		for many := len(s); many <= mostBuckets; many *= 2 {
			other := bucketed(many, values...)
			checkSetSame(t, name, s, other, true)
			if !slices.Equal(impl.SetList(s), impl.SetList(other)) {
				t.Errorf("%s: listed %v and %v", name, impl.SetList(s), impl.SetList(other))
			}
			for x := -30; x <= 30; x++ {
				added, code := impl.SetAdd(s, x)
				more, told := impl.SetAdd(other, x)
				if impl.SetHas16(s, x) != impl.SetHas16(other, x) || code != told || !impl.SetSame(added, more) {
					t.Errorf("%s, of %d: %d: %v %d, %v %d", name, many, x, added, code, more, told)
				}
				dropped, code := impl.SetDrop(s, x)
				less, told := impl.SetDrop(other, x)
				if code != told || !impl.SetSame(dropped, less) {
					t.Errorf("%s, of %d: not %d: %v %d, %v %d", name, many, x, dropped, code, less, told)
				}
			}
		}
	}
}

// A join is its adds one at a time, in whatever order.
func TestSetJoinIsAdds(t *testing.T) {
	for name, a := range goodSets() {
		for other, b := range goodSets() {
			upwards := impl.SetList(b)
			downwards := slices.Clone(upwards)
			slices.Reverse(downwards)
			joined, code := impl.SetJoin(a, b)
			for _, list := range [][]int{upwards, downwards} {
				then, want := a, setDone
				for _, x := range list {
					next, told := impl.SetAdd(then, x)
					if told == setFull {
						then, want = a, setFull
						break
					}
					then = next
				}
				if !sameSet(joined, then) || code != want {
					t.Errorf("%s, %s: %v %d, not %v %d", name, other, joined, code, then, want)
				}
			}
		}
	}
}

// guardedSet is a set behind whose list of buckets, and behind each of whose buckets, there is what nobody may touch.
type guardedSet struct {
	whole   [][]int
	many    int
	buckets []guarded[int]
}

// behindBucket would be a further value of the bucket, were it read.
func behindBucket(place int) int {
	return 800 + place
}

func guardSet(s [][]int) guardedSet {
	g := guardedSet{many: len(s)}
	for place, bucket := range append(cloneSet(s), []int{5}, []int{6}) {
		one := guard(bucket, behindBucket(place))
		g.buckets = append(g.buckets, one)
		g.whole = append(g.whole, one.list())
	}
	return g
}

func (g guardedSet) set() [][]int {
	return g.whole[:g.many]
}

func (g guardedSet) check(t *testing.T, name string) {
	t.Helper()
	for place, one := range g.buckets {
		one.check(t, name)
		if now := g.whole[place]; len(now) != one.many || cap(now) == 0 || &now[:1][0] != &one.whole[0] {
			t.Errorf("%s: at %d there is another bucket: %v", name, place, now)
		}
	}
}

// setAnswers are the sets that all functions answer with, done or refused; those that answer none are called, too.
func setAnswers(a [][]int, b [][]int) [][][]int {
	impl.SetOk(a)
	impl.SetSame(a, b)
	list := [][][]int{{impl.SetList(a)}}
	for _, x := range append(oddNumbers(), 4, 5, 7, 16, 24) {
		impl.SetHas16(a, x)
		added, _ := impl.SetAdd(a, x)
		dropped, _ := impl.SetDrop(a, x)
		list = append(list, added, dropped)
	}
	joined, _ := impl.SetJoin(a, b)
	other, _ := impl.SetJoin(b, a)
	self, _ := impl.SetJoin(a, a)
	return append(list, joined, other, self)
}

// overwriteSet changes one bucket after the other, with its spare room, and asks that the others stay as they were; then the
// list of them.
func overwriteSet(t *testing.T, name string, s [][]int) {
	t.Helper()
	was := cloneSet(s)
	for place := range s {
		overwrite(s[place], -7)
		was[place] = slices.Clone(s[place])
		if !sameSet(s, was) {
			t.Errorf("%s: two buckets of one answer share memory", name)
		}
	}
	s = s[:cap(s)]
	for place := range s {
		s[place] = []int{-7}
	}
}

func everySet() map[string][][]int {
	all := goodSets()
	maps.Copy(all, badSets())
	return all
}

// Promise 19: nothing is written into an argument, nor behind it; every answer is new memory, also where the set comes back as
// it was, and no two buckets of it share any.
func TestSetsWriteNothingAndShareNothing(t *testing.T) {
	for name, plain := range everySet() {
		for other, one := range map[string][][]int{"with one more": {{9}}, "with many": brimful(4), "with bad": {{1}, {1}}} {
			g, beside := guardSet(plain), guardSet(one)
			answers, again := setAnswers(g.set(), beside.set()), setAnswers(g.set(), beside.set())
			for _, then := range answers {
				overwriteSet(t, name+" "+other, then)
				g.check(t, name+" "+other)
				beside.check(t, name+" "+other)
			}
			if !slices.EqualFunc(again, setAnswers(plain, one), sameSet) {
				t.Errorf("%s %s: an answer is kept", name, other)
			}
		}
	}
}

// Buckets of an argument that share memory, be they one and the same, share none in the answer.
func TestSetsPartSharedBuckets(t *testing.T) {
	memory := []int{0, 2, 4, 1, 3, 5, 800}
	for name, s := range map[string][][]int{
		"side by side": {memory[0:3], memory[3:6]},
		"twice":        {memory[0:3], memory[0:3]},
		"one in two":   {memory[0:2], memory[1:4]},
		"empty ones":   {memory[0:0], memory[0:0], memory[6:6], memory[7:]},
	} {
		was := slices.Clone(memory)
		for _, then := range setAnswers(s, s) {
			overwriteSet(t, name, then)
		}
		if !slices.Equal(memory, was) {
			t.Errorf("%s: written into: %v", name, memory)
		}
	}
}

// What lies behind a list's length is not handed out, also not as spare room of an answer.
func TestSetsHandOutNothingBehind(t *testing.T) {
	for name, plain := range everySet() {
		for _, then := range setAnswers(guardSet(plain).set(), guardSet([][]int{{3, 9}}).set()) {
			for _, bucket := range spare(then) {
				if bucket != nil {
					t.Errorf("%s: behind the buckets: %v", name, bucket)
				}
			}
			for place, bucket := range then {
				for _, number := range spare(bucket) {
					if number != 0 {
						t.Errorf("%s: behind the bucket %d: %d", name, place, number)
					}
				}
			}
		}
	}
}

// Promise 19: whatever the arguments are, there is an answer, and it is kept nowhere.
func TestSetsOfOddArguments(t *testing.T) {
	kept := bucketed(4, 4, 8, -3, 6, 11)
	for _, number := range oddNumbers() {
		for _, other := range oddNumbers() {
			for _, s := range [][][]int{
				{{number}},
				{{number, other}},
				{{other}, {number}},
				{{}, {-1, number, other}},
				{{number}, {other}, {number}, {other}},
				{{number, other, 5}, {}, {}, {}, {}, {other}, {}, {number}},
				alike([]int{number, other}, 8),
				alike([]int{number}, 9),
				append(cloneSet(kept)[:3:3], []int{number, other}),
			} {
				checkPlainSet(t, "odd", s, number, other, 4)
				checkPlainSets(t, "odd", s, kept)
				checkPlainSets(t, "odd", s, s)
			}
		}
		checkPlainSet(t, "behind odd", kept, number)
	}
	checkPlainSet(t, "very many buckets", make([][]int, 100000), 0, 1)
	checkPlainSet(t, "a very long bucket", [][]int{row(0, 100000)}, 0, -1)
}
