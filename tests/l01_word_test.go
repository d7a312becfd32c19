package tests

import (
	"math"
	"slices"
	"testing"

	"loop.example/g00087/impl"
)

const top = 1000000000

func TestLimitsOfWords(t *testing.T) {
	if impl.MaxWords != 40 || impl.MaxWordOps != 200 || impl.MaxValue != top {
		t.Error(impl.MaxWords, impl.MaxWordOps, impl.MaxValue)
	}
	kinds := []int{impl.OpLoad, impl.OpStore, impl.OpSwap, impl.OpSwapIf, impl.OpAdd}
	if !slices.Equal(kinds, []int{1, 2, 3, 4, 5}) {
		t.Error(kinds)
	}
}

func TestMemoryOk(t *testing.T) {
	for _, c := range []struct {
		name string
		m    []int
		want bool
	}{
		{"nil", nil, true},
		{"empty", []int{}, true},
		{"one word", []int{7}, true},
		{"values at both limits", []int{-top, top, 0}, true},
		{"above", []int{top + 1}, false},
		{"below", []int{0, -top - 1}, false},
		{"greatest number", []int{math.MaxInt}, false},
		{"least number", []int{0, 0, math.MinInt}, false},
		{"just as many words as allowed", alike(top, 40), true},
		{"one word more", alike(0, 41), false},
		{"last of the most words is none", append(alike(0, 39), top+1), false},
	} {
		if got := impl.MemoryOk(c.m); got != c.want {
			t.Errorf("%s: %v", c.name, got)
		}
	}
}

func TestWordDoes(t *testing.T) {
	for _, c := range []struct {
		name string
		m    []int
		op   impl.WordOp
		then []int
		told int
	}{
		{"load", []int{3, 5}, impl.WordOp{Kind: 1, At: 1}, []int{3, 5}, 5},
		{"load looks at neither value", []int{3, 5}, impl.WordOp{Kind: 1, Old: top + 1, New: math.MinInt}, []int{3, 5}, 3},
		{"store tells New", []int{3, 5}, impl.WordOp{Kind: 2, At: 0, New: 9}, []int{9, 5}, 9},
		{"store looks at no Old", []int{3}, impl.WordOp{Kind: 2, Old: math.MaxInt, New: -top}, []int{-top}, -top},
		{"swap tells what was", []int{3, 5}, impl.WordOp{Kind: 3, At: 1, New: 8}, []int{3, 8}, 5},
		{"swap looks at no Old", []int{3}, impl.WordOp{Kind: 3, Old: -top - 1, New: top}, []int{top}, 3},
		{"swap if, where it is Old", []int{3, 5}, impl.WordOp{Kind: 4, At: 1, Old: 5, New: 7}, []int{3, 7}, 5},
		{"swap if, where it is another", []int{3, 5}, impl.WordOp{Kind: 4, At: 1, Old: 3, New: 7}, []int{3, 5}, 5},
		{"swap if, where it is New", []int{3, 5}, impl.WordOp{Kind: 4, At: 1, Old: 3, New: 5}, []int{3, 5}, 5},
		{"swap if, with values at the limits", []int{-top}, impl.WordOp{Kind: 4, Old: -top, New: top}, []int{top}, -top},
		{"add tells the sum", []int{3, 5}, impl.WordOp{Kind: 5, At: 0, New: -4}, []int{-1, 5}, -1},
		{"add looks at no Old", []int{3}, impl.WordOp{Kind: 5, Old: top + 1, New: 1}, []int{4}, 4},
		{"add meets the upper limit", []int{top - 1}, impl.WordOp{Kind: 5, New: 1}, []int{top}, top},
		{"add meets the lower limit", []int{1 - top}, impl.WordOp{Kind: 5, New: -1}, []int{-top}, -top},
		{"add goes from limit to limit", []int{-top}, impl.WordOp{Kind: 5, New: top}, []int{0}, 0},
		{"the last place of the most words", alike(4, 40), impl.WordOp{Kind: 2, At: 39, New: 6}, append(alike(4, 39), 6), 6},
	} {
		m, told, ok := impl.Word(c.m, c.op)
		if !ok || told != c.told || !slices.Equal(m, c.then) {
			t.Errorf("%s: %v %d %v", c.name, m, told, ok)
		}
	}
}

func TestWordRefuses(t *testing.T) {
	for _, c := range []struct {
		name string
		m    []int
		op   impl.WordOp
	}{
		{"kind 0", []int{3}, impl.WordOp{}},
		{"kind 6", []int{3}, impl.WordOp{Kind: 6}},
		{"kind -1", []int{3}, impl.WordOp{Kind: -1}},
		{"place below 0", []int{3}, impl.WordOp{Kind: 1, At: -1}},
		{"place behind the end", []int{3, 5}, impl.WordOp{Kind: 2, At: 2}},
		{"greatest place", []int{3, 5}, impl.WordOp{Kind: 3, At: math.MaxInt}},
		{"least place", []int{3, 5}, impl.WordOp{Kind: 4, At: math.MinInt}},
		{"no place at all", nil, impl.WordOp{Kind: 5}},
		{"store above", []int{3}, impl.WordOp{Kind: 2, New: top + 1}},
		{"store below", []int{3}, impl.WordOp{Kind: 2, New: -top - 1}},
		{"swap above", []int{3}, impl.WordOp{Kind: 3, New: top + 1}},
		{"swap below", []int{3}, impl.WordOp{Kind: 3, New: -top - 1}},
		{"swap if, New above", []int{3}, impl.WordOp{Kind: 4, Old: 3, New: top + 1}},
		{"swap if, New below, where it is another", []int{3}, impl.WordOp{Kind: 4, Old: 4, New: -top - 1}},
		{"swap if, Old above", []int{3}, impl.WordOp{Kind: 4, Old: top + 1, New: 3}},
		{"swap if, Old below", []int{3}, impl.WordOp{Kind: 4, Old: -top - 1, New: 3}},
		{"add of what is no value", []int{-5}, impl.WordOp{Kind: 5, New: top + 1}},
		{"add of what is no value, below", []int{5}, impl.WordOp{Kind: 5, New: -top - 1}},
		{"add of the greatest number", []int{top}, impl.WordOp{Kind: 5, New: math.MaxInt}},
		{"add passes the upper limit", []int{top}, impl.WordOp{Kind: 5, New: 1}},
		{"add passes the lower limit", []int{-top}, impl.WordOp{Kind: 5, New: -1}},
		{"memory of too many words", alike(0, 41), impl.WordOp{Kind: 1}},
		{"memory with what is no value", []int{1, top + 1}, impl.WordOp{Kind: 1}},
		{"store over what is no value", []int{top + 1}, impl.WordOp{Kind: 2}},
	} {
		was := slices.Clone(c.m)
		m, told, ok := impl.Word(c.m, c.op)
		if ok || told != 0 || !slices.Equal(m, was) {
			t.Errorf("%s: %v %d %v", c.name, m, told, ok)
		}
	}
}

// Promise 1: a swap that tells Old has swapped, and one that tells another word has not; ops change no other word.
func TestWordOverAllArguments(t *testing.T) {
	numbers := []int{math.MinInt, -top - 1, -top, -1, 0, 2, 3, top, top + 1, math.MaxInt}
	memories := [][]int{nil, {3}, {-top, 2, top}, {0, -top - 1}, alike(2, 41)}
	for _, m := range memories {
		for kind := -1; kind <= 6; kind++ {
			for _, at := range numbers {
				for _, old := range numbers {
					for _, new := range numbers {
						checkWord(t, m, impl.WordOp{Kind: kind, At: at, Old: old, New: new})
					}
				}
			}
		}
	}
}

func checkWord(t *testing.T, m []int, op impl.WordOp) {
	t.Helper()
	then, told, ok := impl.Word(m, op)
	if !ok {
		if told != 0 || !slices.Equal(then, m) {
			t.Fatal("refused, and yet", m, op, then, told)
		}
		return
	}
	if !impl.MemoryOk(then) || len(then) != len(m) {
		t.Fatal("no memory", m, op, then)
	}
	for i := range m {
		if i != op.At && then[i] != m[i] {
			t.Fatal("another word", m, op, then)
		}
	}
	if op.Kind != impl.OpSwapIf {
		return
	}
	want := m[op.At]
	if told != want {
		t.Fatal("told", m, op, told)
	}
	if told == op.Old {
		want = op.New
	}
	if then[op.At] != want {
		t.Fatal("swapped", m, op, then)
	}
}

func TestWords(t *testing.T) {
	ops := []impl.WordOp{
		{Kind: 2, At: 0, New: 6}, {Kind: 5, At: 0, New: 4}, {Kind: 3, At: 1, New: -2},
		{Kind: 4, At: 1, Old: -2, New: 0}, {Kind: 4, At: 1, Old: 7, New: 1}, {Kind: 1, At: 0},
	}
	m, told, all := impl.Words([]int{3, 5}, ops)
	if !all || !slices.Equal(told, []int{6, 10, 5, -2, 0, 10}) || !slices.Equal(m, []int{10, 0}) {
		t.Error(m, told, all)
	}
}

func TestWordsGoOnBehindARefusedOne(t *testing.T) {
	ops := []impl.WordOp{{Kind: 5, New: 1}, {Kind: 2, New: 8}, {Kind: 9}, {Kind: 1, At: 1}, {Kind: 5, New: -1}}
	m, told, all := impl.Words([]int{top}, ops)
	if all || !slices.Equal(told, []int{0, 8, 0, 0, 7}) || !slices.Equal(m, []int{7}) {
		t.Error(m, told, all)
	}
	m, told, all = impl.Words([]int{4}, []impl.WordOp{{Kind: 1}, {Kind: 1, At: -1}})
	if all || !slices.Equal(told, []int{4, 0}) || !slices.Equal(m, []int{4}) {
		t.Error("the last one refused:", m, told, all)
	}
}

func TestWordsMany(t *testing.T) {
	m, told, all := impl.Words([]int{0}, alike(impl.WordOp{Kind: 5, New: 1}, 200))
	if !all || len(told) != 200 || told[0] != 1 || told[199] != 200 || !slices.Equal(m, []int{200}) {
		t.Error("just as many as allowed:", m, told, all)
	}
	m, told, all = impl.Words([]int{0}, alike(impl.WordOp{Kind: 5, New: 1}, 201))
	if all || len(told) != 0 || !slices.Equal(m, []int{0}) {
		t.Error("one more:", m, told, all)
	}
}

func TestWordsOfNoOpsOrNoMemory(t *testing.T) {
	if m, told, all := impl.Words([]int{4}, nil); !all || len(told) != 0 || !slices.Equal(m, []int{4}) {
		t.Error("no ops:", m, told, all)
	}
	bad := []int{4, top + 1}
	if m, told, all := impl.Words(bad, alike(impl.WordOp{Kind: 1}, 2)); all || !slices.Equal(told, []int{0, 0}) || !slices.Equal(m, bad) {
		t.Error("no memory:", m, told, all)
	}
	if m, told, all := impl.Words(bad, alike(impl.WordOp{Kind: 2, At: 1}, 1)); all || !slices.Equal(told, []int{0}) || !slices.Equal(m, bad) {
		t.Error("what is no value is not mended:", m, told, all)
	}
	// Where there is no op, all were true, whatever the memory.
	if m, told, all := impl.Words(bad, nil); !all || len(told) != 0 || !slices.Equal(m, bad) {
		t.Error("neither:", m, told, all)
	}
}

func TestSwapAllSwaps(t *testing.T) {
	var places, olds, news []int
	for i := range 40 {
		places, olds, news = append(places, 39-i), append(olds, 39-i), append(news, top-i)
	}
	full := slices.Sorted(slices.Values(olds))
	for _, c := range []struct {
		name         string
		m            []int
		at, old, new []int
		then         []int
	}{
		{"two of three", []int{1, 2, 3}, []int{2, 0}, []int{3, 1}, []int{8, 9}, []int{9, 2, 8}},
		{"nothing", []int{1}, nil, []int{}, nil, []int{1}},
		{"nothing of nothing", nil, nil, nil, nil, nil},
		{"limits", []int{-top, top}, []int{0, 1}, []int{-top, top}, []int{top, -top}, []int{top, -top}},
		{"all words", full, places, olds, news, slices.Sorted(slices.Values(news))},
	} {
		m, ok := impl.SwapAll(c.m, c.at, c.old, c.new)
		if !ok || !slices.Equal(m, c.then) {
			t.Errorf("%s: %v %v", c.name, m, ok)
		}
	}
}

// Promise 1: many words are swapped all or none.
func TestSwapAllRefuses(t *testing.T) {
	for _, c := range []struct {
		name         string
		m            []int
		at, old, new []int
	}{
		{"the first is another", []int{1, 2}, []int{0, 1}, []int{9, 2}, []int{5, 6}},
		{"the last is another", []int{1, 2}, []int{0, 1}, []int{1, 9}, []int{5, 6}},
		{"too few places", []int{1, 2}, []int{0}, []int{1, 2}, []int{5, 6}},
		{"too few old", []int{1, 2}, []int{0, 1}, []int{1}, []int{5, 6}},
		{"too few new", []int{1, 2}, []int{0, 1}, []int{1, 2}, []int{5}},
		{"more old", []int{1, 2}, []int{0}, []int{1, 2}, []int{5}},
		{"more new", []int{1, 2}, []int{0}, []int{1}, []int{5, 6}},
		{"no places", []int{1, 2}, nil, []int{1}, []int{5}},
		{"place below 0", []int{1, 2}, []int{0, -1}, []int{1, 2}, []int{5, 6}},
		{"place behind the end", []int{1, 2}, []int{0, 2}, []int{1, 0}, []int{5, 6}},
		{"greatest place", []int{1, 2}, []int{0, math.MaxInt}, []int{1, 0}, []int{5, 6}},
		{"least place", []int{1, 2}, []int{math.MinInt, 0}, []int{0, 1}, []int{5, 6}},
		{"a place stands twice", []int{1, 2}, []int{0, 0}, []int{1, 1}, []int{5, 5}},
		{"a place stands twice, apart", []int{1, 2}, []int{1, 0, 1}, []int{2, 1, 2}, []int{5, 6, 7}},
		{"a place stands twice, for what it then is", []int{1}, []int{0, 0}, []int{1, 2}, []int{2, 3}},
		{"more places than words allowed", alike(0, 40), alike(0, 41), alike(0, 41), alike(1, 41)},
		{"old is no value", []int{1, 2}, []int{0, 1}, []int{1, top + 1}, []int{5, 6}},
		{"old is no value, below", []int{1, 2}, []int{0, 1}, []int{-top - 1, 2}, []int{5, 6}},
		{"new is no value", []int{1, 2}, []int{0, 1}, []int{1, 2}, []int{5, top + 1}},
		{"new is no value, below", []int{1, 2}, []int{0, 1}, []int{1, 2}, []int{-top - 1, 6}},
		{"no word", nil, []int{0}, []int{0}, []int{0}},
		{"memory of too many words", alike(0, 41), []int{0}, []int{0}, []int{5}},
		{"memory of too many words, nothing to swap", alike(0, 41), nil, nil, nil},
		{"memory with what is no value", []int{1, top + 1}, []int{0}, []int{1}, []int{5}},
		{"memory with what is no value, swapped", []int{top + 1}, []int{0}, []int{top + 1}, []int{5}},
	} {
		was := slices.Clone(c.m)
		m, ok := impl.SwapAll(c.m, c.at, c.old, c.new)
		if ok || !slices.Equal(m, was) {
			t.Errorf("%s: %v %v", c.name, m, ok)
		}
	}
}

func TestMerged(t *testing.T) {
	a := []impl.WordOp{{At: 1}, {At: 2}, {At: 3}}
	b := []impl.WordOp{{At: 7}, {At: 8}}
	for _, c := range []struct {
		name  string
		a, b  []impl.WordOp
		turns []bool
		want  []int
	}{
		{"no turns: a, then b", a, b, nil, []int{1, 2, 3, 7, 8}},
		{"about and about", a, b, []bool{true, false, true, false, false}, []int{7, 1, 8, 2, 3}},
		{"false is a's", a, b, []bool{false, true}, []int{1, 7, 2, 3, 8}},
		{"none left of b", a, b, []bool{true, true, true, false}, []int{7, 8, 1, 2, 3}},
		{"none left of a", a, b, []bool{false, false, false, false}, []int{1, 2, 3, 7, 8}},
		{"behind the turns a, then b", a, b, []bool{true}, []int{7, 1, 2, 3, 8}},
		{"turns behind the last op", a, b, alike(true, 50), []int{7, 8, 1, 2, 3}},
		{"no a", nil, b, []bool{false, true, false}, []int{7, 8}},
		{"no b", a, nil, []bool{true, true, false, true}, []int{1, 2, 3}},
		{"neither", nil, nil, []bool{true, false}, nil},
		{"nothing at all", nil, nil, nil, nil},
	} {
		var got []int
		for _, op := range impl.Merged(c.a, c.b, c.turns) {
			got = append(got, op.At)
		}
		if !slices.Equal(got, c.want) {
			t.Errorf("%s: %v", c.name, got)
		}
	}
}

// Merged asks neither what the ops are nor how many: what is none comes through as it is.
func TestMergedTakesAnyOps(t *testing.T) {
	odd := impl.WordOp{Kind: -9, At: math.MinInt, Old: math.MaxInt, New: top + 1}
	even := impl.WordOp{Kind: 77, At: 41, Old: -top - 1, New: 5}
	got := impl.Merged(alike(odd, 250), alike(even, 250), alike(true, 1000))
	if !slices.Equal(got, append(alike(even, 250), alike(odd, 250)...)) {
		t.Error(len(got))
	}
}

// Promise 1: merged ops are all there, each thread's in its order, and come as the turns say.
func TestMergedOverAllTurns(t *testing.T) {
	for manyA := range 4 {
		for manyB := range 4 {
			var a, b []impl.WordOp
			for i := range manyA {
				a = append(a, impl.WordOp{Kind: 1, At: i, Old: 4, New: 5})
			}
			for i := range manyB {
				b = append(b, impl.WordOp{Kind: 2, At: i, Old: 6, New: 7})
			}
			for many := range 8 {
				for _, turns := range turnLists(many) {
					checkMerged(t, a, b, turns)
				}
			}
		}
	}
}

func checkMerged(t *testing.T, a []impl.WordOp, b []impl.WordOp, turns []bool) {
	t.Helper()
	got := impl.Merged(a, b, turns)
	var fromA, fromB []impl.WordOp
	for place, op := range got {
		ofB := op.Kind == 2
		left := len(fromA) < len(a) && len(fromB) < len(b)
		if left && place < len(turns) && ofB != turns[place] || left && place >= len(turns) && ofB {
			t.Fatal("turn", place, a, b, turns, got)
		}
		if ofB {
			fromB = append(fromB, op)
		} else {
			fromA = append(fromA, op)
		}
	}
	if !slices.Equal(fromA, a) || !slices.Equal(fromB, b) {
		t.Fatal("order", a, b, turns, got)
	}
}

func TestAllAlike(t *testing.T) {
	add := func(at, by int) impl.WordOp { return impl.WordOp{Kind: 5, At: at, New: by} }
	store := func(at, x int) impl.WordOp { return impl.WordOp{Kind: 2, At: at, New: x} }
	swapIf := func(old, new int) impl.WordOp { return impl.WordOp{Kind: 4, Old: old, New: new} }
	for _, c := range []struct {
		name      string
		m         []int
		a, b      []impl.WordOp
		alike, ok bool
	}{
		{"sums", []int{1}, []impl.WordOp{add(0, 2)}, []impl.WordOp{add(0, 5)}, true, true},
		{"sums of which one order is refused", []int{top}, []impl.WordOp{add(0, 2)}, []impl.WordOp{add(0, -5)}, false, true},
		{"two stores", []int{1}, []impl.WordOp{store(0, 2)}, []impl.WordOp{store(0, 3)}, false, true},
		{"two stores of one value", []int{1}, []impl.WordOp{store(0, 2)}, []impl.WordOp{store(0, 2)}, true, true},
		{"stores at two places", []int{1, 1}, []impl.WordOp{store(0, 2)}, []impl.WordOp{store(1, 3)}, true, true},
		{"alike at the first place only", []int{1, 1}, []impl.WordOp{store(1, 2)}, []impl.WordOp{store(1, 3)}, false, true},
		{"a load tells another value", []int{1}, []impl.WordOp{store(0, 2)}, []impl.WordOp{{Kind: 1}}, true, true},
		{"swaps of which one makes way", []int{1}, []impl.WordOp{swapIf(1, 2)}, []impl.WordOp{swapIf(2, 3)}, false, true},
		{"swaps there and back", []int{1}, []impl.WordOp{swapIf(1, 2), swapIf(2, 1)}, []impl.WordOp{swapIf(1, 3)}, true, true},
		{"refused ones", []int{1}, []impl.WordOp{add(7, 1), {Kind: 0}}, []impl.WordOp{store(0, 3)}, true, true},
		{"no ops", []int{1}, nil, nil, true, true},
		{"no words", nil, []impl.WordOp{store(0, 2)}, []impl.WordOp{store(0, 3)}, true, true},
		{"memory of the most words", alike(0, 40), []impl.WordOp{store(39, 2)}, nil, true, true},
		{"memory of too many words", alike(0, 41), nil, nil, false, false},
		{"memory with what is no value", []int{top + 1}, nil, nil, false, false},
		{"just as many ops as allowed", []int{0}, alike(add(0, 1), 100), alike(add(0, 2), 100), true, true},
		{"just as many, and not alike", []int{0}, alike(store(0, 1), 1), alike(add(0, 2), 199), false, true},
		{"one more", []int{0}, alike(add(0, 1), 101), alike(add(0, 2), 100), false, false},
		{"one more in b alone", []int{0}, nil, alike(add(0, 2), 201), false, false},
	} {
		if same, ok := impl.AllAlike(c.m, c.a, c.b); same != c.alike || ok != c.ok {
			t.Errorf("%s: %v %v", c.name, same, ok)
		}
	}
}

// Promise 19: nothing is written into an argument, nor behind it, whether it is done or refused.
func TestWordsWriteIntoNoArgument(t *testing.T) {
	for _, kind := range []int{1, 2, 3, 4, 5, 6} {
		op := impl.WordOp{Kind: kind, At: 1, Old: 5, New: 7}
		m, ops, more := guard([]int{3, 5}, 99), guard(alike(op, 3), impl.WordOp{At: 9}), guard(alike(op, 2), impl.WordOp{At: 9})
		turns := guard([]bool{true, false}, true)
		impl.MemoryOk(m.list())
		impl.Word(m.list(), op)
		impl.Words(m.list(), ops.list())
		impl.Merged(ops.list(), more.list(), turns.list())
		impl.AllAlike(m.list(), ops.list(), more.list())
		m.check(t, "memory")
		ops.check(t, "ops")
		more.check(t, "more ops")
		turns.check(t, "turns")
	}
	for _, wanted := range []int{1, 6} {
		m, at, old, new := guard([]int{1, 2}, 99), guard([]int{1, 0}, 99), guard([]int{2, wanted}, 99), guard([]int{8, 9}, 99)
		impl.SwapAll(m.list(), at.list(), old.list(), new.list())
		m.check(t, "memory")
		at.check(t, "places")
		old.check(t, "old")
		new.check(t, "new")
	}
}

// Promise 19: every answer is new memory; who writes into it changes neither an argument nor another list of the answer.
func TestWordsShareNothing(t *testing.T) {
	ops := guard([]impl.WordOp{{Kind: 1}, {Kind: 2, New: 9}}, impl.WordOp{At: 9})
	for _, first := range []int{3, top + 1} {
		m := guard([]int{first, 5}, 99)
		one, _, _ := impl.Word(m.list(), impl.WordOp{Kind: 1})
		overwrite(one, -1)
		then, told, _ := impl.Words(m.list(), ops.list())
		kept := slices.Clone(told)
		overwrite(then, -1)
		if !slices.Equal(told, kept) {
			t.Error("what was told shares memory with the memory", told, kept)
		}
		overwrite(told, -1)
		then, _, _ = impl.Words(m.list(), alike(impl.WordOp{Kind: 1}, 201))
		overwrite(then, -1)
		for _, old := range []int{3, 4} {
			swapped, _ := impl.SwapAll(m.list(), []int{0}, []int{old}, []int{old})
			overwrite(swapped, -1)
		}
		swapped, _ := impl.SwapAll(m.list(), nil, nil, nil)
		overwrite(swapped, -1)
		m.check(t, "memory")
	}
	for _, other := range [][]impl.WordOp{nil, {{Kind: 3}}} {
		overwrite(impl.Merged(ops.list(), other, nil), impl.WordOp{At: 7})
		overwrite(impl.Merged(other, ops.list(), []bool{true}), impl.WordOp{At: 7})
	}
	ops.check(t, "ops")
}
