package tests

import (
	"maps"
	"math"
	"slices"
	"strconv"
	"testing"

	"loop.example/g00087/impl"
)

type (
	block = impl.Block
	arena = impl.Arena
	three = [3]int
)

// oddNumbers are places, handles and values at the limits, behind them, and far off.
func oddNumbers() []int {
	return []int{math.MinInt, -top - 1, -top, -9, -8, -1, 0, 1, 2, 3, top, top + 1, math.MaxInt}
}

func sameArena(a arena, b arena) bool {
	return slices.Equal(a.Blocks, b.Blocks) && slices.Equal(a.List, b.List)
}

func cloneArena(a arena) arena {
	return arena{Blocks: slices.Clone(a.Blocks), List: slices.Clone(a.List)}
}

// newArena is an arena of n blocks of which many were taken.
func newArena(t *testing.T, n int, many int) arena {
	t.Helper()
	a, ok := impl.NewArena(n)
	for range many {
		if ok {
			a, _, ok = impl.Take(a)
		}
	}
	if !ok {
		t.Fatal("no arena of", n, many)
	}
	return a
}

// mixedArena has a block that is live, one that is spent, two in the list (one of an old Gen), and a live one of the highest Gen.
func mixedArena() arena {
	return arena{
		Blocks: []block{
			{Gen: 2, Words: three{4, -top, top}},
			{Gen: 5, Free: true, Words: three{7, 0, 0}},
			{Gen: 0, Free: true},
			{Gen: 4, Free: true, Words: three{1, 2, 3}},
			{Gen: 4, Words: three{8, 9, 0}},
		},
		List: []int{3, 2},
	}
}

// badArenas are not ArenaOk, each for one reason.
func badArenas() map[string]arena {
	free := block{Free: true}
	return map[string]arena{
		"the zero value":                   {},
		"no block, but a list":             {List: []int{0}},
		"one block too many":               {Blocks: alike(block{}, 25)},
		"one block too many, all free":     {Blocks: alike(free, 25), List: placesTo(25)},
		"Gen below 0":                      {Blocks: []block{{Gen: -1, Free: true}}, List: []int{0}},
		"Gen below 0, not free":            {Blocks: []block{{}, {Gen: -1}}},
		"Gen above MaxGen":                 {Blocks: []block{{Gen: 6, Free: true}}},
		"Gen above MaxGen, in the list":    {Blocks: []block{{Gen: 6, Free: true}}, List: []int{0}},
		"greatest Gen":                     {Blocks: []block{{Gen: math.MaxInt, Free: true}}},
		"least Gen":                        {Blocks: []block{{Gen: math.MinInt}}},
		"MaxGen, not free":                 {Blocks: []block{{Gen: 5}}},
		"MaxGen, in the list":              {Blocks: []block{{Gen: 5, Free: true}}, List: []int{0}},
		"first word above":                 {Blocks: []block{{Words: three{top + 1, 0, 0}}}},
		"last word below":                  {Blocks: []block{{}, {Words: three{0, 0, -top - 1}}}},
		"a word of a free block":           {Blocks: []block{{Free: true, Words: three{0, top + 1, 0}}}, List: []int{0}},
		"a word of a spent block":          {Blocks: []block{{Gen: 5, Free: true, Words: three{0, math.MinInt, 0}}}},
		"a free block is not in the list":  {Blocks: []block{{}, free}},
		"one of two is not in the list":    {Blocks: []block{free, free}, List: []int{1}},
		"a block that is not free is":      {Blocks: []block{{}, free}, List: []int{1, 0}},
		"a place stands twice":             {Blocks: []block{free, free}, List: []int{0, 1, 0}},
		"a place stands for another":       {Blocks: []block{free, free}, List: []int{1, 1}},
		"a place below 0":                  {Blocks: []block{free}, List: []int{0, -1}},
		"a place below 0, none is free":    {Blocks: []block{{}}, List: []int{-1}},
		"the place behind all, none free":  {Blocks: []block{{}}, List: []int{24}},
		"twice what is not free":           {Blocks: []block{{}}, List: []int{0, 0}},
		"least place":                      {Blocks: []block{free}, List: []int{math.MinInt, 0}},
		"the place behind the last":        {Blocks: []block{free}, List: []int{0, 1}},
		"the last of all places":           {Blocks: []block{free}, List: []int{0, 23}},
		"the place behind all":             {Blocks: []block{free}, List: []int{0, 24}},
		"greatest place":                   {Blocks: []block{free}, List: []int{math.MaxInt, 0}},
		"more places than blocks there be": {Blocks: alike(free, 24), List: append(placesTo(24), placesTo(24)...)},
	}
}

// placesTo is 0, 1, .. n - 1.
func placesTo(n int) []int {
	var list []int
	for i := range n {
		list = append(list, i)
	}
	return list
}

func TestLimitsOfArenas(t *testing.T) {
	if impl.MaxBlocks != 24 || impl.MaxGen != 5 || impl.BlockWords != 3 {
		t.Error(impl.MaxBlocks, impl.MaxGen, impl.BlockWords)
	}
}

func TestArenaOk(t *testing.T) {
	backward := placesTo(24)
	slices.Reverse(backward)
	for name, a := range map[string]arena{
		"one free block":                {Blocks: []block{{Free: true}}, List: []int{0}},
		"one block in use":              {Blocks: []block{{}}},
		"one in use, an empty list":     {Blocks: []block{{}}, List: []int{}},
		"one spent block":               {Blocks: []block{{Gen: 5, Free: true}}},
		"highest Gen in use":            {Blocks: []block{{Gen: 4}}},
		"highest Gen in the list":       {Blocks: []block{{Gen: 4, Free: true}}, List: []int{0}},
		"words at both limits":          {Blocks: []block{{Words: three{top, -top, top}}}},
		"words of a free block":         {Blocks: []block{{Free: true, Words: three{-top, 6, top}}}, List: []int{0}},
		"most blocks, in use":           {Blocks: alike(block{Gen: 3}, 24)},
		"most blocks, free, in order":   {Blocks: alike(block{Free: true}, 24), List: placesTo(24)},
		"most blocks, free, any order":  {Blocks: alike(block{Free: true}, 24), List: backward},
		"some of each":                  mixedArena(),
		"all but the first in the list": {Blocks: append([]block{{}}, alike(block{Free: true}, 2)...), List: []int{2, 1}},
	} {
		if !impl.ArenaOk(a) {
			t.Errorf("%s: refused", name)
		}
	}
	for name, a := range badArenas() {
		if impl.ArenaOk(a) {
			t.Errorf("%s: taken", name)
		}
	}
}

func TestNewArena(t *testing.T) {
	for _, n := range []int{1, 2, 23, 24} {
		a, ok := impl.NewArena(n)
		want := arena{Blocks: alike(block{Free: true}, n), List: placesTo(n)}
		if !ok || !sameArena(a, want) || !impl.ArenaOk(a) {
			t.Error(n, a, ok)
		}
	}
	for _, n := range []int{math.MinInt, -1, 0, 25, math.MaxInt} {
		if a, ok := impl.NewArena(n); ok || !sameArena(a, arena{}) {
			t.Error(n, a, ok)
		}
	}
}

func TestTakeTakesTheFirstOfTheList(t *testing.T) {
	a, handle, ok := impl.Take(mixedArena())
	want := mixedArena()
	want.Blocks[3] = block{Gen: 4}
	want.List = []int{2}
	if !ok || handle != 3*8+4 || !sameArena(a, want) {
		t.Error("of an old Gen:", a, handle, ok)
	}
	a, handle, ok = impl.Take(a)
	want.Blocks[2] = block{}
	want.List = nil
	if !ok || handle != 2*8 || !sameArena(a, want) {
		t.Error("the last of the list:", a, handle, ok)
	}
	then, handle, ok := impl.Take(a)
	if ok || handle != -1 || !sameArena(then, want) {
		t.Error("none is left:", then, handle, ok)
	}
}

func TestTakeAllBlocks(t *testing.T) {
	a := newArena(t, 24, 0)
	for place := range 24 {
		var handle int
		var ok bool
		if a, handle, ok = impl.Take(a); !ok || handle != 8*place || len(a.List) != 23-place {
			t.Fatal(place, handle, ok, a.List)
		}
	}
	if then, handle, ok := impl.Take(a); ok || handle != -1 || !sameArena(then, a) {
		t.Error("one more:", handle, ok)
	}
}

func TestTakeRefuses(t *testing.T) {
	bad := badArenas()
	bad["all in use"] = arena{Blocks: alike(block{Gen: 1, Words: three{1, 2, 3}}, 2)}
	bad["all spent"] = arena{Blocks: alike(block{Gen: 5, Free: true}, 24)}
	for name, a := range bad {
		if then, handle, ok := impl.Take(a); ok || handle != -1 || !sameArena(then, a) {
			t.Errorf("%s: %v %d %v", name, then, handle, ok)
		}
	}
}

func TestGiveComesToTheFront(t *testing.T) {
	a, ok := impl.Give(mixedArena(), 0*8+2)
	want := mixedArena()
	want.Blocks[0] = block{Gen: 3, Free: true, Words: three{4, -top, top}}
	want.List = []int{0, 3, 2}
	if !ok || !sameArena(a, want) {
		t.Error(a, ok)
	}
	a = newArena(t, 3, 3)
	for _, handle := range []int{8, 0, 16} {
		a, _ = impl.Give(a, handle)
	}
	if !slices.Equal(a.List, []int{2, 0, 1}) {
		t.Error("the list is", a.List)
	}
	if _, handle, ok := impl.Take(a); !ok || handle != 17 {
		t.Error("who was given up last is taken first:", handle, ok)
	}
}

func TestGiveAtMaxGenIsSpent(t *testing.T) {
	a, ok := impl.Give(mixedArena(), 4*8+4)
	want := mixedArena()
	want.Blocks[4] = block{Gen: 5, Free: true, Words: three{8, 9, 0}}
	if !ok || !sameArena(a, want) || impl.Spent(a) != 2 {
		t.Error(a, ok)
	}
	if impl.Live(a, 4*8+5) || impl.Live(a, 4*8+4) {
		t.Error("a block that is spent has a live handle")
	}
	// One below MaxGen is still in the list.
	a, ok = impl.Give(arena{Blocks: []block{{Gen: 3}}}, 3)
	if !ok || !sameArena(a, arena{Blocks: []block{{Gen: 4, Free: true}}, List: []int{0}}) || impl.Spent(a) != 0 {
		t.Error("one below:", a, ok)
	}
}

// staleHandles are not live in mixedArena.
func staleHandles() []int {
	return []int{
		0*8 + 1, 0*8 + 3, 0*8 + 0, // older and newer than the Gen of the block in use
		1*8 + 5, 1*8 + 4, // of the spent block
		2*8 + 0, 3*8 + 4, 3*8 + 3, // of blocks in the list
		4*8 + 5, 4*8 + 6, 4*8 + 7, // the Gen is MaxGen, or none
		5*8 + 0, 5*8 + 2, 23*8 + 2, 24*8 + 2, // there is no such place
		-1, -4, -6, -8, 2 - 8, 2 - 5*8, math.MinInt, math.MinInt + 2, math.MaxInt,
	}
}

func TestLive(t *testing.T) {
	for handle := -100; handle < 400; handle++ {
		want := handle == 0*8+2 || handle == 4*8+4
		if got := impl.Live(mixedArena(), handle); got != want {
			t.Error(handle, got)
		}
	}
	for _, handle := range staleHandles() {
		if impl.Live(mixedArena(), handle) {
			t.Error(handle)
		}
	}
	if full := newArena(t, 24, 24); !impl.Live(full, 23*8) || impl.Live(full, 24*8) {
		t.Error("the last of the most places")
	}
}

func TestNoHandleOfABadArenaIsLive(t *testing.T) {
	for name, a := range badArenas() {
		for handle := -9; handle < 220; handle++ {
			if impl.Live(a, handle) {
				t.Errorf("%s: %d is live", name, handle)
			}
			checkRefused(t, a, handle)
		}
	}
}

func TestStaleHandlesAreRefused(t *testing.T) {
	for _, handle := range staleHandles() {
		checkRefused(t, mixedArena(), handle)
	}
}

// checkRefused asks that nothing is done by a handle that is not live.
func checkRefused(t *testing.T, a arena, handle int) {
	t.Helper()
	was := cloneArena(a)
	if then, ok := impl.Give(a, handle); ok || !sameArena(then, was) {
		t.Fatal("given", was, handle, then, ok)
	}
	if word, ok := impl.Get(a, handle, 0); ok || word != 0 {
		t.Fatal("got", was, handle, word, ok)
	}
	if then, ok := impl.Put(a, handle, 0, 1); ok || !sameArena(then, was) {
		t.Fatal("put", was, handle, then, ok)
	}
}

func TestGet(t *testing.T) {
	for at, want := range []int{4, -top, top} {
		if word, ok := impl.Get(mixedArena(), 2, at); !ok || word != want {
			t.Error(at, word, ok)
		}
	}
	if word, ok := impl.Get(mixedArena(), 4*8+4, 1); !ok || word != 9 {
		t.Error("another block:", word, ok)
	}
	for _, at := range []int{math.MinInt, -1, 3, math.MaxInt} {
		if word, ok := impl.Get(mixedArena(), 2, at); ok || word != 0 {
			t.Error("no place:", at, word, ok)
		}
	}
}

func TestPut(t *testing.T) {
	for at := range 3 {
		for _, value := range []int{-top, -1, 0, 5, top} {
			a, ok := impl.Put(mixedArena(), 4*8+4, at, value)
			want := mixedArena()
			want.Blocks[4].Words[at] = value
			if !ok || !sameArena(a, want) {
				t.Error(at, value, a, ok)
			}
			if word, ok := impl.Get(a, 4*8+4, at); !ok || word != value {
				t.Error("what is put is got:", at, value, word, ok)
			}
		}
	}
}

func TestPutRefuses(t *testing.T) {
	for _, c := range []struct{ at, value int }{
		{-1, 1}, {3, 1}, {math.MinInt, 1}, {math.MaxInt, 1},
		{0, top + 1}, {0, -top - 1}, {2, math.MaxInt}, {2, math.MinInt}, {3, top + 1},
	} {
		if a, ok := impl.Put(mixedArena(), 2, c.at, c.value); ok || !sameArena(a, mixedArena()) {
			t.Error(c, a, ok)
		}
	}
}

// The words stay in a block that is given up, and are 0 when it is taken again.
func TestTakenWordsAreZero(t *testing.T) {
	a := newArena(t, 1, 1)
	for at := range 3 {
		a, _ = impl.Put(a, 0, at, 7+at)
	}
	a, _ = impl.Give(a, 0)
	if a.Blocks[0] != (block{Gen: 1, Free: true, Words: three{7, 8, 9}}) {
		t.Error("given up:", a.Blocks[0])
	}
	if a, handle, ok := impl.Take(a); !ok || handle != 1 || a.Blocks[0] != (block{Gen: 1}) {
		t.Error("taken again:", a.Blocks[0], handle, ok)
	}
}

func TestSpent(t *testing.T) {
	for _, c := range []struct {
		a    arena
		want int
	}{
		{mixedArena(), 1},
		{newArena(t, 24, 0), 0},
		{newArena(t, 24, 24), 0},
		{arena{Blocks: []block{{Gen: 4}, {Gen: 4, Free: true}}, List: []int{1}}, 0},
		{arena{Blocks: alike(block{Gen: 5, Free: true}, 24)}, 24},
	} {
		if got := impl.Spent(c.a); got != c.want {
			t.Error(c.a, got)
		}
	}
	for name, a := range badArenas() {
		if got := impl.Spent(a); got != -1 {
			t.Errorf("%s: %d", name, got)
		}
	}
}

func TestHandleText(t *testing.T) {
	for handle := -300; handle < 600; handle++ {
		want := ""
		if handle >= 0 && handle < 192 && handle%8 <= 5 {
			want = strconv.Itoa(handle/8) + "." + strconv.Itoa(handle%8)
		}
		if got := impl.HandleText(handle); got != want {
			t.Error(handle, got)
		}
	}
	for handle, want := range map[int]string{0: "0.0", 5: "0.5", 8: "1.0", 84: "10.4", 189: "23.5"} {
		if got := impl.HandleText(handle); got != want {
			t.Error(handle, got)
		}
	}
	for _, handle := range []int{-1, -8, 6, 7, 190, 191, 192, math.MinInt, math.MaxInt} {
		if got := impl.HandleText(handle); got != "" {
			t.Error("no handle:", handle, got)
		}
	}
}

// Promise 2: a handle that was given up is never live again, whatever is taken and given behind it.
func TestGivenHandlesAreNeverLiveAgain(t *testing.T) {
	old := map[int]bool{}
	round := func(a arena) {
		checkClasses(t, a)
		for handle := range old {
			if impl.Live(a, handle) {
				t.Fatal("live again:", handle, a)
			}
		}
	}
	a := newArena(t, 2, 0)
	for _, turn := range []string{"ttgg", "tgtgtg", "ttghttgh", "thtgtgtg", "tttggg", "tgtgtgtgtgtg"} {
		var held []int
		for _, deed := range turn {
			a, held = takeOrGive(t, a, held, deed, old)
			round(a)
		}
		for len(held) > 0 {
			a, held = takeOrGive(t, a, held, 'g', old)
			round(a)
		}
	}
	if impl.Spent(a) != 2 || len(a.List) != 0 || len(old) != 10 {
		t.Error("not all is spent:", a, len(old))
	}
}

// takeOrGive takes a block (t), gives the first one back that is held (g), or the last one (h).
func takeOrGive(t *testing.T, a arena, held []int, deed rune, old map[int]bool) (arena, []int) {
	t.Helper()
	if deed == 't' {
		then, handle, ok := impl.Take(a)
		if !ok {
			return then, held
		}
		if old[handle] || slices.Contains(held, handle) {
			t.Fatal("told twice:", handle)
		}
		return then, append(slices.Clone(held), handle)
	}
	if len(held) == 0 {
		return a, held
	}
	which := 0
	if deed == 'h' {
		which = len(held) - 1
	}
	then, ok := impl.Give(a, held[which])
	if !ok {
		t.Fatal("not given:", held[which], a)
	}
	old[held[which]] = true
	return then, slices.Delete(slices.Clone(held), which, which+1)
}

// checkClasses asks that each block is live, in the list, or spent: just one of these.
func checkClasses(t *testing.T, a arena) {
	t.Helper()
	if !impl.ArenaOk(a) {
		t.Fatal("no arena:", a)
	}
	spent := 0
	for place := range a.Blocks {
		handles, listed := 0, 0
		for gen := range 8 {
			if impl.Live(a, 8*place+gen) {
				handles++
			}
		}
		for _, p := range a.List {
			if p == place {
				listed++
			}
		}
		if handles+listed > 1 {
			t.Fatal("of several classes:", place, a)
		}
		if handles+listed == 0 {
			spent++
		}
	}
	if impl.Spent(a) != spent {
		t.Fatal("spent are", spent, "and not", impl.Spent(a))
	}
}

// Promise 2, over all that can come of two blocks: every arena that takes and gives lead to is gone through once.
func TestAllWaysOfTwoBlocks(t *testing.T) {
	seen := map[string]bool{}
	work := []arena{newArena(t, 2, 0)}
	for len(work) > 0 {
		a := work[0]
		work = work[1:]
		key := arenaKey(a)
		if seen[key] {
			continue
		}
		seen[key] = true
		checkClasses(t, a)
		if then, handle, ok := impl.Take(a); ok {
			if impl.Live(a, handle) || !impl.Live(then, handle) || handle>>3 != a.List[0] {
				t.Fatal("taken:", a, handle)
			}
			work = append(work, then)
		} else if len(a.List) != 0 {
			t.Fatal("not taken:", a)
		}
		for handle := -8; handle < 32; handle++ {
			then, ok := impl.Give(a, handle)
			if ok != impl.Live(a, handle) || ok && impl.Live(then, handle) {
				t.Fatal("given:", a, handle, ok)
			}
			if ok {
				work = append(work, then)
			}
		}
	}
	// The new arena; block 0 in one of 10 ways, for it is taken first, by block 1 in one of 11 (free at Gen 0 .. 5, in
	// use at 0 .. 4); and the list the other way about where both were given up and are in it (Gen 1 .. 4 each).
	if len(seen) != 1+10*11+4*4 {
		t.Error("arenas gone through:", len(seen))
	}
}

// arenaKey tells arenas of two blocks apart by their Gens, by what is free, and by the list.
func arenaKey(a arena) string {
	key := ""
	for _, b := range a.Blocks {
		key += strconv.Itoa(b.Gen) + strconv.FormatBool(b.Free) + " "
	}
	for _, place := range a.List {
		key += strconv.Itoa(place)
	}
	return key
}

// Promise 19: every function answers at any arguments.
func TestArenasAnswerAtAnyArguments(t *testing.T) {
	arenas := append([]arena{mixedArena(), newArena(t, 1, 1), newArena(t, 24, 3)}, slices.Collect(maps.Values(badArenas()))...)
	for _, a := range arenas {
		for _, handle := range append(oddNumbers(), staleHandles()...) {
			for _, at := range oddNumbers() {
				word, ok := impl.Get(a, handle, at)
				if want := impl.Live(a, handle) && at >= 0 && at < 3; ok != want || !ok && word != 0 {
					t.Fatal("get", a, handle, at, word, ok)
				}
				for _, value := range oddNumbers() {
					then, put := impl.Put(a, handle, at, value)
					if put != (ok && value >= -top && value <= top) || !put && !sameArena(then, a) {
						t.Fatal("put", a, handle, at, value, then, put)
					}
				}
			}
		}
	}
}

// guardedArenas are arenas with something behind their lists: some that are in order, one with a full list, one that is not.
func guardedArenas() []arena {
	full := arena{Blocks: alike(block{Free: true}, 2), List: []int{1, 0}}
	used := arena{Blocks: []block{{Gen: 2}}, List: []int{}}
	bad := arena{Blocks: []block{{Gen: 2}, {Free: true}}, List: []int{0}}
	empty := arena{Blocks: []block{}, List: []int{}}
	return []arena{mixedArena(), full, used, bad, empty}
}

// Promise 19: nothing is written into an argument, nor behind it, and every answer is new memory, done or refused.
func TestArenasWriteNothingAndShareNothing(t *testing.T) {
	for _, plain := range guardedArenas() {
		blocks, list := guard(plain.Blocks, block{Gen: 3, Words: three{5, 5, 5}}), guard(plain.List, 0)
		a := arena{Blocks: blocks.list(), List: list.list()}
		for handle := -8; handle < 48; handle++ {
			for _, then := range allAnswers(a, handle) {
				kept := slices.Clone(then.List)
				overwrite(then.Blocks, block{Gen: -7})
				if !slices.Equal(then.List, kept) {
					t.Error("the list shares memory with the blocks")
				}
				overwrite(then.List, -7)
			}
			blocks.check(t, "blocks")
			list.check(t, "list")
		}
	}
	a, _ := impl.NewArena(3)
	overwrite(a.Blocks, block{Gen: -7})
	overwrite(a.List, -7)
	if b, _ := impl.NewArena(3); !sameArena(b, newArena(t, 3, 0)) || !impl.ArenaOk(b) {
		t.Error("a new arena is kept:", b)
	}
}

// allAnswers are the arenas that all functions answer with; those that answer none are called, too.
func allAnswers(a arena, handle int) []arena {
	impl.ArenaOk(a)
	impl.Live(a, handle)
	impl.Get(a, handle, 1)
	impl.Spent(a)
	taken, _, _ := impl.Take(a)
	given, _ := impl.Give(a, handle)
	put, _ := impl.Put(a, handle, 1, 6)
	same, _ := impl.Put(a, handle, 3, 6)
	return []arena{taken, given, put, same}
}

// What lies behind a list's length is not handed out, also not as spare room of an answer.
func TestArenasHandOutNothingBehind(t *testing.T) {
	for _, plain := range guardedArenas() {
		blocks, list := guard(plain.Blocks, block{Gen: 3, Words: three{5, 5, 5}}), guard(plain.List, 77)
		for _, then := range allAnswers(arena{Blocks: blocks.list(), List: list.list()}, 2) {
			for _, b := range then.Blocks[len(then.Blocks):cap(then.Blocks)] {
				if b != (block{}) {
					t.Error("behind the blocks:", b)
				}
			}
			for _, place := range then.List[len(then.List):cap(then.List)] {
				if place != 0 {
					t.Error("behind the list:", place)
				}
			}
		}
	}
}
