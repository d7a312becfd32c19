package tests

import (
	"fmt"
	"maps"
	"math"
	"runtime"
	"slices"
	"sync"
	"testing"
	"time"

	"loop.example/g00087/impl"
)

type world = impl.World

const (
	mostEvents = 3000
	mostSteps  = 1500
	mostAlone  = 2000
)

// worldOf is a world of these values in which nothing has been done yet, with a thread for each of the programs.
func worldOf(values []int, programs ...string) world {
	w := world{First: values}
	for _, value := range values {
		w.Store.Heads = append(w.Store.Heads, headOf(value, 0, -1))
	}
	for id, lines := range programs {
		x := thread{Id: id, Check: -1, Mine: -1}
		if lines != "" {
			x = threadOf(id, lines)
		}
		w.Threads = append(w.Threads, x)
	}
	return w
}

// fourWorld is in the midst of much: 0 is about to commit, 1 is committed and lies over its object, 2 checks, 3 helps
// by what 1 commits.
func fourWorld() world {
	third := holdingRegs(standing(3, "read 0 0; if 0 0; write 2 0; commit; go 0", 2, readOf(0, 3, 5)), 5, -6)
	return world{
		First: []int{9, top, -top},
		Store: decided(laid(threeStore(), 1, 1), 1, committed),
		Threads: []thread{
			committing(0, 0, frameOf(0, lays, 1)), committing(1, 1, frameOf(1, frees, 0)), someThread(), helping(third, frameOf(1, looks, 0)),
		},
		Log: []event{opensEvent(1, 1, 6), seenEvent(1), opensEvent(2, 2, -top), commitEvent(1, 1), abortEvent(3), failEvent(0)},
	}
}

func eventOf(kind int, who int, object int, value int) event {
	return event{Kind: kind, Thread: who, Object: object, Value: value}
}

func cloneWorld(w world) world {
	then := world{First: slices.Clone(w.First), Store: cloneStore(w.Store), Log: slices.Clone(w.Log)}
	for _, x := range w.Threads {
		then.Threads = append(then.Threads, cloneThread(x))
	}
	return then
}

func sameWorld(a world, b world) bool {
	if !slices.Equal(a.First, b.First) || !slices.Equal(a.Log, b.Log) {
		return false
	}
	return sameStore(a.Store, b.Store) && slices.EqualFunc(a.Threads, b.Threads, sameThread)
}

// withWorld is the world, changed.
func withWorld(w world, change func(*world)) world {
	then := cloneWorld(w)
	change(&then)
	return then
}

// told is the world with these events behind its log.
func told(w world, events ...event) world {
	return withWorld(w, func(w *world) { w.Log = append(w.Log, events...) })
}

// telling is the world with a log of that many events, which begins as it was.
func telling(w world, many int) world {
	return told(w, alike(seenEvent(0), many-len(w.Log))...)
}

// over is the world with that store.
func over(w world, s store) world {
	return withWorld(w, func(w *world) { w.Store = cloneStore(s) })
}

// having is the world where the thread is at its place.
func having(w world, x thread) world {
	return withWorld(w, func(w *world) { w.Threads[x.Id] = cloneThread(x) })
}

// plainWorldOk says of a world what the document does.
func plainWorldOk(w world) bool {
	many := len(w.Threads)
	if !impl.StoreOk(w.Store) || len(w.First) != len(w.Store.Heads) || many < 1 || many > 4 || len(w.Log) > 3000 {
		return false
	}
	ok := true
	for _, value := range w.First {
		ok = ok && -top <= value && value <= top
	}
	for i, x := range w.Threads {
		ok = ok && x.Id == i && plainThreadOk(w.Store, x)
	}
	var commits []int
	for _, e := range w.Log {
		ok = ok && 1 <= e.Kind && e.Kind <= 6 && 0 <= e.Thread && e.Thread < many
		if e.Kind == 1 {
			ok = ok && 0 <= e.Object && e.Object < len(w.Store.Heads) && -top <= e.Value && e.Value <= top
		}
		if e.Kind == 3 {
			commits = append(commits, e.Object)
		}
	}
	var done []int
	for number, d := range w.Store.Descs {
		ok = ok && d.Owner < many
		if d.Status == committed {
			done = append(done, number)
		}
	}
	slices.Sort(commits)
	return ok && slices.Equal(commits, done)
}

// plainStepWorld does what the document says, and so do the three below.
func plainStepWorld(w world, who int) (world, bool) {
	then := cloneWorld(w)
	if !plainWorldOk(w) || who < 0 || who >= len(w.Threads) || w.Threads[who].State != isRunning || len(w.Log) > 2992 {
		return then, false
	}
	var events []event
	then.Store, then.Threads[who], events = plainStep(w.Store, w.Threads[who])
	then.Log = append(then.Log, events...)
	return then, true
}

func plainRun(w world, steps []int) (world, int) {
	then, many := cloneWorld(w), 0
	if len(steps) > 1500 {
		return then, 0
	}
	for _, who := range steps {
		next, ok := plainStepWorld(then, who)
		if ok {
			then = next
			many++
		}
	}
	return then, many
}

func plainSolo(w world, who int, most int) (world, int, bool) {
	then := cloneWorld(w)
	if !plainWorldOk(w) || who < 0 || who >= len(w.Threads) || most < 0 || most > 2000 {
		return then, 0, false
	}
	for steps := 0; ; steps++ {
		x := then.Threads[who]
		if x.State != isRunning || x.Commits > w.Threads[who].Commits {
			return then, steps, true
		}
		next, ok := plainStepWorld(then, who)
		if steps == most || !ok {
			return then, steps, false
		}
		then = next
	}
}

func plainSeen(w world) ([]int, bool) {
	if !plainWorldOk(w) {
		return nil, false
	}
	var values []int
	for object, h := range w.Store.Heads {
		value := h.Value
		if h.Desc != -1 && w.Store.Descs[h.Desc].Status == committed {
			for _, e := range w.Store.Descs[h.Desc].Entries {
				if e.Object == object && e.Write {
					value = e.New
				}
			}
		}
		values = append(values, value)
	}
	return values, true
}

func TestLimitsOfWorlds(t *testing.T) {
	if impl.MaxLog != mostEvents || impl.MaxSteps != mostSteps {
		t.Error(impl.MaxLog, impl.MaxSteps)
	}
}

// fullWorld has most descriptors, of which each third one is committed; the log tells these, the last one first.
func fullWorld() world {
	w := worldOf(alike(0, 8), "commit", "write 3 0; commit")
	for number := 59; number >= 0; number-- {
		d := descOf(number%2, number%3, writesOf(number%8)...)
		w.Store.Descs = append([]desc{d}, w.Store.Descs...)
		if d.Status == committed {
			w.Log = append(w.Log, commitEvent(d.Owner, number))
		}
	}
	return w
}

// goodWorlds are WorldOk, at the limits and within.
func goodWorlds() map[string]world {
	four := fourWorld()
	good := map[string]world{
		"four":                               four,
		"one object, one thread":             worldOf([]int{0}, "commit"),
		"one thread of no program":           {First: []int{1}, Store: store{Heads: plainHeads(1)}, Threads: []thread{{Check: -1, Mine: -1}}},
		"most objects, most threads":         worldOf(placesTo(8), "commit", "read 0 7; commit", "go 0", "abort; go 0"),
		"reads of an object not there":       worldOf([]int{1, 2}, "read 0 2; commit", "commit"),
		"First at both limits":               withWorld(four, func(w *world) { w.First = []int{top, -top, 0} }),
		"First as the heads are":             withWorld(four, func(w *world) { w.First = []int{5, 6, -7} }),
		"a log of nothing, not nil":          withWorld(worldOf([]int{3}, "commit"), func(w *world) { w.Log = []event{} }),
		"most events":                        telling(four, mostEvents),
		"most descriptors":                   fullWorld(),
		"an owner of another one is told":    withWorld(four, func(w *world) { w.Log[3].Thread = 2 }),
		"a commit ahead of its opens":        withWorld(four, func(w *world) { slices.Reverse(w.Log) }),
		"fields that are not named":          told(four, eventOf(2, 0, 99, top+1), eventOf(4, 1, -1, -top-1), eventOf(5, 2, 8, math.MaxInt), eventOf(6, 3, math.MinInt, 1)),
		"a commit with a value":              withWorld(four, func(w *world) { w.Log[3].Value = top + 1 }),
		"a failed one, told by nobody":       over(four, decided(four.Store, 0, failed)),
		"two are committed":                  told(over(four, decided(four.Store, 2, committed)), commitEvent(3, 2)),
		"two are committed, the first later": told(over(four, decided(four.Store, 0, committed)), commitEvent(0, 0)),
		"nobody owns any":                    worldOf([]int{1, 2, 3}, "write 0 1; commit", "commit", "commit"),
	}
	for id := range four.Threads {
		good[fmt.Sprint("all events of ", id)] = told(four, opensEvent(id, 0, 0), opensEvent(id, 2, top), opensEvent(id, 1, -top), seenEvent(id), failEvent(id), abortEvent(id), doneEvent(id))
		for state := 1; state < 4; state++ {
			good[fmt.Sprint("idle ", id, " by ", state)] = having(four, inState(four.Threads[id], state))
		}
	}
	for name, x := range goodThreads() {
		good["a thread: "+name] = having(four, x)
	}
	for name, s := range goodStores() {
		good["a store: "+name] = overAny(s)
	}
	return good
}

// overAny is a world over the store in which four have done nothing yet; whatever is committed is told.
func overAny(s store) world {
	w := over(worldOf(alike(4, len(s.Heads)), "read 0 0; commit", "read 0 1; read 0 0; commit", "write 0 3; commit", "go 0"), s)
	for number, d := range s.Descs {
		if d.Status == committed && number < 100 {
			w.Log = append(w.Log, commitEvent(d.Owner, number))
		}
	}
	return w
}

// badWorlds are not WorldOk, each for one reason.
func badWorlds() map[string]world {
	bad := badLogs()
	for name, values := range badFirsts() {
		bad["First: "+name] = withWorld(fourWorld(), func(w *world) { w.First = values })
	}
	for name, threads := range badThreadLists() {
		bad["threads: "+name] = withWorld(worldOf([]int{1, 2}), func(w *world) { w.Threads = threads })
	}
	for name, x := range badThreads() {
		bad["a thread: "+name] = having(fourWorld(), x)
	}
	for name, s := range badStores() {
		bad["a store: "+name] = overAny(s)
	}
	bad["the zero value"] = world{}
	bad["First and heads past most"] = worldOf(placesTo(9), "commit")
	bad["neither First nor heads"] = worldOf(nil, "commit")
	bad["a descriptor is owned by none"] = withWorld(fourWorld(), func(w *world) { w.Threads, w.Log = w.Threads[:3], w.Log[:4] })
	bad["the first of most is owned by none"] = withWorld(fullWorld(), func(w *world) { w.Store.Descs[0].Owner = 3 })
	bad["the last of most is owned by none"] = withWorld(fullWorld(), func(w *world) { w.Store.Descs[59].Owner = 2 })
	return bad
}

// badFirsts are no First of a world of three objects.
func badFirsts() map[string][]int {
	return map[string][]int{
		"nil":                          nil,
		"nothing":                      {},
		"too short":                    {1, 2},
		"too long":                     {1, 2, 3, 4},
		"as long as most":              placesTo(8),
		"longer than most":             placesTo(9),
		"far too long":                 alike(0, 5000),
		"a value past its end":         {top + 1, 0, 0},
		"a value past its other end":   {0, -top - 1, 0},
		"the last value past its end":  {0, 0, top + 1},
		"the last value far past all":  {0, 0, math.MinInt},
		"the first value far past all": {math.MaxInt, 0, 0},
	}
}

// badThreadLists are no threads of a world, whatever its store is.
func badThreadLists() map[string][]thread {
	ids := func(ids ...int) []thread {
		var list []thread
		for _, id := range ids {
			list = append(list, threadOf(id, "read 0 1; commit"))
		}
		return list
	}
	return map[string][]thread{
		"nil":                         nil,
		"none":                        {},
		"one too many":                ids(0, 1, 2, 3, 4),
		"one too many, the last one":  ids(0, 1, 2, 3, 3),
		"one too many, the first one": ids(0, 1, 2, 3, 0),
		"many too many":               ids(placesTo(5000)...),
		"many too many, of one Id":    ids(alike(0, 5000)...),
		"the only one is another one": ids(1),
		"the only one is the last":    ids(3),
		"the only one is none":        ids(-1),
		"two of one Id":               ids(0, 0),
		"two of the last one's Id":    ids(1, 1),
		"the other way round":         ids(1, 0),
		"one is left out":             ids(0, 2),
		"the last is another one":     ids(0, 1, 3),
		"the first is another one":    ids(3, 1, 2),
		"two of four change places":   ids(0, 2, 1, 3),
		"the last is none":            ids(0, 1, 2, 4),
	}
}

// badLogs are worlds that are not WorldOk, each for one reason, which the log is.
func badLogs() map[string]world {
	four, full := fourWorld(), fullWorld()
	two, lost := over(four, decided(four.Store, 2, committed)), over(four, decided(four.Store, 2, failed))
	bad := map[string]world{
		"a log past most":                 telling(four, mostEvents+1),
		"a log far past most":             telling(four, 9*mostEvents),
		"a committed one is not told":     withWorld(four, func(w *world) { w.Log = slices.Delete(w.Log, 3, 4) }),
		"nothing is told":                 withWorld(four, func(w *world) { w.Log = nil }),
		"a commit is told twice":          told(four, commitEvent(1, 1)),
		"a commit is told twice, by two":  told(four, commitEvent(0, 1)),
		"a commit is told three times":    told(four, commitEvent(1, 1), commitEvent(1, 1)),
		"an undecided one is told":        told(four, commitEvent(0, 0)),
		"a failed one is told":            told(lost, commitEvent(3, 2)),
		"two are committed, one is told":  two,
		"two are committed, one is twice": told(two, commitEvent(1, 1)),
		"the last of most is not told":    withWorld(full, func(w *world) { w.Log = w.Log[1:] }),
		"the first of most is not told":   withWorld(full, func(w *world) { w.Log = w.Log[:len(w.Log)-1] }),
	}
	for _, number := range append(edges(), 5, 6, 59, 60) {
		name := fmt.Sprint(number)
		if number < 1 || number > 6 {
			bad["an event of Kind "+name] = told(four, eventOf(number, 0, 0, 0))
			bad["the first event is of Kind "+name] = withWorld(four, func(w *world) { w.Log[0].Kind = number })
		}
		if number < 0 || number > 3 {
			bad["a commit of thread "+name] = withWorld(four, func(w *world) { w.Log[3].Thread = number })
			for _, kind := range []int{1, 2, 4, 5, 6} {
				bad[fmt.Sprint("an event ", kind, " of thread ", number)] = told(four, eventOf(kind, number, 1, 0))
			}
		}
		if number < 0 || number > 2 {
			bad["opened is "+name] = told(four, opensEvent(0, number, 0))
			bad["the first that is opened is "+name] = withWorld(four, func(w *world) { w.Log[0].Object = number })
			bad["committed is "+name] = told(four, commitEvent(1, number))
		}
		if number < -top || number > top {
			bad["seen is "+name] = told(four, opensEvent(0, 0, number))
			bad["the first that is seen is "+name] = withWorld(four, func(w *world) { w.Log[0].Value = number })
		}
	}
	return bad
}

func TestWorldOk(t *testing.T) {
	for name, w := range goodWorlds() {
		if !impl.WorldOk(w) || !plainWorldOk(w) {
			t.Errorf("%s: refused", name)
		}
	}
	for name, w := range badWorlds() {
		if impl.WorldOk(w) || plainWorldOk(w) {
			t.Errorf("%s: taken", name)
		}
	}
}

// A bad world is bad for one reason: with that mended it is taken.
func TestWorldsThatAreMended(t *testing.T) {
	w := fourWorld()
	w.Threads = w.Threads[:3]
	w.Log = w.Log[:4]
	if impl.WorldOk(w) {
		t.Error("a descriptor of no thread is taken")
	}
	w.Store.Descs[2].Owner = 2
	if !impl.WorldOk(w) {
		t.Error("a descriptor of the last thread is refused")
	}
	w.Log[3].Object = 2
	if impl.WorldOk(w) {
		t.Error("told is another one than is committed")
	}
	w.Store.Descs[1].Status, w.Store.Descs[2].Status = failed, committed
	if !impl.WorldOk(w) {
		t.Error("what is committed is told, and refused")
	}
}

// eachWorldEdge changes each number of the world's own lists to each edge.
func eachWorldEdge(w world, yield func(string, world)) {
	change := func(name string, field func(*world) *int) {
		for _, number := range append(edges(), 5, 6, 59, 60) {
			yield(fmt.Sprint(name, " is ", number), withWorld(w, func(w *world) { *field(w) = number }))
		}
	}
	for i := range w.First {
		change(fmt.Sprint("First ", i), func(w *world) *int { return &w.First[i] })
	}
	for i := range w.Log[:min(len(w.Log), 9)] {
		change(fmt.Sprint("Kind of ", i), func(w *world) *int { return &w.Log[i].Kind })
		change(fmt.Sprint("Thread of ", i), func(w *world) *int { return &w.Log[i].Thread })
		change(fmt.Sprint("Object of ", i), func(w *world) *int { return &w.Log[i].Object })
		change(fmt.Sprint("Value of ", i), func(w *world) *int { return &w.Log[i].Value })
	}
	for i := range w.Threads {
		change(fmt.Sprint("Id of ", i), func(w *world) *int { return &w.Threads[i].Id })
		change(fmt.Sprint("State of ", i), func(w *world) *int { return &w.Threads[i].State })
		change(fmt.Sprint("Mine of ", i), func(w *world) *int { return &w.Threads[i].Mine })
	}
	for i := range w.Store.Descs[:min(len(w.Store.Descs), 9)] {
		change(fmt.Sprint("Owner of ", i), func(w *world) *int { return &w.Store.Descs[i].Owner })
		change(fmt.Sprint("Status of ", i), func(w *world) *int { return &w.Store.Descs[i].Status })
	}
}

// Each number at the edges: taken or refused as the document says, and never panicked over.
func TestWorldsOverEdges(t *testing.T) {
	each := told(fourWorld(), doneEvent(3), seenEvent(0))
	for name, w := range map[string]world{"four": each, "full": fullWorld()} {
		eachWorldEdge(w, func(edge string, w world) {
			if impl.WorldOk(w) != plainWorldOk(w) {
				t.Errorf("%s: %s: not %v", name, edge, plainWorldOk(w))
			}
			for who := range 4 {
				checkPlainStepWorld(t, name+", "+edge, w, who)
			}
			checkSeen(t, name+", "+edge, w)
		})
	}
}

func TestNewWorld(t *testing.T) {
	progs := [][]instr{nil, progOf("read 0 0; commit"), commits(30), progOf("go 0")}
	for _, values := range [][]int{{0}, {5, 6}, {-top, top, 0}, placesTo(8), alike(top, 7)} {
		for many := 1; many < 5; many++ {
			w, ok := impl.NewWorld(values, progs[:many])
			want := worldOf(values)
			for id, prog := range progs[:many] {
				want.Threads = append(want.Threads, thread{Id: id, Prog: prog, Check: -1, Mine: -1})
			}
			if !ok || !sameWorld(w, want) || !impl.WorldOk(w) {
				t.Error(values, many, w, ok)
			}
		}
	}
	for text, prog := range goodProgs() {
		w, ok := impl.NewWorld([]int{1, 2}, [][]instr{commits(2), prog})
		if !ok || !slices.Equal(w.Threads[1].Prog, prog) || !slices.Equal(w.Threads[0].Prog, commits(2)) || !impl.WorldOk(w) {
			t.Errorf("%q: %v %v", text, w, ok)
		}
	}
}

func TestNewWorldRefuses(t *testing.T) {
	check := func(name string, values []int, progs [][]instr) {
		t.Helper()
		if w, ok := impl.NewWorld(values, progs); ok || !sameWorld(w, world{}) {
			t.Errorf("%s: %v %v", name, w, ok)
		}
	}
	one := [][]instr{commits(1)}
	for _, values := range [][]int{nil, {}, alike(0, 9), alike(1, 5000), {top + 1}, {-top - 1}, {1, 2, math.MaxInt}, {math.MinInt, 1}, append(alike(1, 7), top+1)} {
		check("values", values, one)
		check("values, and no programs", values, nil)
	}
	for _, values := range [][]int{{1}, placesTo(8)} {
		check("no programs", values, nil)
		check("no programs, and not nil", values, [][]instr{})
		check("a program too many", values, progsAlike(commits(1), 5))
		check("a program of nothing too many", values, make([][]instr, 5))
		check("many programs too many", values, make([][]instr, 5000))
		for name, bad := range badProgs() {
			check(name, values, [][]instr{bad})
			check(name+", as the last", values, [][]instr{commits(1), commits(2), nil, bad})
			check(name+", between", values, [][]instr{commits(1), bad, nil})
		}
	}
}

// progsAlike makes lists that share nothing.
func progsAlike(prog []instr, many int) [][]instr {
	var list [][]instr
	for range many {
		list = append(list, slices.Clone(prog))
	}
	return list
}

func checkStepWorld(t *testing.T, name string, w world, who int, want world, wantOk bool) {
	t.Helper()
	then, ok := impl.StepWorld(w, who)
	if ok != wantOk || !sameWorld(then, want) {
		t.Fatalf("%s: %+v\nstep of %d: %v\n%+v, not %v\n%+v", name, w, who, ok, then, wantOk, want)
	}
	checkWorldStep(t, name, w, who, then, ok)
}

func checkPlainStepWorld(t *testing.T, name string, w world, who int) {
	t.Helper()
	want, wantOk := plainStepWorld(w, who)
	checkStepWorld(t, name, w, who, want, wantOk)
}

// checkWorldStep asks promise 11: a step changes no other thread, and a value only with its version.
func checkWorldStep(t *testing.T, name string, w world, who int, then world, ok bool) {
	t.Helper()
	if !ok {
		return
	}
	if !impl.WorldOk(then) || !slices.Equal(then.First, w.First) || len(then.Threads) != len(w.Threads) {
		t.Fatalf("%s: not right behind a step of %d: %+v", name, who, then)
	}
	for id, x := range w.Threads {
		if id != who && !sameThread(x, then.Threads[id]) {
			t.Fatalf("%s: a step of %d changes %d: %+v", name, who, id, then)
		}
	}
	for object, h := range w.Store.Heads {
		next := then.Store.Heads[object]
		if next.Version != h.Version && next.Version != (h.Version+1)%(mostVersions+1) || next.Version == h.Version && next.Value != h.Value {
			t.Fatalf("%s: a step of %d changes object %d from %v to %v", name, who, object, h, next)
		}
	}
	if len(then.Log) < len(w.Log) || len(then.Log) > len(w.Log)+2 || !slices.Equal(then.Log[:len(w.Log)], w.Log) {
		t.Fatalf("%s: a step of %d leaves the log %v", name, who, then.Log)
	}
}

func TestStepWorld(t *testing.T) {
	for name, w := range goodWorlds() {
		for who := range w.Threads {
			checkPlainStepWorld(t, name, w, who)
		}
	}
}

// What a step is, and where what came to pass is told.
func TestStepWorldTells(t *testing.T) {
	four := fourWorld()
	then := withWorld(four, func(w *world) { w.Threads[2] = checking(w.Threads[2], -1) })
	w := having(four, checking(someThread(), 1))
	w = over(w, laid(w.Store, 1, 1))
	checkStepWorld(t, "2 checks", w, 2, told(then, seenEvent(2)), true)

	then = withWorld(four, func(w *world) {
		w.Store.Heads[1] = headOf(60, 1, -1)
		w.Threads[1] = with(at(w.Threads[1], 1), func(x *thread) { x.Open, x.Stack, x.Mine, x.Commits = nil, nil, -1, 1 })
	})
	checkStepWorld(t, "1 frees what it committed", four, 1, then, true)

	helps := having(four, helping(four.Threads[3], frameOf(0, decides, 0)))
	then = withWorld(helps, func(w *world) {
		w.Store.Descs[0].Status = committed
		w.Threads[3].Stack = []frame{frameOf(0, frees, 0)}
	})
	checkStepWorld(t, "3 commits what 0 meant to", helps, 3, told(then, commitEvent(0, 0)), true)

	w = worldOf([]int{5, 6}, "write 1 0; commit", "read 2 1; commit")
	then = having(w, with(w.Threads[1], func(x *thread) { x.Open = []entry{readOf(1, 0, 6)} }))
	checkStepWorld(t, "1 opens", w, 1, told(then, opensEvent(1, 1, 6), seenEvent(1)), true)
	checkStepWorld(t, "1 reads", then, 1, having(then, holdingRegs(at(then.Threads[1], 1), 0, 0, 6)), true)
	none := worldOf([]int{5}, "commit", "commit; abort")
	checkStepWorld(t, "1 commits nothing", none, 1, having(none, with(at(none.Threads[1], 1), func(x *thread) { x.Commits = 1 })), true)
	checkStepWorld(t, "0 reads what is not there", worldOf([]int{5}, "read 0 1"), 0, having(worldOf([]int{5}, "read 0 1"), inState(threadOf(0, "read 0 1"), isFull)), true)
}

// noThreads are numbers of no thread in a world of that many.
func noThreads(many int) []int {
	var none []int
	for _, number := range append(edges(), 5, 6, many) {
		if number < 0 || number >= many {
			none = append(none, number)
		}
	}
	return none
}

func TestStepWorldRefuses(t *testing.T) {
	for name, w := range badWorlds() {
		for who := -1; who < 5; who++ {
			checkStepWorld(t, name, w, who, w, false)
		}
	}
	for name, w := range goodWorlds() {
		for _, who := range noThreads(len(w.Threads)) {
			checkStepWorld(t, name, w, who, w, false)
		}
		for who, x := range w.Threads {
			for state := 1; state < 4; state++ {
				idle := having(w, inState(x, state))
				checkStepWorld(t, name+", idle", idle, who, idle, false)
			}
			if impl.Idle(x) {
				checkStepWorld(t, name+", idle", w, who, w, false)
			}
		}
	}
}

// There is no step without room for 8 events, whatever it would tell.
func TestStepWorldAsksForRoom(t *testing.T) {
	for _, w := range []world{fourWorld(), worldOf([]int{5}, "read 0 0; commit", "set 0 1", "abort", "")} {
		for who := range w.Threads {
			for _, many := range []int{mostEvents - 9, mostEvents - 8} {
				full := telling(w, many)
				want, _ := plainStepWorld(w, who)
				want.Log = append(telling(w, many).Log, want.Log[len(w.Log):]...)
				checkStepWorld(t, fmt.Sprint(many, " events"), full, who, want, true)
			}
			for _, many := range []int{mostEvents - 7, mostEvents - 6, mostEvents - 1, mostEvents, mostEvents + 1} {
				full := telling(w, many)
				checkStepWorld(t, fmt.Sprint(many, " events"), full, who, full, false)
			}
		}
	}
}

func checkRun(t *testing.T, name string, w world, steps []int, want world, wantMany int) {
	t.Helper()
	then, many := impl.RunWorld(w, steps)
	if many != wantMany || !sameWorld(then, want) {
		t.Fatalf("%s: %+v\nsteps %v: %d\n%+v, not %d\n%+v", name, w, steps, many, then, wantMany, want)
	}
}

func checkPlainRun(t *testing.T, name string, w world, steps []int) {
	t.Helper()
	want, many := plainRun(w, steps)
	checkRun(t, name, w, steps, want, many)
}

func TestRunWorld(t *testing.T) {
	for name, w := range goodWorlds() {
		for _, steps := range [][]int{nil, {}, {0}, {1, 0}, {0, 0, 0, 0}, {3, 2, 1, 0, 3, 3}, {2, 2, 7, 2}, {-1, 4, 1, math.MaxInt, math.MinInt, 1}} {
			checkPlainRun(t, name, w, steps)
		}
	}
	for name, w := range badWorlds() {
		for _, steps := range [][]int{nil, {0}, {0, 1, 2, 3}, alike(0, mostSteps), alike(1, mostSteps+1)} {
			checkRun(t, name, w, steps, w, 0)
		}
	}
}

// Of MaxSteps all are taken, and of one more none; those that are false count among them, but are not told.
func TestRunWorldOfMost(t *testing.T) {
	w := worldOf([]int{5}, "go 0", "set 0 1; go 0", "", "abort")
	if _, many := impl.RunWorld(w, alike(1, mostSteps-1)); many != mostSteps-1 {
		t.Error(many)
	}
	most := having(w, holdingRegs(w.Threads[1], 1))
	checkRun(t, "most", w, alike(1, mostSteps), most, mostSteps)
	for _, many := range []int{mostSteps + 1, mostSteps + 2, 2 * mostSteps, 90000} {
		checkRun(t, "too many", w, alike(1, many), w, 0)
		checkRun(t, "too many, of no thread", w, alike(9, many), w, 0)
	}
	steps := append(alike(4, mostSteps-3), 0, 0, 1)
	checkRun(t, "most are of no thread", w, steps, having(w, holdingRegs(at(w.Threads[1], 1), 1)), 3)
	steps = append(steps, 1)
	checkRun(t, "one too many, most of no thread", w, steps, w, 0)
	ended := told(having(w, inState(w.Threads[2], isDone)), doneEvent(2))
	checkRun(t, "it is idle behind the first", w, alike(2, mostSteps), ended, 1)
	ended = told(having(w, inState(at(w.Threads[3], 1), isDone)), abortEvent(3), doneEvent(3))
	checkRun(t, "it is idle behind the second", w, []int{3, -1, 3, 3, 4, 3, 3}, ended, 2)
	checkRun(t, "and the others go on", w, []int{3, -1, 3, 3, 1, 4, 3, 3}, having(ended, holdingRegs(at(w.Threads[1], 1), 1)), 3)
}

// A run goes on while there is room for 8 events, and takes no step from there on.
func TestRunWorldAsksForRoom(t *testing.T) {
	w := worldOf([]int{5}, "abort; go 0", "set 0 1; go 0")
	for _, c := range []struct{ events, want int }{{2989, 7}, {2990, 5}, {2991, 3}, {2992, 1}, {2993, 0}, {3000, 0}} {
		full := telling(w, c.events)
		checkPlainRun(t, "nearly full", full, []int{0, 1, 1, 0, 0, 1, 1, 0, 0, 1, 1, 0, 0})
		then, many := impl.RunWorld(full, alike(0, 20))
		if many != c.want || len(then.Log) != max(c.events, mostEvents-7) {
			t.Error(c.events, "events, and", many, "steps to", len(then.Log))
		}
	}
	// A long run comes to be full by itself.
	long := telling(worldOf([]int{5}, "abort; go 0", "abort; go 0"), 2000)
	steps := alike(0, mostSteps)
	then, many := impl.RunWorld(long, steps)
	if many != mostSteps || len(then.Log) != 2750 {
		t.Error("a long run", many, len(then.Log))
	}
	then, many = impl.RunWorld(then, steps)
	if many != 485 || len(then.Log) != mostEvents-7 {
		t.Error("it is full", many, len(then.Log))
	}
	checkRun(t, "no room at all", then, steps, then, 0)
}

func checkSolo(t *testing.T, name string, w world, who int, most int, want world, wantSteps int, wantOk bool) {
	t.Helper()
	then, steps, ok := impl.Solo(w, who, most)
	if steps != wantSteps || ok != wantOk || !sameWorld(then, want) {
		t.Fatalf("%s: %+v\n%d alone, at most %d: %d %v\n%+v, not %d %v\n%+v", name, w, who, most, steps, ok, then, wantSteps, wantOk, want)
	}
}

func checkPlainSolo(t *testing.T, name string, w world, who int, most int) {
	t.Helper()
	want, steps, ok := plainSolo(w, who, most)
	checkSolo(t, name, w, who, most, want, steps, ok)
}

func TestSolo(t *testing.T) {
	for name, w := range goodWorlds() {
		for who := range w.Threads {
			for _, most := range []int{0, 1, 2, 5, 40} {
				checkPlainSolo(t, name, w, who, most)
			}
		}
	}
}

func TestSoloRefuses(t *testing.T) {
	mosts := []int{math.MinInt, -mostAlone, -2, -1, 0, 1, mostAlone, mostAlone + 1, 2 * mostAlone, top, math.MaxInt}
	for name, w := range badWorlds() {
		for _, most := range mosts {
			checkSolo(t, name, w, 0, most, w, 0, false)
			checkSolo(t, name, w, len(w.Threads), most, w, 0, false)
		}
	}
	four := fourWorld()
	for who := range four.Threads {
		idle := having(four, inState(four.Threads[who], isDone))
		for _, most := range mosts {
			if most < 0 || most > mostAlone {
				checkSolo(t, "most is none", four, who, most, four, 0, false)
				checkSolo(t, "most is none, and it is idle", idle, who, most, idle, 0, false)
			}
		}
	}
	for _, w := range []world{four, worldOf([]int{1}, "commit"), worldOf([]int{1}, "", "", "")} {
		for _, who := range noThreads(len(w.Threads)) {
			for _, most := range mosts {
				checkSolo(t, "no thread", w, who, most, w, 0, false)
			}
		}
	}
}

// Who is idle at first has taken no step, also where none could be taken.
func TestSoloOfIdle(t *testing.T) {
	four := fourWorld()
	for _, w := range []world{four, telling(four, mostEvents-8), telling(four, mostEvents-7), telling(four, mostEvents)} {
		for who := range w.Threads {
			for state := 1; state < 4; state++ {
				idle := having(w, inState(w.Threads[who], state))
				for _, most := range []int{0, 1, mostAlone} {
					checkSolo(t, "idle", idle, who, most, idle, 0, true)
				}
				// It is of that thread that it is asked.
				if other := (who + 1) % 4; len(w.Log) < 100 {
					checkPlainSolo(t, "another one is idle", idle, other, 30)
				}
			}
		}
	}
}

// With exactly as many steps as it takes it has committed, or is idle; with one less not.
func TestSoloOfExactlyAsMany(t *testing.T) {
	for _, c := range []struct {
		lines string
		steps int
	}{
		{"commit", 1}, {"set 0 1; commit", 2}, {"", 1}, {"set 0 1", 2}, {"read 0 7", 1}, {"abort; set 0 1; write 2 0", 3},
		{"read 0 0; commit", 7}, {"write 0 0; abort; commit", 4}, {"read 0 0; read 1 1; commit", 12}, {"read 0 0; go 0", -1}, {"go 0; commit", -1},
	} {
		w := worldOf([]int{5, 6}, "set 1 1; go 0", c.lines, "write 0 0; go 0")
		for _, most := range []int{0, 1, c.steps - 1, c.steps, c.steps + 1, 100} {
			if most < 0 {
				continue
			}
			checkPlainSolo(t, c.lines, w, 1, most)
			then, steps, ok := impl.Solo(w, 1, most)
			if c.steps < 0 && (ok || steps != most) || c.steps >= 0 && (steps != min(most, c.steps) || ok != (most >= c.steps)) {
				t.Errorf("%q: at most %d: %d %v", c.lines, most, steps, ok)
			}
			if ok && then.Threads[1].Commits == 0 && !impl.Idle(then.Threads[1]) {
				t.Errorf("%q: neither committed nor idle: %+v", c.lines, then.Threads[1])
			}
		}
	}
	// As many as can be: a round takes 2 steps, and there are as many rounds as it takes the register to come to 0.
	for _, c := range []struct {
		lines         string
		rounds, steps int
	}{{"add 0 1; if 0 0; commit", 999, 1999}, {"set 2 2; add 0 1; if 0 1; commit", 999, 2000}, {"add 0 1; if 0 0; commit", 1000, 2001}} {
		w := having(worldOf([]int{5}, "", "commit"), holdingRegs(threadOf(1, c.lines), -c.rounds, 1))
		for _, most := range []int{mostAlone - 1, mostAlone} {
			checkPlainSolo(t, c.lines, w, 1, most)
			if _, steps, ok := impl.Solo(w, 1, most); steps != min(most, c.steps) || ok != (most >= c.steps) {
				t.Error(c.lines, c.rounds, most, steps, ok)
			}
		}
	}
}

// Who is alone drives what lies in its way, and it is its own Commits that count, not what it has committed for others.
func TestSoloHelpsOthers(t *testing.T) {
	w := worldOf([]int{5, 6}, "write 0 0; commit; go 0", "write 0 3; write 1 3; commit; go 0")
	w, _, _ = plainSolo(w, 1, 8) // it is left standing with what it has laid so far
	if len(impl.Held(w.Store)) == 0 || w.Threads[1].Commits != 0 {
		t.Fatal("nothing lies:", w)
	}
	checkPlainSolo(t, "somebody lies there", w, 0, mostAlone)
	then, _, ok := impl.Solo(w, 0, mostAlone)
	if !ok || then.Threads[0].Commits != 1 || then.Threads[1].Commits != 0 || then.Store.Descs[0].Status != committed {
		t.Error(ok, then)
	}
	// The one that was left standing finds its descriptor committed.
	checkPlainSolo(t, "it goes on", then, 1, mostAlone)
	then, _, ok = impl.Solo(then, 1, mostAlone)
	if !ok || then.Threads[1].Commits != 1 || then.Threads[1].Fails != 0 {
		t.Error(ok, then)
	}
}

// At 10^6 Commits are never more than they were.
func TestSoloCountsNoFurther(t *testing.T) {
	counted := func(commits int, lines string) world {
		w := worldOf([]int{5}, lines)
		w.Threads[0].Commits = commits
		return w
	}
	for _, lines := range []string{"commit; go 0", "commit; commit", "commit"} {
		for commits := mostCounted - 2; commits <= mostCounted; commits++ {
			for _, most := range []int{0, 1, 2, 3, mostAlone} {
				checkPlainSolo(t, lines, counted(commits, lines), 0, most)
			}
		}
	}
	if _, steps, ok := impl.Solo(counted(mostCounted, "commit; go 0"), 0, mostAlone); steps != mostAlone || ok {
		t.Error(steps, ok)
	}
	if _, steps, ok := impl.Solo(counted(mostCounted, "commit; commit"), 0, mostAlone); steps != 3 || !ok {
		t.Error(steps, ok)
	}
}

// Where the log comes to have no room on the way, that many steps were taken, and it is false.
func TestSoloAsksForRoom(t *testing.T) {
	for _, c := range []struct {
		lines         string
		events, steps int
		ok            bool
	}{
		{"abort; go 0", 2990, 5, false}, {"abort; go 0", 2992, 1, false}, {"abort; go 0", 2993, 0, false}, {"abort; go 0", 3000, 0, false},
		{"abort; abort; commit", 2990, 3, true}, {"abort; abort; commit", 2991, 2, false}, {"commit", 2992, 1, true}, {"commit", 2993, 0, false},
		{"read 0 0; commit", 2989, 7, true}, {"read 0 0; commit", 2990, 6, false}, {"read 0 0; commit", 2991, 1, false}, {"abort", 2992, 1, false}, {"", 2992, 1, true},
	} {
		w := telling(worldOf([]int{5}, c.lines, "commit"), c.events)
		checkPlainSolo(t, c.lines, w, 0, mostAlone)
		then, steps, ok := impl.Solo(w, 0, mostAlone)
		if steps != c.steps || ok != c.ok {
			t.Errorf("%q: %d events: %d steps, %v, to %d events", c.lines, c.events, steps, ok, len(then.Log))
		}
		checkPlainSolo(t, c.lines, w, 0, c.steps)
	}
}

func checkSeen(t *testing.T, name string, w world) {
	t.Helper()
	values, ok := impl.Seen11(w)
	want, wantOk := plainSeen(w)
	if ok != wantOk || !slices.Equal(values, want) {
		t.Fatalf("%s: %+v: %v %v, not %v %v", name, w, values, ok, want, wantOk)
	}
}

func TestSeen11(t *testing.T) {
	three := threeStore()
	for _, c := range []struct {
		name string
		s    store
		want []int
	}{
		{"nothing lies", three, []int{5, 6, -7}},
		{"an undecided one lies", laid(three, 0, 0, 1, 2), []int{5, 6, -7}},
		{"a failed one lies", decided(laid(three, 0, 0, 1, 2), 0, failed), []int{5, 6, -7}},
		{"a committed one lies over all", decided(laid(three, 0, 0, 1, 2), 0, committed), []int{50, 6, 70}},
		{"a committed one lies over the first", decided(laid(three, 0, 0), 0, committed), []int{50, 6, -7}},
		{"a committed one lies over the last", decided(laid(three, 0, 2), 0, committed), []int{5, 6, 70}},
		{"a committed one lies over what it read", decided(laid(three, 0, 1), 0, committed), []int{5, 6, -7}},
		{"a committed one lies over what it read as something else", decided(holding(three, 1, headOf(44, 7, 0)), 0, committed), []int{5, 44, -7}},
		{"a committed one lies over what it meant to be of another version", decided(holding(three, 2, headOf(44, 7, 0)), 0, committed), []int{5, 6, 70}},
		{"a committed one lies over nothing", decided(three, 0, committed), []int{5, 6, -7}},
		{"a committed one that only reads", decided(laid(three, 2, 0, 2), 2, committed), []int{5, 6, -7}},
		{"two that lie, one of them committed", decided(laid(laid(three, 1, 1), 0, 0, 2), 1, committed), []int{5, 60, -7}},
		{"two that lie, the other one committed", decided(laid(laid(three, 1, 1), 0, 0, 2), 0, committed), []int{50, 6, 70}},
		{"one committed, one failed", decided(decided(laid(laid(three, 1, 1), 0, 0, 2), 0, committed), 1, failed), []int{50, 6, 70}},
		{"two committed", decided(decided(laid(laid(three, 1, 1), 0, 0, 2), 0, committed), 1, committed), []int{50, 60, 70}},
	} {
		w := overAny(c.s)
		values, ok := impl.Seen11(w)
		if !ok || !slices.Equal(values, c.want) {
			t.Errorf("%s: %v %v", c.name, values, ok)
		}
		checkSeen(t, c.name, w)
	}
	for name, w := range goodWorlds() {
		checkSeen(t, name, w)
	}
	for name, w := range badWorlds() {
		if values, ok := impl.Seen11(w); ok || len(values) > 0 {
			t.Errorf("%s: %v %v", name, values, ok)
		}
	}
}

// isChanged asks whether something that the thread opened is not any more as it was read.
func isChanged(s store, x thread) bool {
	return slices.ContainsFunc(x.Open, func(e entry) bool { return s.Heads[e.Object].Version != e.Version })
}

// replayed are the first values, and what each commit that is told made of them, one after the other.
func replayed(w world) []int {
	values := slices.Clone(w.First)
	for _, e := range w.Log {
		if e.Kind != impl.EvCommit {
			continue
		}
		for _, e := range w.Store.Descs[e.Object].Entries {
			if e.Write {
				values[e.Object] = e.New
			}
		}
	}
	return values
}

// checkReached asks promise 11 of a step of a world to which one comes from a new one.
func checkReached(t *testing.T, w world, who int, then world, ok bool) {
	t.Helper()
	checkWorldStep(t, "reached", w, who, then, ok)
	x, next := w.Threads[who], then.Threads[who]
	if ok == impl.Idle(x) {
		t.Fatalf("a step of %d: %v, of %+v", who, ok, w)
	}
	if isFailed := next.Fails > x.Fails; isFailed != slices.Contains(then.Log[len(w.Log):], failEvent(who)) || isFailed && !isChanged(w.Store, x) {
		t.Fatalf("an attempt of %d fails though nothing was changed, or tells it not: %+v\n%+v", who, w, then)
	}
	for object, h := range w.Store.Heads {
		if next := then.Store.Heads[object]; next.Version != h.Version {
			d := w.Store.Descs[h.Desc]
			if d.Status != committed || !slices.ContainsFunc(d.Entries, func(e entry) bool { return e.Object == object && e.Write && e.New == next.Value }) {
				t.Fatalf("object %d changes from %v to %v though none is committed that says so: %+v", object, h, next, w)
			}
		}
	}
	values, ok := impl.Seen11(then)
	if !ok || !slices.Equal(values, replayed(then)) {
		t.Fatalf("what is seen is %v, not %v: %+v", values, replayed(then), then)
	}
}

// checkAllAlone asks that each one with a straight program commits or ends when it is alone, wherever the others stand.
func checkAllAlone(t *testing.T, w world) {
	t.Helper()
	for who, x := range w.Threads {
		then, steps, ok := impl.Solo(w, who, mostAlone)
		if impl.Straight(x.Prog) && (!ok || steps > 200 || steps > 0 && then.Threads[who].Commits == x.Commits && !impl.Idle(then.Threads[who])) {
			t.Fatalf("%d alone: %d %v, of %+v", who, steps, ok, w)
		}
		for id, other := range w.Threads {
			if id != who && !sameThread(other, then.Threads[id]) {
				t.Fatalf("%d alone changes %d: %+v", who, id, then)
			}
		}
		if !impl.WorldOk(then) {
			t.Fatalf("%d alone leaves what is not right: %+v", who, then)
		}
	}
}

// worldKey is alike of worlds that are so but for their logs.
func worldKey(w world) string {
	return fmt.Sprint(w.Store, w.Threads)
}

// eachWorldBy goes through all worlds that steps can come to; of those whose keys are alike it takes one.
func eachWorldBy(t *testing.T, begin world, keyOf func(world) string, yield func(world)) {
	seen, work := map[string]bool{}, []world{begin}
	for len(work) > 0 {
		w := work[len(work)-1]
		work = work[:len(work)-1]
		yield(w)
		for who := range w.Threads {
			then, ok := impl.StepWorld(w, who)
			checkReached(t, w, who, then, ok)
			if key := keyOf(then); ok && !seen[key] {
				seen[key] = true
				work = append(work, then)
			}
		}
	}
}

// Promise 11, in all ways in which the steps of two can come, one of them being left standing anywhere.
func TestAllWaysOfTwoInAWorld(t *testing.T) {
	for _, lines := range [][2]string{
		{"read 0 0; set 1 1; add 0 1; write 0 0; commit", "read 0 0; set 1 10; add 0 1; write 0 0; commit"},
		{"read 0 1; read 0 0; write 0 0; commit", "read 1 0; read 0 1; write 1 0; commit"},
		{"write 0 0; write 1 0; commit", "read 2 1; read 3 0; commit"},
		{"write 0 3; abort; read 0 0; write 0 0; commit", "read 0 0; write 0 1; commit"},
		{"read 0 2; commit", "write 1 0; abort; commit; read 2 2"},
	} {
		ends := 0
		eachWorldBy(t, worldOf([]int{5, 7}, lines[:]...), worldKey, func(w world) {
			checkAllAlone(t, w)
			if impl.Idle(w.Threads[0]) && impl.Idle(w.Threads[1]) {
				ends++
			}
		})
		if ends == 0 {
			t.Error(lines, "comes to no end")
		}
	}
}

// mixedSteps are many steps of four threads, and some of none, in an order that hangs on the seed alone.
func mixedSteps(seed int, many int) []int {
	var steps []int
	for step := range many {
		steps = append(steps, (seed*7919+step*step*(seed+3)/5+step/(1+seed%5))%4)
		if step%(17+seed) == 3 {
			steps[step] = 4 - 5*(step%2)
		}
	}
	return steps
}

// straightCrowds are threads with straight programs, that come to their ends unless they are left standing.
func straightCrowds() [][]string {
	return [][]string{
		{"read 0 0; add 1 0; write 7 1; commit; read 0 1; commit", "read 0 7; write 0 0; set 2 3; write 3 2; commit; write 0 1; commit", "read 2 3; read 1 0; write 7 2; commit", "write 1 1; abort; read 3 7; add 3 3; write 0 3; commit"},
		{"read 0 0; read 0 1; read 0 2; read 0 3; read 0 4; read 0 5; read 0 6; commit", "set 1 1; write 0 1; write 2 1; write 4 1; commit", "read 3 5; write 5 3; commit; write 4 3; commit", "write 5 0; write 4 0; commit; write 0 0; commit"},
		{"read 0 2; set 1 1; add 0 1; write 2 0; commit", "read 0 2; set 1 1; add 0 1; write 2 0; commit", "read 0 2; set 1 1; add 0 1; write 2 0; commit", "read 0 2; set 1 1; add 0 1; write 2 0; commit"},
	}
}

// Promise 11, over long runs of four, step by step and as one run; whoever is left standing at each step, each other one
// with a straight program goes on alone.
func TestCrowdsInAWorld(t *testing.T) {
	commits, fails := 0, 0
	for number, lines := range slices.Concat(crowds(), straightCrowds()) {
		for seed := range 5 {
			begin := worldOf([]int{0, 1, 0, 3, 4, 5, 6, 7}, lines...)
			steps := mixedSteps(seed, 400)
			w, many := begin, 0
			for _, who := range steps {
				want, wantOk := plainStepWorld(w, who)
				checkStepWorld(t, "a crowd", w, who, want, wantOk)
				if wantOk {
					checkReached(t, w, who, want, true)
					w = want
					many++
				}
				if many%7 == 0 {
					checkAllAlone(t, w)
				}
			}
			checkRun(t, fmt.Sprint("crowd ", number), begin, steps, w, many)
			for _, x := range w.Threads {
				commits, fails = commits+x.Commits, fails+x.Fails
			}
		}
	}
	if commits < 100 || fails < 100 {
		t.Error("only", commits, "commits and", fails, "fails")
	}
}

// A run is one run also when it is made of several, and of single steps.
func TestRunsOneBehindTheOther(t *testing.T) {
	for _, lines := range crowds() {
		begin := worldOf([]int{0, 1, 0, 3, 4, 5, 6, 7}, lines...)
		steps := mixedSteps(2, mostSteps)
		whole, many := impl.RunWorld(begin, steps)
		for _, size := range []int{1, 7, 100, 1499} {
			w, sum := begin, 0
			for part := range slices.Chunk(steps, size) {
				then, more := impl.RunWorld(w, part)
				w, sum = then, sum+more
			}
			if sum != many || !sameWorld(w, whole) {
				t.Errorf("%v by %d: %d steps, not %d, to\n%+v, not\n%+v", lines, size, sum, many, w, whole)
			}
		}
	}
}

// Nothing that a call began goes on behind its answer.
func TestWorldsLeaveNothingRunning(t *testing.T) {
	was := runtime.NumGoroutine()
	four := fourWorld()
	for range 200 {
		impl.StepWorld(four, 2)
		impl.StepWorld(four, 9)
		impl.RunWorld(four, []int{0, 1, 2, 3, 4})
		impl.RunWorld(four, nil)
		impl.Solo(four, 0, 0)
		impl.Solo(four, 1, 30)
		impl.Solo(telling(four, mostEvents-8), 3, mostAlone)
	}
	// A goroutine that has said that it ends is counted till it has ended.
	for wait := 0; runtime.NumGoroutine() > was; wait++ {
		if wait == 2000 {
			t.Fatal(runtime.NumGoroutine(), "goroutines, not", was)
		}
		time.Sleep(time.Millisecond)
	}
}

// A call waits for all that it began: on one processor nobody runs behind it who did not run within it. (Seldom one that
// is about to end is held up there, so not each single call is asked.)
func TestWorldsAreLeftAheadOfTheAnswer(t *testing.T) {
	defer runtime.GOMAXPROCS(runtime.GOMAXPROCS(1))
	four := fourWorld()
	for name, call := range map[string]func(){
		"StepWorld":          func() { impl.StepWorld(four, 2) },
		"StepWorld, refused": func() { impl.StepWorld(four, 4) },
		"RunWorld":           func() { impl.RunWorld(four, []int{0, 1, 2, 3, 3, 2}) },
		"RunWorld of none":   func() { impl.RunWorld(four, nil) },
		"Solo":               func() { impl.Solo(four, 1, 5) },
		"Solo of none":       func() { impl.Solo(four, 1, 0) },
	} {
		late := 0
		for range 100 {
			was := runtime.NumGoroutine()
			call()
			if runtime.NumGoroutine() > was {
				late++
			}
			for wait := 0; runtime.NumGoroutine() > was && wait < 1000; wait++ {
				runtime.Gosched()
			}
		}
		if late > 50 {
			t.Error(name, "leaves somebody running", late, "times of 100")
		}
	}
}

// Whichever goroutine runs first, on however many processors, and whoever asks at once: the answer is one.
func TestWorldsAnswerAlike(t *testing.T) {
	steps := mixedSteps(3, 300)
	begin := worldOf([]int{0, 1, 0, 3, 4, 5, 6, 7}, crowds()[0]...)
	want, many := plainRun(begin, steps)
	alone, soloSteps, ok := plainSolo(want, 2, 100)
	for _, processors := range []int{1, 2, 8} {
		was := runtime.GOMAXPROCS(processors)
		var asking sync.WaitGroup
		for range 6 {
			asking.Go(func() {
				for range 5 {
					then, n := impl.RunWorld(begin, steps)
					if n != many || !sameWorld(then, want) {
						t.Errorf("on %d: %d steps to %+v", processors, n, then)
					}
					then, n, is := impl.Solo(want, 2, 100)
					if n != soloSteps || is != ok || !sameWorld(then, alone) {
						t.Errorf("on %d: %d steps alone, %v, to %+v", processors, n, is, then)
					}
				}
			})
		}
		asking.Wait()
		runtime.GOMAXPROCS(was)
	}
}

// worldAnswers are the worlds that all functions answer with, done or refused; those that answer none are called, too.
func worldAnswers(w world, steps []int) []world {
	impl.WorldOk(w)
	values, _ := impl.Seen11(w)
	overwrite(values, -7)
	var progs [][]instr
	for _, x := range w.Threads {
		progs = append(progs, x.Prog)
	}
	fresh, _ := impl.NewWorld(w.First, progs)
	ran, _ := impl.RunWorld(w, steps)
	none, _ := impl.RunWorld(w, alike(0, mostSteps+1))
	answers := []world{fresh, ran, none}
	for _, who := range []int{-1, 0, 1, 2, 3, 4} {
		stepped, _ := impl.StepWorld(w, who)
		alone, _, _ := impl.Solo(w, who, 9)
		refused, _, _ := impl.Solo(w, who, -1)
		answers = append(answers, stepped, alone, refused)
	}
	return answers
}

// overwriteWorld changes one list after the other, with its spare room, and asks that the others stay as they were.
func overwriteWorld(t *testing.T, name string, w world) {
	t.Helper()
	was := cloneWorld(w)
	check := func(list string) {
		t.Helper()
		if !sameWorld(w, was) {
			t.Errorf("%s: the %s of one answer shares memory", name, list)
		}
	}
	overwrite(w.First, -7)
	was.First = slices.Clone(w.First)
	check("First")
	overwrite(w.Log, event{Kind: -7})
	was.Log = slices.Clone(w.Log)
	check("log")
	for id, x := range w.Threads {
		overwrite(x.Prog, instr{Op: -7, A: id})
		was.Threads[id].Prog = slices.Clone(x.Prog)
		check("program")
		overwrite(x.Open, entry{Object: -7, Version: id})
		was.Threads[id].Open = slices.Clone(x.Open)
		check("open list")
		overwrite(x.Stack, frame{Desc: -7, At: id})
		was.Threads[id].Stack = slices.Clone(x.Stack)
		check("stack")
	}
	overwriteStore(t, name, w.Store)
	was.Store = w.Store
	check("store")
	all := w.Threads[:cap(w.Threads)]
	for i := range all {
		all[i] = thread{Id: -7}
	}
}

// guardedWorld keeps a world whose lists have their spare room filled.
type guardedWorld struct {
	world
	first   guarded[int]
	store   guardedStore
	log     guarded[event]
	lists   []guardedThread
	threads []thread
}

const firstBehind = 123

func eventBehind() event   { return opensEvent(0, 0, 4321) }
func threadBehind() thread { return threadOf(3, "set 3 77") }

func guardWorld(w world) guardedWorld {
	g := guardedWorld{first: guard(w.First, firstBehind), store: guardStore(w.Store), log: guard(w.Log, eventBehind())}
	for _, x := range w.Threads {
		guarded := guardThread(x)
		g.lists = append(g.lists, guarded)
		g.threads = append(g.threads, guarded.thread)
	}
	g.threads = append(g.threads, threadBehind(), threadBehind())
	g.world = world{First: g.first.list(), Store: g.store.store, Threads: slices.Clone(g.threads)[:len(w.Threads)], Log: g.log.list()}
	return g
}

func (g guardedWorld) check(t *testing.T, name string) {
	t.Helper()
	g.first.check(t, name+": First")
	g.store.check(t, name)
	g.log.check(t, name+": log")
	for _, x := range g.lists {
		x.check(t, name)
	}
	if whole := g.world.Threads[:len(g.threads)]; !slices.EqualFunc(whole, g.threads, sameThread) {
		t.Errorf("%s: the threads are %v, were %v", name, whole, g.threads)
	}
}

// checkSpareWorld asks that an answer hands out nothing of what lies behind the lists of the arguments.
func checkSpareWorld(t *testing.T, name string, w world) {
	t.Helper()
	if slices.Contains(spare(w.First), firstBehind) || slices.Contains(spare(w.Log), eventBehind()) || slices.ContainsFunc(spare(w.Threads), func(x thread) bool { return sameThread(x, threadBehind()) }) {
		t.Errorf("%s: what lies behind is handed out", name)
	}
	answer := helpAnswer{store: w.Store}
	for _, x := range w.Threads {
		answer.stacks = append(answer.stacks, x.Stack)
		if slices.Contains(spare(x.Open), entryBehind()) || slices.Contains(spare(x.Prog), does(impl.DoSet, 1, 77)) {
			t.Errorf("%s: what lies behind a thread's list is handed out", name)
		}
	}
	checkSpare(t, name, answer)
}

// everyWorld has the good and the bad ones, some in the midst of a run, and some whose threads have one list.
func everyWorld() map[string]world {
	all := goodWorlds()
	maps.Copy(all, badWorlds())
	maps.DeleteFunc(all, func(_ string, w world) bool {
		return len(w.First) > 1000 || len(w.Log) > 8000 || len(w.Threads) > 1000 || len(w.Store.Heads) > 1000 || len(w.Store.Descs) > 1000
	})
	for number, lines := range crowds() {
		w := worldOf([]int{0, 1, 0, 3, 4, 5, 6, 7}, lines...)
		for part, steps := range slices.Collect(slices.Chunk(mixedSteps(number, 200), 20)) {
			all[fmt.Sprint("crowd ", number, " behind ", part)] = w
			w, _ = plainRun(w, steps)
		}
	}
	prog := progOf("read 0 0; write 1 0; commit; go 0")
	one := worldOf([]int{1, 2, 3}, "", "", "", "")
	for id := range one.Threads {
		one.Threads[id].Prog = prog
		one.Threads[id].Open = readsOf(0, 1)[:id%3]
	}
	all["threads have one program"] = one
	first, open, stack := []int{7, 8, 9}, readsOf(0, 2), lookers(0, 1)
	shared := having(fourWorld(), threadOf(0, "commit"))
	shared.First = first[:3:3]
	shared.Threads[2].Open, shared.Threads[2].Check = open, 0
	shared.Threads[0].Open = open[:1]
	shared.Threads[0].Stack, shared.Threads[3].Stack = stack, stack[:1]
	shared.Store.Descs[2].Entries = open
	all["threads have one open list, and one stack"] = shared
	return all
}

// Promise 19: nothing is written into an argument, nor behind it; every answer is new memory, also where all comes back
// as it was; and what lies behind a list counts for nothing, and is not handed out.
func TestWorldsWriteNothingAndShareNothing(t *testing.T) {
	for name, w := range everyWorld() {
		g, steps := guardWorld(w), guard([]int{0, 1, 2, 3, 9, 0, 0, 1}, 2)
		wants := worldAnswers(w, steps.list())
		answers := worldAnswers(g.world, steps.list())
		g.check(t, name+", called")
		steps.check(t, name+", called")
		if impl.WorldOk(g.world) != impl.WorldOk(w) {
			t.Errorf("%s: what lies behind is read", name)
		}
		for i, answer := range answers {
			if !sameWorld(answer, wants[i]) {
				t.Errorf("%s: what lies behind is read: %v, not %v", name, answer, wants[i])
			}
			checkSpareWorld(t, name, answer)
			overwriteWorld(t, name, answer)
		}
		g.check(t, name+", overwritten")
		steps.check(t, name+", overwritten")
	}
}

// What is answered of worlds whose lists are one is what is answered of worlds whose lists are their own.
func TestWorldsOfOneList(t *testing.T) {
	for name, w := range everyWorld() {
		own := cloneWorld(w)
		checkPlainRun(t, name, w, []int{0, 3, 2, 0, 3, 2, 1, 1, 0, 3})
		if !sameWorld(w, own) {
			t.Errorf("%s: is changed to %+v", name, w)
		}
	}
}

// Promise 19: whatever the arguments are, there is an answer, and it is kept nowhere.
func TestWorldsOfOddArguments(t *testing.T) {
	odd := []world{{}, {First: []int{1}}, {Threads: make([]thread, 3)}, {Log: make([]event, 5)}, {Store: threeStore()}}
	for _, number := range edges() {
		x := thread{
			Id: number, At: number, Check: number, Mine: number, State: number, Commits: number, Fails: number,
			Prog: []instr{does(number, number, number)}, Open: []entry{{Object: number}}, Stack: []frame{frameOf(number, number, number)},
		}
		odd = append(odd, world{
			First: []int{number}, Threads: []thread{x}, Log: []event{eventOf(number, number, number, number)},
			Store: store{Heads: []head{headOf(number, number, number)}, Descs: []desc{descOf(number, number, entry{Object: number})}},
		})
	}
	kept := fourWorld()
	want, many := plainRun(kept, []int{0, 1, 2, 3})
	for _, w := range odd {
		for _, who := range edges() {
			checkPlainStepWorld(t, "odd", w, who)
			checkPlainSolo(t, "odd", w, who, who)
			checkPlainSolo(t, "odd", kept, who, 3)
		}
		checkPlainRun(t, "odd", w, edges())
		checkSeen(t, "odd", w)
		checkRun(t, "behind odd", kept, []int{0, 1, 2, 3}, want, many)
	}
}
