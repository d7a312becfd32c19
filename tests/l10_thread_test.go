package tests

import (
	"fmt"
	"math"
	"slices"
	"strings"
	"testing"

	"loop.example/g00087/impl"
)

type (
	thread = impl.Thread
	event  = impl.Event
)

const mostCounted = 1000000

// What a thread's State is, as the document numbers them.
const (
	isRunning = 0
	isDone    = 1
	hasMany   = 2
	isFull    = 3
)

func opensEvent(id int, object int, value int) event {
	return event{Kind: 1, Thread: id, Object: object, Value: value}
}

func seenEvent(id int) event { return event{Kind: 2, Thread: id} }

func commitEvent(owner int, number int) event {
	return event{Kind: 3, Thread: owner, Object: number}
}

func failEvent(id int) event  { return event{Kind: 4, Thread: id} }
func abortEvent(id int) event { return event{Kind: 5, Thread: id} }
func doneEvent(id int) event  { return event{Kind: 6, Thread: id} }

// progOf is the program of the lines, with a `;` and a blank between two.
func progOf(lines string) []instr {
	list, _, ok := impl.ReadProg(strings.ReplaceAll(lines, "; ", "\n") + "\n")
	if !ok {
		panic(lines)
	}
	return list
}

// threadOf is a thread that runs, and that has done nothing yet.
func threadOf(id int, lines string) thread {
	return thread{Id: id, Prog: progOf(lines), Check: -1, Mine: -1}
}

// standing is a thread at a line, with that open.
func standing(id int, lines string, at int, open ...entry) thread {
	x := threadOf(id, lines)
	x.At, x.Open = at, open
	return x
}

func cloneThread(x thread) thread {
	x.Prog, x.Open, x.Stack = slices.Clone(x.Prog), slices.Clone(x.Open), slices.Clone(x.Stack)
	return x
}

func sameThread(a thread, b thread) bool {
	if !slices.Equal(a.Prog, b.Prog) || !slices.Equal(a.Open, b.Open) || !slices.Equal(a.Stack, b.Stack) {
		return false
	}
	return fmt.Sprint(a.Id, a.At, a.Reg, a.Check, a.Mine, a.State, a.Commits, a.Fails) == fmt.Sprint(b.Id, b.At, b.Reg, b.Check, b.Mine, b.State, b.Commits, b.Fails)
}

// with is the thread, changed.
func with(x thread, change func(*thread)) thread {
	then := cloneThread(x)
	change(&then)
	return then
}

// helping is the thread with that stack.
func helping(x thread, stack ...frame) thread {
	return with(x, func(x *thread) { x.Stack = stack })
}

// checking is the thread where that entry is checked next.
func checking(x thread, place int) thread {
	return with(x, func(x *thread) { x.Check = place })
}

// at is the thread at that line.
func at(x thread, line int) thread {
	return with(x, func(x *thread) { x.At = line })
}

// inState is the thread in that State.
func inState(x thread, state int) thread {
	return with(x, func(x *thread) { x.State = state })
}

// holdingRegs is the thread with these registers.
func holdingRegs(x thread, regs ...int) thread {
	return with(x, func(x *thread) { copy(x.Reg[:], regs) })
}

// committing is a thread at the commit that is its only line, by the descriptor that it owns.
func committing(id int, mine int, stack ...frame) thread {
	x := helping(standing(id, "commit", 0, readOf(1, 0, 6)), stack...)
	x.Mine = mine
	return x
}

// plainThreadOk says of a thread in a store what the document does.
func plainThreadOk(s store, x thread) bool {
	if !impl.StoreOk(s) || !impl.StackOk(s, x.Stack) || !plainProg(x.Prog) || !impl.OpenOk(x.Open) {
		return false
	}
	ok := 0 <= x.Id && x.Id < 4 && 0 <= x.At && x.At <= len(x.Prog) && 0 <= x.State && x.State < 4
	ok = ok && 0 <= x.Commits && x.Commits <= 1000000 && 0 <= x.Fails && x.Fails <= 1000000
	ok = ok && (x.Check == -1 || 0 <= x.Check && x.Check <= len(x.Open)-2)
	for _, value := range x.Reg {
		ok = ok && -top <= value && value <= top
	}
	for _, e := range x.Open {
		ok = ok && e.Object < len(s.Heads)
	}
	if !ok || x.Mine == -1 {
		return ok
	}
	ok = 0 <= x.Mine && x.Mine < len(s.Descs) && s.Descs[x.Mine].Owner == x.Id
	return ok && x.Check == -1 && len(x.Stack) > 0 && x.At < len(x.Prog) && x.Prog[x.At].Op == 6
}

// plainStep says what the document does, line by line; the numbers of the things are the document's.
func plainStep(s store, x thread) (store, thread, []event) {
	s, x = cloneStore(s), cloneThread(x)
	if !plainThreadOk(s, x) || x.State != isRunning { // 1
		return s, x, nil
	}
	if len(x.Stack) > 0 { // 2
		return plainHelpStep(s, x)
	}
	if x.Check != -1 { // 3
		return plainCheckStep(s, x)
	}
	if x.At == len(x.Prog) { // 4
		return s, inState(x, isDone), []event{doneEvent(x.Id)}
	}
	in := x.Prog[x.At] // 5
	switch in.Op {
	case 1:
		if place := slices.IndexFunc(x.Open, func(e entry) bool { return e.Object == in.B }); place >= 0 {
			x.Reg[in.A] = x.Open[place].New
			return s, at(x, x.At+1), nil
		}
		return plainOpenStep(s, x, in.B)
	case 2:
		if place := slices.IndexFunc(x.Open, func(e entry) bool { return e.Object == in.A }); place >= 0 {
			x.Open[place].New, x.Open[place].Write = x.Reg[in.B], true
			return s, at(x, x.At+1), nil
		}
		return plainOpenStep(s, x, in.A)
	case 6:
		return plainCommitStep(s, x)
	case 7:
		x.Open = nil
		return s, at(x, x.At+1), []event{abortEvent(x.Id)}
	}
	return s, plainRegStep(x, in), nil
}

func plainFail(x thread) (thread, []event) {
	x.Open, x.Check, x.At, x.Reg = nil, -1, 0, [4]int{}
	if x.Fails < 1000000 {
		x.Fails++
	}
	return x, []event{failEvent(x.Id)}
}

func plainHelpStep(s store, x thread) (store, thread, []event) {
	then, stack := plainHelp(s, x.Stack)
	var events []event
	for number, d := range then.Descs {
		if d.Status == committed && s.Descs[number].Status != committed {
			events = append(events, commitEvent(d.Owner, number))
		}
	}
	x.Stack = stack
	if len(stack) > 0 || x.Mine == -1 {
		return then, x, events
	}
	mine := then.Descs[x.Mine]
	x.Open, x.Mine = nil, -1
	if mine.Status == committed {
		x.Commits, x.At = min(x.Commits+1, 1000000), x.At+1
		return then, x, events
	}
	x, more := plainFail(x)
	return then, x, append(events, more...)
}

func plainCheckStep(s store, x thread) (store, thread, []event) {
	e := x.Open[x.Check]
	h := s.Heads[e.Object]
	if h.Desc != -1 {
		return s, helping(x, frameOf(h.Desc, looks, 0)), nil
	}
	if h.Version != e.Version {
		x, events := plainFail(x)
		return s, x, events
	}
	x.Check++
	if x.Check == len(x.Open)-1 {
		return s, checking(x, -1), []event{seenEvent(x.Id)}
	}
	return s, x, nil
}

func plainOpenStep(s store, x thread, object int) (store, thread, []event) {
	if object >= len(s.Heads) {
		return s, inState(x, isFull), nil
	}
	h := s.Heads[object]
	if h.Desc != -1 {
		return s, helping(x, frameOf(h.Desc, looks, 0)), nil
	}
	if len(x.Open) == 6 {
		return s, inState(x, hasMany), nil
	}
	x.Open = append(x.Open, readOf(object, h.Version, h.Value))
	events := []event{opensEvent(x.Id, object, h.Value)}
	if len(x.Open) > 1 {
		return s, checking(x, 0), events
	}
	return s, x, append(events, seenEvent(x.Id))
}

func plainCommitStep(s store, x thread) (store, thread, []event) {
	if len(x.Open) == 0 {
		x.Commits = min(x.Commits+1, 1000000)
		return s, at(x, x.At+1), nil
	}
	if len(s.Descs) == 60 {
		return s, inState(x, isFull), nil
	}
	entries := slices.Clone(x.Open)
	slices.SortFunc(entries, func(a entry, b entry) int { return a.Object - b.Object })
	x.Mine = len(s.Descs)
	s.Descs = append(s.Descs, descOf(x.Id, undecided, entries...))
	return s, helping(x, frameOf(x.Mine, looks, 0)), nil
}

// plainRegStep is of DoSet, DoAdd, DoIf and DoGo.
func plainRegStep(x thread, in instr) thread {
	line := x.At + 1
	switch in.Op {
	case 3:
		x.Reg[in.A] = in.B
	case 4:
		sum := x.Reg[in.A] + x.Reg[in.B]
		if sum > top {
			sum = top
		} else if sum < -top {
			sum = -top
		}
		x.Reg[in.A] = sum
	case 5:
		if x.Reg[in.A] != 0 {
			line = in.B
		}
	case 8:
		line = in.A
	}
	return at(x, line)
}

func TestLimitsOfThreads(t *testing.T) {
	if !slices.Equal([]int{impl.ThreadRuns, impl.ThreadDone, impl.ThreadMany, impl.ThreadFull}, []int{isRunning, isDone, hasMany, isFull}) {
		t.Error("states")
	}
	if !slices.Equal([]int{impl.EvOpen, impl.EvSeen, impl.EvCommit, impl.EvFail, impl.EvAbort, impl.EvDone}, placesTo(7)[1:]) {
		t.Error("kinds of events")
	}
}

// someThread is at the limits of nothing in threeStore: it has three open, of which it checks the second one next.
func someThread() thread {
	x := standing(2, "read 0 1; set 1 7; write 2 1; read 3 0; commit", 3, readOf(1, 0, 6), writeOf(2, mostVersions, -7, 7), readOf(0, 3, 5))
	x.Reg, x.Check, x.Commits, x.Fails = [4]int{6, 7, 0, -9}, 1, 12, 34
	return x
}

// goodThreads are ThreadOk in threeStore, at the limits and within.
func goodThreads() map[string]thread {
	some := someThread()
	mine := committing(0, 0, frameOf(0, looks, 0))
	good := map[string]thread{
		"some":                          some,
		"no program":                    {Check: -1, Mine: -1},
		"no program, and lists not nil": {Prog: []instr{}, Open: []entry{}, Stack: []frame{}, Check: -1, Mine: -1},
		"at first":                      threadOf(0, "read 0 1; commit"),
		"the last Id":                   threadOf(3, "read 0 1; commit"),
		"most lines, at the last one":   at(thread{Prog: commits(30), Check: -1, Mine: -1}, 29),
		"most lines, at the end":        at(thread{Prog: commits(30), Check: -1, Mine: -1}, 30),
		"at the end":                    checking(at(some, 5), -1),
		"at the end, and checks":        at(some, 5),
		"registers at both limits":      holdingRegs(some, top, -top, top, -top),
		"checks none":                   checking(some, -1),
		"checks the first":              checking(some, 0),
		"checks the first of two":       checking(standing(0, "commit", 0, readsOf(2, 1)...), 0),
		"opened what is there no more":  standing(1, "commit", 0, readOf(0, 77, 78), readOf(2, 0, 0)),
		"opened one":                    standing(1, "commit", 0, readOf(2, 0, 0)),
		"helps, and checks":             helping(some, frameOf(1, frees, 0), frameOf(0, lays, 2)),
		"helps with most frames":        helping(some, alike(frameOf(2, decides, 0), 130)...),
		"helps its own, Mine none":      helping(threadOf(0, "commit"), frameOf(0, looks, 0)),
		"commits":                       mine,
		"commits by the last one":       committing(3, 2, frameOf(2, frees, 1)),
		"commits with most frames":      committing(1, 1, alike(frameOf(0, lays, 0), 130)...),
		"commits, and drives others":    committing(1, 1, frameOf(0, lays, 0)),
		"commits with nothing open":     with(mine, func(x *thread) { x.Open = nil }),
		"commits by what it opened not": with(mine, func(x *thread) { x.Open = []entry{writeOf(2, 5, 5, 5)} }),
		"commits at a later line":       with(mine, func(x *thread) { x.Prog, x.At = progOf("abort; commit; go 0"), 1 }),
		"commits, and is done":          inState(mine, isDone),
		"no Commits, no Fails":          with(some, func(x *thread) { x.Commits, x.Fails = 0, 0 }),
		"most Commits, most Fails":      with(some, func(x *thread) { x.Commits, x.Fails = mostCounted, mostCounted }),
		"reads of an object not there":  threadOf(0, "read 0 3; write 7 3"),
	}
	for state := range 4 {
		good[fmt.Sprint("in State ", state)] = inState(some, state)
		good[fmt.Sprint("at first in State ", state)] = inState(threadOf(1, "go 0"), state)
	}
	return good
}

// badThreads are not ThreadOk in threeStore, each for one reason.
func badThreads() map[string]thread {
	some, none := someThread(), checking(someThread(), -1)
	mine := committing(0, 0, frameOf(0, looks, 0))
	bad := map[string]thread{
		"Check is 0 of no program":                {Mine: -1},
		"at the end and one more":                 at(none, 6),
		"past the end of no program":              {At: 1, Check: -1, Mine: -1},
		"past the end of most lines":              at(thread{Prog: commits(30), Check: -1, Mine: -1}, 31),
		"checks the last":                         checking(some, 2),
		"checks behind the last":                  checking(some, 3),
		"checks the only one":                     checking(standing(0, "commit", 0, readOf(0, 3, 5)), 0),
		"checks with nothing open":                checking(threadOf(0, "commit"), 0),
		"checks what is below none":               checking(some, -2),
		"checks what is below none, nothing open": checking(threadOf(0, "commit"), -2),
		"opened an object past the last":          standing(0, "commit", 0, readsOf(3)...),
		"opened one that is, and one that is not": standing(0, "commit", 0, readsOf(0, 3)...),
		"opened the last there can be":            standing(0, "commit", 0, readsOf(7, 1)...),
		"Mine is below none":                      with(mine, func(x *thread) { x.Mine = -2 }),
		"Mine is past the last":                   with(mine, func(x *thread) { x.Mine = 3 }),
		"Mine is another thread's":                with(mine, func(x *thread) { x.Mine = 1 }),
		"Mine is of the last thread":              with(mine, func(x *thread) { x.Mine = 2 }),
		"Mine, of another thread":                 with(mine, func(x *thread) { x.Id = 1 }),
		"Mine and no stack":                       helping(mine),
		"Mine and a Check":                        with(mine, func(x *thread) { x.Open, x.Check = readsOf(0, 1), 0 }),
		"Mine at the end":                         at(mine, 1),
		"Mine with no program":                    with(mine, func(x *thread) { x.Prog = nil }),
		"Mine ahead of a commit":                  with(mine, func(x *thread) { x.Prog = progOf("abort; commit") }),
		"Mine behind a commit":                    with(mine, func(x *thread) { x.Prog, x.At = progOf("commit; go 0"), 1 }),
	}
	for _, line := range strings.Split("read 0 0; write 0 0; set 0 6; add 0 0; if 0 0; abort; go 0", "; ") {
		bad["Mine at "+line] = with(mine, func(x *thread) { x.Prog = progOf(line) })
	}
	for name, prog := range badProgs() {
		if len(prog) < 40 {
			bad["a program: "+name] = thread{Prog: prog, Check: -1, Mine: -1}
		}
	}
	for name, list := range badOpenLists() {
		bad["an open list: "+name] = standing(0, "commit", 0, list...)
	}
	for name, stack := range badStacks(threeStore()) {
		bad["a stack: "+name] = helping(none, stack...)
		bad["a stack, with Mine: "+name] = helping(mine, stack...)
	}
	return bad
}

func TestThreadOk(t *testing.T) {
	for name, x := range goodThreads() {
		if !impl.ThreadOk(threeStore(), x) {
			t.Errorf("%s: refused", name)
		}
		for what, s := range badStores() {
			if impl.ThreadOk(s, x) {
				t.Errorf("%s: %s: taken", what, name)
			}
		}
	}
	for name, x := range badThreads() {
		if impl.ThreadOk(threeStore(), x) {
			t.Errorf("%s: taken", name)
		}
	}
	for name, s := range goodStores() {
		if !impl.ThreadOk(s, threadOf(2, "read 0 7; commit")) || impl.ThreadOk(s, helping(threadOf(2, "commit"), frameOf(len(s.Descs), looks, 0))) {
			t.Errorf("%s: a thread at first: refused, or one of a frame that is none: taken", name)
		}
	}
}

// eachEdge changes each number of the thread to each edge, and tells of which field it is.
func eachEdge(x thread, yield func(string, thread)) {
	fields := map[string]func(*thread) *int{
		"Id":      func(x *thread) *int { return &x.Id },
		"At":      func(x *thread) *int { return &x.At },
		"Reg 0":   func(x *thread) *int { return &x.Reg[0] },
		"Reg 3":   func(x *thread) *int { return &x.Reg[3] },
		"Check":   func(x *thread) *int { return &x.Check },
		"Mine":    func(x *thread) *int { return &x.Mine },
		"State":   func(x *thread) *int { return &x.State },
		"Commits": func(x *thread) *int { return &x.Commits },
		"Fails":   func(x *thread) *int { return &x.Fails },
	}
	for name, field := range fields {
		for _, number := range append(edges(), -2, 5, 6, 29, 30, 31, 59, 60, mostCounted-1) {
			yield(fmt.Sprint(name, " ", number), with(x, func(x *thread) { *field(x) = number }))
		}
	}
}

// Each number at the edges, of each good thread: taken or refused as the document says, and never panicked over.
func TestThreadsOverEdges(t *testing.T) {
	for name, good := range goodThreads() {
		eachEdge(good, func(edge string, x thread) {
			if impl.ThreadOk(threeStore(), x) != plainThreadOk(threeStore(), x) {
				t.Errorf("%s: %s: not %v", name, edge, plainThreadOk(threeStore(), x))
			}
			checkPlainStep(t, name+", "+edge, threeStore(), x)
		})
	}
}

func TestNewThread(t *testing.T) {
	for id := range 4 {
		for text, prog := range goodProgs() {
			x, ok := impl.NewThread(id, prog)
			if !ok || !sameThread(x, thread{Id: id, Prog: prog, Check: -1, Mine: -1}) || !impl.ThreadOk(threeStore(), x) {
				t.Errorf("%d %q: %v %v", id, text, x, ok)
			}
		}
		for name, prog := range badProgs() {
			if x, ok := impl.NewThread(id, prog); ok || !sameThread(x, thread{}) {
				t.Errorf("%d: %s: %v %v", id, name, x, ok)
			}
		}
	}
	for _, id := range []int{math.MinInt, -4, -1, 4, 5, 8, top, math.MaxInt} {
		for _, prog := range [][]instr{nil, commits(1), commits(30), commits(31)} {
			if x, ok := impl.NewThread(id, prog); ok || !sameThread(x, thread{}) {
				t.Errorf("%d: %v %v", id, x, ok)
			}
		}
	}
}

func TestIdle(t *testing.T) {
	for _, state := range edges() {
		for _, x := range []thread{{}, threadOf(1, "commit"), someThread(), {Id: -1, At: 99, Commits: -1}} {
			if impl.Idle(inState(x, state)) != (state != 0) {
				t.Error("State", state)
			}
		}
	}
}

// checkStep asks what a step comes to, and that it leaves all right.
func checkStep(t *testing.T, name string, s store, x thread, want store, wantThread thread, events ...event) {
	t.Helper()
	then, next, told := impl.StepThread(s, x)
	if !sameStore(then, want) || !sameThread(next, wantThread) || !slices.Equal(told, events) {
		t.Fatalf("%s: %v\n%+v:\n%v\n%+v %v, not\n%v\n%+v %v", name, s, x, then, next, told, want, wantThread, events)
	}
	checkRight(t, name, s, x, then, next, told)
}

func checkPlainStep(t *testing.T, name string, s store, x thread) {
	t.Helper()
	want, wantThread, events := plainStep(s, x)
	checkStep(t, name, s, x, want, wantThread, events...)
}

// checkRight asks promise 10: a step leaves a thread and its store right, and is one commit or one failure at most.
func checkRight(t *testing.T, name string, s store, x thread, then store, next thread, told []event) {
	t.Helper()
	if impl.ThreadOk(s, x) && !impl.ThreadOk(then, next) {
		t.Fatalf("%s: %+v: not right then: %+v", name, x, next)
	}
	ends := 0
	for _, e := range told {
		if e.Kind == impl.EvCommit || e.Kind == impl.EvFail {
			ends++
		}
		if e.Kind == impl.EvFail && next.Fails != min(x.Fails+1, mostCounted) {
			t.Fatalf("%s: %+v: fails and is not counted: %+v", name, x, next)
		}
	}
	if more := next.Commits - x.Commits + next.Fails - x.Fails; ends > 1 || more < 0 || more > 1 {
		t.Fatalf("%s: %+v: more than one end: %v %+v", name, x, told, next)
	}
}

func TestStepRefuses(t *testing.T) {
	for name, x := range badThreads() {
		checkStep(t, name, threeStore(), x, threeStore(), x)
	}
	for name, s := range badStores() {
		for what, x := range goodThreads() {
			checkStep(t, name+", "+what, s, x, s, x)
		}
	}
}

// A thread that does not run does nothing, whatever it stands at.
func TestStepOfIdleThreads(t *testing.T) {
	for name, x := range goodThreads() {
		for state := 1; state < 4; state++ {
			checkStep(t, name, threeStore(), inState(x, state), threeStore(), inState(x, state))
		}
	}
}

// Of two or more of the five things the first one is done, and none of the others.
func TestStepDoesTheFirst(t *testing.T) {
	s := threeStore()
	open := []entry{readOf(0, 3, 5), readOf(1, 0, 6), readOf(2, mostVersions, -7)}
	lines := "abort; set 0 1; commit"
	all := helping(checking(standing(1, lines, 3, open...), 0), frameOf(1, looks, 0))
	checkStep(t, "it does not run, ahead of all", s, inState(all, isFull), s, inState(all, isFull))
	checkStep(t, "the stack, ahead of the check at the end", s, all, s, helping(all, frameOf(1, lays, 0)))
	checkStep(t, "the stack, ahead of the check at a line", s, at(all, 0), s, helping(at(all, 0), frameOf(1, lays, 0)))
	checkStep(t, "the stack, ahead of the end", s, checking(all, -1), s, helping(checking(all, -1), frameOf(1, lays, 0)))
	checkStep(t, "the stack, ahead of a line", s, at(checking(all, -1), 0), s, helping(at(checking(all, -1), 0), frameOf(1, lays, 0)))
	checkStep(t, "the check, ahead of the end", s, helping(all), s, checking(helping(all), 1))
	for line := range 3 {
		x := helping(at(all, line))
		checkStep(t, "the check, ahead of a line", s, x, s, checking(x, 1))
	}
	x := helping(checking(all, -1))
	checkStep(t, "the end, with much open", s, x, s, inState(x, isDone), doneEvent(1))
	// Where the stack becomes empty, that was the step: what waits is checked in the next one.
	ends := helping(all, frameOf(1, frees, 0))
	checkStep(t, "the stack becomes empty", s, ends, s, helping(all))
	checkStep(t, "and then the check", s, helping(all), s, checking(helping(all), 1))
	last := checking(helping(all), 1)
	checkStep(t, "and then the last check", s, last, s, checking(last, -1), seenEvent(1))
}

// A step of a stack is one of Help; the thread stays as it is but for the stack.
func TestStepHelps(t *testing.T) {
	s := threeStore()
	mine := laid(s, 0, 0, 1, 2)
	for name, x := range map[string]thread{
		"at a line": threadOf(2, "commit"), "at the end": at(threadOf(2, "commit"), 1), "in a check": someThread(),
		"with much open": standing(2, "abort", 0, readsOf(2, 0)...), "with registers": holdingRegs(threadOf(2, "read 0 0"), 1, 2, 3, 4),
	} {
		checkStep(t, name, s, helping(x, frameOf(0, looks, 0)), s, helping(x, frameOf(0, lays, 0)))
		checkStep(t, name, s, helping(x, frameOf(0, lays, 1)), laid(s, 0, 1), helping(x, frameOf(0, lays, 2)))
		checkStep(t, name, mine, helping(x, frameOf(1, lays, 0)), mine, helping(x, frameOf(1, looks, 0), frameOf(0, looks, 0)))
		full := helping(x, alike(frameOf(1, lays, 0), 130)...)
		checkStep(t, name, mine, full, mine, full)
		checkStep(t, name, s, helping(x, frameOf(1, fails, 0)), decided(s, 1, failed), helping(x, frameOf(1, frees, 0)))
		below := helping(x, frameOf(2, lays, 1), frameOf(1, frees, 0))
		checkStep(t, name, s, below, s, helping(x, frameOf(2, lays, 1)))
		// A descriptor of whomever: its Owner is told, not who helps.
		for number, owner := range []int{0, 1, 3} {
			helps := helping(x, frameOf(number, decides, 0))
			checkStep(t, name, s, helps, decided(s, number, committed), helping(x, frameOf(number, frees, 0)), commitEvent(owner, number))
			for status := 1; status < 3; status++ {
				already := decided(s, number, status)
				checkStep(t, name+", decided already", already, helps, already, helping(x, frameOf(number, frees, 0)))
			}
		}
		// With Mine none an empty stack is no end of an attempt, whatever became of the descriptor.
		for status := range 3 {
			over := decided(s, 1, status)
			checkStep(t, name+", over", over, helping(x, frameOf(1, frees, 0)), over, x)
		}
	}
}

// Whoever decided its descriptor, the thread's attempt ends when its stack is empty, and not ahead of that.
func TestStepEndsAnAttempt(t *testing.T) {
	s := laid(threeStore(), 1, 1)
	x := committing(1, 1, frameOf(1, frees, 0))
	x.Prog, x.At, x.Commits, x.Fails = progOf("set 0 5; commit; abort"), 1, 7, 8
	x = holdingRegs(x, 5, -6, 7, -8)

	decides1 := helping(x, frameOf(1, decides, 0))
	checkStep(t, "its own is committed", s, decides1, decided(s, 1, committed), x, commitEvent(1, 1))
	checkStep(t, "its own has failed", s, helping(x, frameOf(1, fails, 0)), decided(s, 1, failed), x)
	below := helping(x, frameOf(1, lays, 0), frameOf(1, decides, 0))
	checkStep(t, "its own is committed, with one below", s, below, decided(s, 1, committed), helping(x, frameOf(1, lays, 0), frameOf(1, frees, 0)), commitEvent(1, 1))

	done := decided(s, 1, committed)
	ended := with(x, func(x *thread) { x.Open, x.Stack, x.Mine, x.Commits, x.At = nil, nil, -1, 8, 2 })
	checkStep(t, "committed", done, x, holding(done, 1, headOf(60, 1, -1)), ended)
	for status, name := range map[int]string{undecided: "undecided", failed: "failed"} {
		s := decided(s, 1, status)
		again := with(x, func(x *thread) {
			x.Open, x.Stack, x.Mine, x.Fails, x.At, x.Reg = nil, nil, -1, 9, 0, [4]int{}
		})
		checkStep(t, name, s, x, laid(s, -1, 1), again, failEvent(1))
	}
	// It is its own that counts, not the one that it drove last.
	other := decided(decided(threeStore(), 1, committed), 2, failed)
	last := helping(x, frameOf(2, frees, 1))
	checkStep(t, "another one is over", other, last, other, ended)
	other = decided(decided(threeStore(), 1, failed), 2, committed)
	again, events := plainFail(with(last, func(x *thread) { x.Stack, x.Mine = nil, -1 }))
	checkStep(t, "another one is over", other, last, other, again, events...)
	// With something left on the stack nothing ends.
	left := helping(x, frameOf(1, looks, 0), frameOf(1, frees, 0))
	checkStep(t, "something is left", done, left, holding(done, 1, headOf(60, 1, -1)), helping(x, frameOf(1, looks, 0)))
	lost := decided(s, 1, failed)
	checkStep(t, "something is left", lost, left, laid(lost, -1, 1), helping(x, frameOf(1, looks, 0)))
	// A commit as the last line comes to the end.
	checkStep(t, "at the last line", done, committing(1, 1, frameOf(1, frees, 0)), holding(done, 1, headOf(60, 1, -1)),
		with(at(threadOf(1, "commit"), 1), func(x *thread) { x.Commits = 1 }))
}

// Commits and Fails stay at 10^6, whatever they are counted for.
func TestStepCountsNoFurther(t *testing.T) {
	s := threeStore()
	for _, c := range []struct{ was, then int }{{0, 1}, {mostCounted - 2, mostCounted - 1}, {mostCounted - 1, mostCounted}, {mostCounted, mostCounted}} {
		counted := func(x thread, commits int, fails int) thread {
			return with(x, func(x *thread) { x.Commits, x.Fails = commits, fails })
		}
		one := threadOf(1, "commit")
		checkStep(t, "nothing open", s, counted(one, c.was, c.was), s, counted(at(one, 1), c.then, c.was))
		over := committing(1, 1, frameOf(1, frees, 0))
		done := decided(s, 1, committed)
		checkStep(t, "committed", done, counted(over, c.was, c.was), done, counted(at(one, 1), c.then, c.was))
		lost := decided(s, 1, failed)
		checkStep(t, "failed", lost, counted(over, c.was, c.was), lost, counted(one, c.was, c.then), failEvent(1))
		late := checking(standing(1, "commit", 0, readOf(0, 2, 5), readOf(1, 0, 6)), 0)
		checkStep(t, "checked", s, counted(late, c.was, c.was), s, counted(one, c.was, c.then), failEvent(1))
	}
}

func TestStepChecks(t *testing.T) {
	s := threeStore()
	x := standing(3, "set 2 4; abort; go 1", 1, readOf(1, 0, 6), writeOf(2, mostVersions, 9, 9), readOf(0, 3, 5))
	x = holdingRegs(x, 1, 2, 3, 4)
	first, second := checking(x, 0), checking(x, 1)
	checkStep(t, "another one is left", s, first, s, second)
	checkStep(t, "only the last one is left", s, second, s, checking(x, -1), seenEvent(3))
	two := checking(standing(3, "commit", 0, readOf(1, 0, 6), readOf(0, 3, 5)), 0)
	checkStep(t, "of two", s, two, s, checking(two, -1), seenEvent(3))

	// A descriptor that lies there comes first, whatever the version is, and whatever became of it.
	for status := range 3 {
		lies := decided(laid(s, 1, 1), 1, status)
		checkStep(t, "one lies there", lies, first, lies, helping(first, frameOf(1, looks, 0)))
		lies = decided(laid(s, 2, 2), 2, status)
		checkStep(t, "one lies there", lies, second, lies, helping(second, frameOf(2, looks, 0)))
		lies = decided(holding(s, 1, headOf(6, 1, 0)), 0, status)
		checkStep(t, "one lies there, and another version", lies, first, lies, helping(first, frameOf(0, looks, 0)))
		lies = laid(laid(s, 2, 0, 2), 0, 1)
		lies = decided(lies, 0, status)
		checkStep(t, "of the number 0", lies, first, lies, helping(first, frameOf(0, looks, 0)))
	}
	// Another version, greater or less, and whichever entry it is of.
	for _, version := range []int{1, 2, mostVersions} {
		late := holding(s, 1, headOf(6, version, -1))
		checkStep(t, "another version", late, first, late, with(threadOf(3, "set 2 4; abort; go 1"), func(x *thread) { x.Fails = 1 }), failEvent(3))
		late = holding(s, 2, headOf(9, version-1, -1))
		checkStep(t, "another version, of the last but one", late, second, late, with(threadOf(3, "set 2 4; abort; go 1"), func(x *thread) { x.Fails = 1 }), failEvent(3))
	}
	// It is the version that is checked, and not the value; of that entry, and of no other one.
	other := holding(s, 1, headOf(1234, 0, -1))
	checkStep(t, "another value", other, first, other, second)
	elsewhere := holding(laid(s, 2, 0), 2, headOf(0, 5, 0))
	checkStep(t, "something else at another one", elsewhere, first, elsewhere, second)
	last := holding(s, 0, headOf(5, 4, -1))
	checkStep(t, "another version of the last one", last, second, last, checking(x, -1), seenEvent(3))
}

// All entries but the last one are checked, one a step, as many as can be open.
func TestStepChecksAllOfMost(t *testing.T) {
	s := store{Heads: plainHeads(8)}
	x := checking(standing(0, "commit", 0, readsOf(7, 2, 5, 0, 6, 1)...), 0)
	for place := range 4 {
		checkStep(t, "most", s, checking(x, place), s, checking(x, place+1))
	}
	checkStep(t, "most, the last", s, checking(x, 4), s, checking(x, -1), seenEvent(0))
	for place, object := range []int{7, 2, 5, 0, 6} {
		late := holding(s, object, headOf(-20-object, 11+object, -1))
		checkStep(t, "most, one late", late, checking(x, place), late, with(threadOf(0, "commit"), func(x *thread) { x.Fails = 1 }), failEvent(0))
	}
}

func TestStepAtTheEnd(t *testing.T) {
	for id := range 4 {
		for _, x := range []thread{
			{Id: id, Check: -1, Mine: -1}, at(threadOf(id, "commit"), 1), at(thread{Id: id, Prog: commits(30), Check: -1, Mine: -1}, 30),
			holdingRegs(standing(id, "go 1", 1, readsOf(0, 2)...), 9, 9),
		} {
			for _, s := range []store{threeStore(), laid(threeStore(), 0, 0, 1, 2)} {
				checkStep(t, "at the end", s, x, s, inState(x, isDone), doneEvent(id))
			}
		}
	}
}

// eachOpener has both instructions that open an object.
func eachOpener(object int) []string {
	return []string{fmt.Sprint("read 3 ", object), fmt.Sprint("write ", object, " 3")}
}

func TestStepOpens(t *testing.T) {
	s := threeStore()
	for object, h := range s.Heads {
		for _, line := range eachOpener(object) {
			x := holdingRegs(threadOf(2, line+"; commit"), 0, 0, 0, 77)
			opened := with(x, func(x *thread) { x.Open = []entry{readOf(object, h.Version, h.Value)} })
			checkStep(t, line, s, x, s, opened, opensEvent(2, object, h.Value), seenEvent(2))
			// As a later one: those ahead of it are checked from the first on, and so nothing is seen yet.
			for _, other := range placesTo(3) {
				if other == object {
					continue
				}
				x := standing(0, line, 0, writeOf(other, 9, 8, 7))
				later := checking(with(x, func(x *thread) { x.Open = append(x.Open, readOf(object, h.Version, h.Value)) }), 0)
				checkStep(t, line+", behind another one", s, x, s, later, opensEvent(0, object, h.Value))
			}
		}
	}
	// At MaxOpen less one there is room, for whatever object.
	most := store{Heads: plainHeads(8)}
	for _, line := range eachOpener(6) {
		x := standing(1, line, 0, readsOf(5, 0, 3, 1, 4)...)
		later := checking(with(x, func(x *thread) { x.Open = readsOf(5, 0, 3, 1, 4, 6) }), 0)
		checkStep(t, line+", as the last of most", most, x, most, later, opensEvent(1, 6, -26))
	}
}

func TestStepOpensNone(t *testing.T) {
	s := threeStore()
	for _, object := range []int{3, 4, 7} {
		for _, line := range eachOpener(object) {
			for _, x := range []thread{threadOf(1, line), standing(1, "abort; "+line, 1, readsOf(0, 1, 2)...)} {
				checkStep(t, line, s, x, s, inState(x, isFull))
				checkStep(t, line+", and all lie", laid(s, 0, 0, 1, 2), x, laid(s, 0, 0, 1, 2), inState(x, isFull))
			}
		}
	}
	// An object that is not there counts ahead of MaxOpen.
	seven := store{Heads: plainHeads(7)}
	for _, line := range eachOpener(7) {
		x := standing(1, line, 0, readsOf(0, 1, 2, 3, 4, 5)...)
		checkStep(t, line, seven, x, seven, inState(x, isFull))
	}
	eight := store{Heads: plainHeads(8)}
	for _, line := range eachOpener(7) {
		x := standing(1, line, 0, readsOf(0, 1, 2, 3, 4, 5)...)
		checkStep(t, line+", with MaxOpen", eight, x, eight, inState(x, hasMany))
		// So does a descriptor that lies there.
		lies := store{Heads: plainHeads(8), Descs: []desc{descOf(1, committed, writesOf(6, 7)...)}}
		lies.Heads[7].Desc = 0
		checkStep(t, line+", with MaxOpen, and one lies there", lies, x, lies, helping(x, frameOf(0, looks, 0)))
	}
}

func TestStepHelpsAheadOfOpening(t *testing.T) {
	for status := range 3 {
		s := decided(laid(laid(threeStore(), 0, 1), 2, 0, 2), 2, status)
		for object, number := range []int{2, 0, 2} {
			for _, line := range eachOpener(object) {
				x := threadOf(0, line)
				checkStep(t, line, s, x, s, helping(x, frameOf(number, looks, 0)))
				x = standing(0, line, 0, readsOf((object+1)%3)...)
				checkStep(t, line+", as a later one", s, x, s, helping(x, frameOf(number, looks, 0)))
			}
		}
	}
}

// What is open is read and written whatever lies over it, and whatever became of it: it is seen as it was opened.
func TestStepReadsAndWrites(t *testing.T) {
	three := threeStore()
	open := []entry{readOf(1, 0, 6), writeOf(2, 5, 40, -41), readOf(0, 3, top)}
	for name, s := range map[string]store{"nothing lies": three, "all lie": laid(three, 0, 0, 1, 2), "other versions": holding(three, 1, headOf(99, 8, -1))} {
		for object, value := range []int{top, 6, -41} {
			for register := range 4 {
				x := holdingRegs(standing(3, fmt.Sprint("abort; read ", register, " ", object), 1, open...), 11, 12, 13, 14)
				read := with(x, func(x *thread) { x.Reg[register], x.At = value, 2 })
				checkStep(t, name+", read", s, x, s, read)
				x = holdingRegs(standing(3, fmt.Sprint("write ", object, " ", register, "; abort"), 0, open...), -top, 12, top, 0)
				written := with(x, func(x *thread) {
					place := []int{2, 0, 1}[object]
					x.Open[place].New, x.Open[place].Write, x.At = x.Reg[register], true, 1
				})
				checkStep(t, name+", write", s, x, s, written)
			}
		}
	}
	// What the value is already is written all the same.
	x := holdingRegs(standing(0, "write 1 2", 0, readOf(1, 0, 6)), 0, 0, 6)
	checkStep(t, "written as read", three, x, three, with(x, func(x *thread) { x.Open[0].Write, x.At = true, 1 }))
}

func TestStepSetsAndAdds(t *testing.T) {
	s := threeStore()
	for _, c := range []struct {
		line       string
		regs, want []int
	}{
		{"set 0 -7", []int{1, 2, 3, 4}, []int{-7, 2, 3, 4}},
		{"set 3 1000000000", []int{1, 2, 3, 4}, []int{1, 2, 3, top}},
		{"set 2 -1000000000", []int{1, 2, top, 4}, []int{1, 2, -top, 4}},
		{"set 1 0", []int{1, 2, 3, 4}, []int{1, 0, 3, 4}},
		{"add 0 1", []int{1, 2, 3, 4}, []int{3, 2, 3, 4}},
		{"add 1 0", []int{1, -2, 3, 4}, []int{1, -1, 3, 4}},
		{"add 3 3", []int{1, 2, 3, 4}, []int{1, 2, 3, 8}},
		{"add 2 3", []int{0, 0, top - 1, 1}, []int{0, 0, top, 1}},
		{"add 2 3", []int{0, 0, top - 1, 2}, []int{0, 0, top, 2}},
		{"add 2 3", []int{0, 0, top, 1}, []int{0, 0, top, 1}},
		{"add 2 3", []int{0, 0, top, -1}, []int{0, 0, top - 1, -1}},
		{"add 0 1", []int{top, -top}, []int{0, -top}},
		{"add 0 1", []int{1 - top, -1}, []int{-top, -1}},
		{"add 0 1", []int{1 - top, -2}, []int{-top, -2}},
		{"add 0 0", []int{top}, []int{top}},
		{"add 0 0", []int{-top}, []int{-top}},
	} {
		for _, open := range [][]entry{nil, readsOf(0, 2)} {
			x := holdingRegs(standing(0, c.line+"; commit", 0, open...), c.regs...)
			checkStep(t, c.line, s, x, s, holdingRegs(at(x, 1), c.want...))
			x = holdingRegs(standing(0, "abort; "+c.line, 1, open...), c.regs...)
			checkStep(t, c.line+", to the end", s, x, s, holdingRegs(at(x, 2), c.want...))
		}
	}
}

func TestStepGoesOn(t *testing.T) {
	s := threeStore()
	for line := range 5 {
		for from := range 4 {
			x := at(threadOf(1, "abort; abort; abort; abort"), from)
			x.Open = readsOf(2, 1)
			jumps := with(x, func(x *thread) { x.Prog[from] = does(impl.DoGo, line, 0) })
			checkStep(t, "go", s, jumps, s, at(jumps, line))
			for register := range 4 {
				jumps := with(x, func(x *thread) { x.Prog[from] = does(impl.DoIf, register, line) })
				for _, value := range []int{-top, -1, 1, 2, top} {
					some := with(jumps, func(x *thread) { x.Reg[register] = value })
					checkStep(t, "if", s, some, s, at(some, line))
				}
				rest := holdingRegs(jumps, 5, 6, 7, 8)
				rest.Reg[register] = 0
				checkStep(t, "if of 0", s, rest, s, at(rest, from+1))
			}
		}
	}
}

func TestStepCommits(t *testing.T) {
	s := threeStore()
	nothing := holdingRegs(standing(0, "abort; commit; abort", 1), 1, 2, 3, 4)
	checkStep(t, "nothing open", s, nothing, s, with(nothing, func(x *thread) { x.At, x.Commits = 2, 1 }))
	full := store{Heads: plainHeads(3), Descs: alike(descOf(2, committed, writesOf(1)...), 60)}
	checkStep(t, "nothing open, and MaxDescs", full, nothing, full, with(nothing, func(x *thread) { x.At, x.Commits = 2, 1 }))

	// In order of the objects, whatever the order in which they were opened, and whatever lies over them.
	open := []entry{readOf(2, 5, 40), writeOf(0, 77, 7, 8), readOf(1, 0, 6)}
	for id := range 4 {
		for _, s := range []store{s, laid(s, 0, 0, 1, 2), {Heads: plainHeads(8)}} {
			x := standing(id, "commit; go 0", 0, open...)
			x = holdingRegs(x, 1, 2, 3, 4)
			want, number := cloneStore(s), len(s.Descs)
			want.Descs = append(want.Descs, descOf(id, undecided, open[1], open[2], open[0]))
			checkStep(t, "something open", s, x, want, with(helping(x, frameOf(number, looks, 0)), func(x *thread) { x.Mine = number }))
		}
	}
	one := standing(2, "commit", 0, readsOf(1)...)
	checkStep(t, "MaxDescs", full, one, full, inState(one, isFull))
	full.Descs = full.Descs[:59]
	want := cloneStore(full)
	want.Descs = append(want.Descs, descOf(2, undecided, readsOf(1)...))
	checkStep(t, "MaxDescs less one", full, one, want, with(helping(one, frameOf(59, looks, 0)), func(x *thread) { x.Mine = 59 }))
	// Most entries.
	eight := store{Heads: plainHeads(8)}
	six := standing(1, "commit", 0, writesOf(7, 1, 6, 2, 5, 3)...)
	want = store{Heads: plainHeads(8), Descs: []desc{descOf(1, undecided, writesOf(1, 2, 3, 5, 6, 7)...)}}
	checkStep(t, "most entries", eight, six, want, with(helping(six, frameOf(0, looks, 0)), func(x *thread) { x.Mine = 0 }))
}

func TestStepAborts(t *testing.T) {
	for _, s := range []store{threeStore(), laid(threeStore(), 0, 0, 1, 2)} {
		for _, open := range [][]entry{nil, readsOf(1), writesOf(2, 0, 1)} {
			x := holdingRegs(standing(3, "abort; abort", 0, open...), 1, 2, 3, 4)
			x.Commits, x.Fails = 5, 6
			forgot := with(x, func(x *thread) { x.Open, x.At = nil, 1 })
			checkStep(t, "abort", s, x, s, forgot, abortEvent(3))
			x = at(x, 1)
			checkStep(t, "abort, to the end", s, x, s, at(forgot, 2), abortEvent(3))
		}
	}
}

// One thread alone, step by step: what it opens is checked, and what it commits is done.
func TestThreadStepByStep(t *testing.T) {
	s := store{Heads: []head{headOf(5, 0, -1), headOf(6, 4, -1)}}
	x := threadOf(1, "read 1 0; read 2 1; add 1 2; write 1 1; commit")
	text := ""
	for range 18 {
		checkPlainStep(t, "step", s, x)
		var events []event
		s, x, events = impl.StepThread(s, x)
		text += fmt.Sprintf(" %d%v", x.At, events)
	}
	want := " 0[{1 1 0 5} {2 1 0 0}] 1[] 1[{1 1 1 6}] 1[{2 1 0 0}] 2[] 3[] 4[] 4[] 4[] 4[] 4[] 4[{3 1 0 0}] 4[] 5[] 5[{6 1 0 0}] 5[] 5[] 5[]"
	if text != want {
		t.Errorf("%s, not\n%s", text, want)
	}
	end := store{Heads: []head{headOf(5, 0, -1), headOf(11, 5, -1)}, Descs: []desc{descOf(1, committed, readOf(0, 0, 5), writeOf(1, 4, 6, 11))}}
	if !sameStore(s, end) || x.Commits != 1 || x.Fails != 0 || x.State != isDone || x.Reg != [4]int{0, 11, 6, 0} {
		t.Error(s, x)
	}
}

// digits takes a number apart, digit by digit of any bases.
func digits(number int) func(base int) int {
	return func(base int) int {
		last := number % base
		number /= base
		return last
	}
}

// Each step of a stack with each frame, over stores of two descriptors as these may lie and be decided.
func TestAllSmallHelpSteps(t *testing.T) {
	var frames []frame
	for number := range 2 {
		frames = append(frames, frameOf(number, looks, 0), frameOf(number, lays, 0), frameOf(number, lays, 1), frameOf(number, decides, 0),
			frameOf(number, fails, 0), frameOf(number, frees, 0), frameOf(number, frees, 1))
	}
	counts := []int{0, 3, mostCounted - 1, mostCounted}
	way := 0
	for s := range smallStores {
		for _, f := range frames {
			for mine := -1; mine < 2; mine++ {
				way++
				digit := digits(way)
				x := helping(standing(max(mine, 0), "set 1 2; commit", 1, readOf(1, 1, 20)), f)
				x.Mine, x.Commits, x.Fails = mine, counts[digit(4)], counts[digit(4)]
				x.Reg[digit(4)] = 9
				if digit(3) == 0 {
					x.Stack = onTop(lookers(digit(2)), f)
				}
				checkPlainStep(t, "small", s, x)
			}
		}
	}
}

// Each step of a thread with nothing on its stack: at each line of one program of all ops, with each open list, and each
// entry of it that may be checked.
func TestAllSmallSteps(t *testing.T) {
	lines := "read 1 0; write 1 2; read 0 2; set 2 -9; add 1 2; add 2 1; if 1 12; if 0 0; commit; abort; go 4; read 3 7; write 6 3"
	lists := [][]entry{
		nil, {readOf(0, 3, 5)}, {readOf(1, 1, 5), writeOf(0, 3, 5, 6)}, {readOf(0, 2, 5), writeOf(2, 5, 9, 8), readOf(1, 1, 1)},
		readsOf(4, 5, 3, 2), {readOf(1, 1, 5), readOf(2, 5, 4), readOf(0, 3, 2), readOf(5, 15, -25), readOf(3, 13, -23)},
		{readOf(5, 15, -25), readOf(2, 5, 4), readOf(4, 14, -24), writeOf(1, 1, 2, 3), readOf(0, 3, 5), readOf(3, 13, -23)},
	}
	for way := range 3 * 3 * 2 * 2 * 2 * 7 * 8 * 15 * 2 {
		digit := digits(way)
		s := store{Heads: plainHeads(7), Descs: []desc{descOf(0, digit(3), writeOf(0, 3, 5, 50), readOf(1, 1, 6)), descOf(2, committed, writeOf(1, 1, 6, 61))}}
		s.Heads[1] = headOf(6, 1, digit(3)-1)
		s.Heads[0] = headOf(5, 3, digit(2)-1)
		s.Heads[2] = headOf(7, 4+digit(2), -1)
		s.Heads[1].Version += digit(2)
		x := standing(2, lines, 0, lists[digit(7)]...)
		x.Check = digit(8) - 2
		x.At = digit(15) - 1
		x.Reg = [4]int{digit(2), top - 3, -4, 1}
		checkPlainStep(t, "small", s, x)
	}
}

// crowd is a store and all threads over it, as they stand.
type crowd struct {
	store
	threads []thread
}

// stepOf is the crowd behind a step of that thread; no other one is right no more by it.
func stepOf(t *testing.T, c crowd, who int) (crowd, []event) {
	t.Helper()
	s, x, events := impl.StepThread(c.store, c.threads[who])
	checkRight(t, "a step", c.store, c.threads[who], s, x, events)
	then := crowd{s, slices.Clone(c.threads)}
	then.threads[who] = x
	for _, other := range then.threads {
		if !impl.ThreadOk(s, other) {
			t.Fatalf("%+v is not right behind a step of %d: %v", other, who, s)
		}
	}
	return then, events
}

// eachCrowd goes through all that steps of its threads can come to, in whatever order they are taken.
func eachCrowd(t *testing.T, begin crowd, yield func(crowd)) {
	seen, work := map[string]bool{}, []crowd{begin}
	for len(work) > 0 {
		c := work[len(work)-1]
		work = work[:len(work)-1]
		yield(c)
		for who, x := range c.threads {
			if impl.Idle(x) {
				continue
			}
			then, _ := stepOf(t, c, who)
			if key := fmt.Sprint(then); !seen[key] {
				seen[key] = true
				work = append(work, then)
			}
		}
	}
}

// Promise 10, in all ways in which the steps of two can come: all is right wherever they stand, and what was committed
// is done once, and nothing else.
func TestAllWaysOfSteppingTwo(t *testing.T) {
	for name, c := range map[string]struct {
		lines [2]string
		want  []int
	}{
		"both add to one":             {[2]string{"read 0 0; set 1 1; add 0 1; write 0 0; commit", "read 0 0; set 1 10; add 0 1; write 0 0; commit"}, []int{16, 7}},
		"each reads what one writes":  {[2]string{"read 0 1; read 0 0; set 1 1; add 0 1; write 0 0; commit", "read 1 0; read 0 1; set 1 10; add 0 1; write 1 0; commit"}, []int{6, 17}},
		"one opens the other way":     {[2]string{"write 0 0; write 1 0; commit", "read 2 1; read 3 0; commit"}, []int{0, 0}},
		"one aborts, and adds then":   {[2]string{"write 0 3; abort; read 0 0; set 1 2; add 0 1; write 0 0; commit", "read 0 0; set 1 3; add 0 1; write 0 0; commit"}, []int{10, 7}},
		"one commits nothing between": {[2]string{"commit; read 0 1; add 0 0; write 1 0; commit", "read 0 1; add 0 0; write 1 0; commit"}, []int{5, 28}},
	} {
		t.Run(name, func(t *testing.T) {
			s, _ := impl.NewStore([]int{5, 7})
			ends := 0
			eachCrowd(t, crowd{s, []thread{threadOf(0, c.lines[0]), threadOf(1, c.lines[1])}}, func(at crowd) {
				if !impl.Idle(at.threads[0]) || !impl.Idle(at.threads[1]) {
					return
				}
				ends++
				if len(impl.Held(at.store)) > 0 || at.Heads[0].Value != c.want[0] || at.Heads[1].Value != c.want[1] || !areDone(at.threads) {
					t.Fatal("comes to", at)
				}
			})
			if ends == 0 {
				t.Error("no end")
			}
		})
	}
}

func areDone(list []thread) bool {
	return !slices.ContainsFunc(list, func(x thread) bool { return x.State != isDone })
}

// crowds are four threads each, over eight objects.
func crowds() [][]string {
	return [][]string{
		{"read 0 0; add 1 0; write 7 1; commit; go 0", "read 0 7; write 0 0; set 2 3; write 3 2; commit; go 0", "read 2 3; read 1 0; if 1 0; write 7 2; commit", "write 1 1; abort; read 3 7; add 3 3; write 0 3; commit; go 2"},
		{"read 0 0; read 0 1; read 0 2; read 0 3; read 0 4; read 0 5; read 0 6; commit", "set 1 1; write 0 1; write 2 1; write 4 1; commit; go 0", "read 3 5; write 5 3; commit; go 0", "write 6 0; write 5 0; write 4 0; commit; go 0"},
		{"read 0 2; set 1 1; add 0 1; write 2 0; commit; go 0", "read 0 2; set 1 1; add 0 1; write 2 0; commit; go 0", "read 0 2; set 1 1; add 0 1; write 2 0; commit; go 0", "read 0 2; set 1 1; add 0 1; write 2 0; commit; go 0"},
	}
}

// Promise 10, over long runs of four: each step is the plain one; some attempts are committed, and some fail. The last
// crowd adds 1 to one object, which so comes to hold how many were committed.
func TestCrowds(t *testing.T) {
	for number, lines := range crowds() {
		for seed := range 12 {
			s, _ := impl.NewStore([]int{0, 1, 0, 3, 4, 5, 6, 7})
			c := crowd{store: s}
			for id, lines := range lines {
				c.threads = append(c.threads, threadOf(id, lines))
			}
			told := map[int]int{}
			for step := range 1200 {
				who := (seed*7919 + step*step*(seed+3)/5 + step/(1+seed%5)) % 4
				checkPlainStep(t, "a crowd", c.store, c.threads[who])
				var events []event
				c, events = stepOf(t, c, who)
				for _, e := range events {
					told[e.Kind]++
				}
			}
			if told[impl.EvCommit] == 0 || told[impl.EvFail] == 0 || told[impl.EvCommit] != committedOf(c.store) {
				t.Error(number, seed, "told", told, "of", committedOf(c.store))
			}
			then, ok := impl.FinishAll(c.store)
			if counter := then.Heads[2]; number == 2 && (!ok || counter != headOf(committedOf(then), committedOf(then), -1)) {
				t.Error(seed, "comes to", then)
			}
		}
	}
}

func committedOf(s store) int {
	many := 0
	for _, d := range s.Descs {
		if d.Status == committed {
			many++
		}
	}
	return many
}

// threadAnswer is what one call answers with.
type threadAnswer struct {
	store
	thread
	events []event
}

// threadAnswers are what all functions answer, done or refused; those that answer no list are called, too.
func threadAnswers(s store, x thread) []threadAnswer {
	impl.ThreadOk(s, x)
	impl.Idle(x)
	fresh, _ := impl.NewThread(1, x.Prog)
	then, next, events := impl.StepThread(s, x)
	return []threadAnswer{{thread: fresh}, {then, next, events}}
}

func sameAnswer(a threadAnswer, b threadAnswer) bool {
	return sameStore(a.store, b.store) && sameThread(a.thread, b.thread) && slices.Equal(a.events, b.events)
}

func cloneAnswer(a threadAnswer) threadAnswer {
	return threadAnswer{cloneStore(a.store), cloneThread(a.thread), slices.Clone(a.events)}
}

// overwriteThread changes one list after the other, with its spare room, and asks that the others stay as they were.
func overwriteThread(t *testing.T, name string, answer threadAnswer) {
	t.Helper()
	was := cloneAnswer(answer)
	check := func(list string) {
		t.Helper()
		if !sameAnswer(answer, was) {
			t.Errorf("%s: the %s of one answer shares memory", name, list)
		}
	}
	overwrite(answer.Prog, instr{Op: -7})
	was.Prog = slices.Clone(answer.Prog)
	check("program")
	overwrite(answer.Open, entry{Object: -7})
	was.Open = slices.Clone(answer.Open)
	check("open list")
	overwrite(answer.Stack, frame{Desc: -7})
	was.Stack = slices.Clone(answer.Stack)
	check("stack")
	overwrite(answer.events, event{Kind: -7})
	was.events = slices.Clone(answer.events)
	check("list of events")
	overwriteStore(t, name, answer.store)
	was.store = answer.store
	check("store")
}

// stepCases are stores and threads of all of the steps above, good and bad.
func stepCases() map[string]threadAnswer {
	all := map[string]threadAnswer{}
	for name, x := range goodThreads() {
		all[name] = threadAnswer{store: threeStore(), thread: x}
		all[name+", all lie"] = threadAnswer{store: decided(laid(threeStore(), 0, 0, 1, 2), 0, committed), thread: x}
		all[name+", in no store"] = threadAnswer{thread: x}
	}
	for name, x := range badThreads() {
		all["bad: "+name] = threadAnswer{store: threeStore(), thread: x}
	}
	for id, lines := range crowds()[0] {
		x := threadOf(id, lines)
		s, _ := impl.NewStore([]int{0, 1, 2, 3, 4, 5, 6, 7})
		for step := range 40 {
			all[fmt.Sprint("crowd ", id, step)] = threadAnswer{store: s, thread: x}
			s, x, _ = plainStep(s, x)
		}
	}
	return all
}

// guardedThread keeps a thread whose lists have their spare room filled.
type guardedThread struct {
	thread
	prog  guarded[instr]
	open  guarded[entry]
	stack guarded[frame]
}

func guardThread(x thread) guardedThread {
	g := guardedThread{x, guard(x.Prog, does(impl.DoSet, 1, 77)), guard(x.Open, entryBehind()), guard(x.Stack, frameBehind())}
	g.Prog, g.Open, g.Stack = g.prog.list(), g.open.list(), g.stack.list()
	return g
}

func (g guardedThread) check(t *testing.T, name string) {
	t.Helper()
	g.prog.check(t, name+": program")
	g.open.check(t, name+": open")
	g.stack.check(t, name+": stack")
}

// Promise 19: nothing is written into an argument, nor behind it; every answer is new memory, also where all comes back
// as it was; and what lies behind a list counts for nothing, and is not handed out.
func TestThreadsWriteNothingAndShareNothing(t *testing.T) {
	for name, c := range stepCases() {
		s, x := guardStore(c.store), guardThread(c.thread)
		wants := threadAnswers(c.store, c.thread)
		answers := threadAnswers(s.store, x.thread)
		s.check(t, name+", called")
		x.check(t, name+", called")
		if impl.ThreadOk(s.store, x.thread) != impl.ThreadOk(c.store, c.thread) {
			t.Errorf("%s: what lies behind is read", name)
		}
		for i, answer := range answers {
			if !sameAnswer(answer, wants[i]) {
				t.Errorf("%s: what lies behind is read: %v, not %v", name, answer, wants[i])
			}
			checkSpare(t, name, helpAnswer{answer.store, [][]frame{answer.Stack}})
			if slices.Contains(spare(answer.Open), entryBehind()) || slices.Contains(spare(answer.Prog), does(impl.DoSet, 1, 77)) {
				t.Errorf("%s: what lies behind is handed out", name)
			}
			overwriteThread(t, name, answer)
		}
		s.check(t, name+", overwritten")
		x.check(t, name+", overwritten")
	}
}

// Promise 19: whatever the arguments are, there is an answer, and it is kept nowhere.
func TestThreadsOfOddArguments(t *testing.T) {
	odd := []thread{{}, {Check: -1, Mine: -1}, {Id: -1, At: -1, Check: 99, Mine: 99, State: 99}}
	for _, number := range edges() {
		odd = append(odd, thread{
			Id: number, At: number, Check: number, Mine: number, State: number, Commits: number, Fails: number, Reg: [4]int{number, number, number, number},
			Prog: []instr{does(number, number, number)}, Open: []entry{{Object: number, Version: number, Old: number, New: number}}, Stack: []frame{frameOf(number, number, number)},
		})
	}
	for _, x := range odd {
		for _, s := range []store{{}, threeStore(), {Heads: alike(headOf(0, 0, 99), 3)}, {Heads: plainHeads(1), Descs: []desc{{}}}} {
			checkPlainStep(t, "odd", s, x)
			checkPlainStep(t, "behind odd", threeStore(), threadOf(1, "read 0 0"))
		}
	}
}
