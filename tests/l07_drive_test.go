package tests

import (
	"maps"
	"math"
	"slices"
	"strconv"
	"testing"

	"loop.example/g00087/impl"
)

type (
	store = impl.Store
	head  = impl.Head
	frame = impl.Frame
)

// What a frame's Phase is, as the document numbers them.
const (
	looks   = 0
	lays    = 1
	decides = 2
	fails   = 3
	frees   = 4
	isOver  = 5
)

// What a descriptor's Status is, likewise.
const (
	undecided = 0
	committed = 1
	failed    = 2
)

func headOf(value int, version int, desc int) head {
	return head{Value: value, Version: version, Desc: desc}
}

func frameOf(desc int, phase int, at int) frame {
	return frame{Desc: desc, Phase: phase, At: at}
}

func sameStore(a store, b store) bool {
	return slices.Equal(a.Heads, b.Heads) && slices.EqualFunc(a.Descs, b.Descs, sameDesc)
}

func cloneStore(s store) store {
	then := store{Heads: slices.Clone(s.Heads), Descs: slices.Clone(s.Descs)}
	for i := range then.Descs {
		then.Descs[i].Entries = slices.Clone(then.Descs[i].Entries)
	}
	return then
}

// plainHeads are that many objects over which nothing lies, each with a value and a version of its own.
func plainHeads(many int) []head {
	heads := make([]head, many)
	for object := range heads {
		heads[object] = headOf(-20-object, 10+object, -1)
	}
	return heads
}

// threeStore has three objects and three descriptors that nobody has driven yet: 0 writes 0 and 2, and reads 1 between;
// 1 writes 1; 2 reads 0 and 2.
func threeStore() store {
	return store{
		Heads: []head{headOf(5, 3, -1), headOf(6, 0, -1), headOf(-7, mostVersions, -1)},
		Descs: []desc{
			descOf(0, undecided, writeOf(0, 3, 5, 50), readOf(1, 0, 6), writeOf(2, mostVersions, -7, 70)),
			descOf(1, undecided, writeOf(1, 0, 6, 60)),
			descOf(3, undecided, readOf(0, 3, 5), readOf(2, mostVersions, -7)),
		},
	}
}

// laid is the store where the descriptor lies over the objects.
func laid(s store, number int, objects ...int) store {
	then := cloneStore(s)
	for _, object := range objects {
		then.Heads[object].Desc = number
	}
	return then
}

// decided is the store where the descriptor has that status.
func decided(s store, number int, status int) store {
	then := cloneStore(s)
	then.Descs[number].Status = status
	return then
}

// holding is the store where the object has that head.
func holding(s store, object int, h head) store {
	then := cloneStore(s)
	then.Heads[object] = h
	return then
}

// goodStores are StoreOk, at the limits and within.
func goodStores() map[string]store {
	three := threeStore()
	return map[string]store{
		"one object":                        {Heads: []head{headOf(0, 0, -1)}},
		"most objects":                      {Heads: plainHeads(8)},
		"no list of descriptors, not nil":   {Heads: plainHeads(2), Descs: []desc{}},
		"values at both limits":             {Heads: []head{headOf(top, 0, -1), headOf(-top, 0, -1)}},
		"version 0, and the most":           {Heads: []head{headOf(1, 0, -1), headOf(1, mostVersions, -1)}},
		"nothing lies":                      three,
		"one lies over all that it has":     laid(three, 0, 0, 1, 2),
		"one lies over some":                laid(three, 0, 1),
		"several lie":                       laid(laid(three, 2, 0, 2), 1, 1),
		"a committed one lies":              decided(laid(three, 0, 0, 1, 2), 0, committed),
		"a failed one lies":                 decided(laid(three, 0, 0), 0, failed),
		"all are decided, and nothing lies": decided(decided(decided(three, 0, failed), 1, committed), 2, committed),
		"it lies where versions differ":     holding(three, 0, headOf(1, 2, 0)),
		"most descriptors":                  {Heads: plainHeads(8), Descs: alike(descOf(1, 0, writesOf(1, 5)...), 60)},
		"the last of most lies":             laid(store{Heads: plainHeads(8), Descs: alike(descOf(1, 0, writesOf(1, 5)...), 60)}, 59, 1, 5),
		"of the last object, and of most":   {Heads: plainHeads(8), Descs: []desc{descOf(3, 2, readsOf(2, 3, 4, 5, 6, 7)...)}},
		"the last object of two":            {Heads: plainHeads(2), Descs: []desc{descOf(0, 1, readsOf(1)...)}},
	}
}

// badStores are not StoreOk, each for one reason.
func badStores() map[string]store {
	three := threeStore()
	bad := map[string]store{
		"the zero value":                       {},
		"no heads, and not nil":                {Heads: []head{}},
		"no heads, and descriptors":            {Descs: three.Descs},
		"one object too many":                  {Heads: plainHeads(9)},
		"many objects too many":                {Heads: plainHeads(5000)},
		"one descriptor too many":              {Heads: plainHeads(8), Descs: alike(descOf(1, 0, writesOf(1, 5)...), 61)},
		"many descriptors too many":            {Heads: plainHeads(8), Descs: alike(descOf(1, 0, writesOf(1, 5)...), 5000)},
		"a zero head of no descriptor":         {Heads: []head{{}}},
		"the first of none lies":               holding(store{Heads: plainHeads(2)}, 1, headOf(0, 0, 0)),
		"it lies over an object it has not":    laid(three, 1, 0),
		"it lies over one it has, and one not": laid(three, 2, 0, 1, 2),
		"one behind lies over another's":       laid(three, 1, 1, 2),
		"it has not the object between":        laid(three, 2, 1),
		"it is of an object past the last":     {Heads: plainHeads(3), Descs: []desc{descOf(0, 0, readsOf(0, 3)...)}},
		"it is of the last there can be":       {Heads: plainHeads(7), Descs: []desc{descOf(0, 0, readsOf(7)...)}},
		"one of several is of none":            {Heads: plainHeads(3), Descs: []desc{three.Descs[0], three.Descs[1], descOf(0, 2, readsOf(1, 2, 4)...)}},
	}
	for _, number := range edges() {
		name := strconv.Itoa(number)
		if number < -top || number > top {
			bad["value "+name] = holding(three, 2, headOf(number, 0, -1))
			bad["value "+name+", alone"] = store{Heads: []head{headOf(number, 0, -1)}}
		}
		if number < 0 || number > mostVersions {
			bad["version "+name] = holding(three, 1, headOf(0, number, -1))
		}
		if number < -1 || number > 2 {
			bad["descriptor "+name+" lies"] = laid(three, number, 0)
			bad["descriptor "+name+" lies over the last"] = laid(three, number, 2)
		}
	}
	for name, d := range badDescs() {
		bad["a descriptor: "+name] = store{Heads: plainHeads(8), Descs: []desc{d}}
		bad["the last descriptor: "+name] = store{Heads: plainHeads(8), Descs: append(cloneStore(three).Descs, d)}
	}
	return bad
}

func TestLimitsOfStores(t *testing.T) {
	if impl.MaxDescs != 60 || impl.MaxVersion != mostVersions {
		t.Error(impl.MaxDescs, impl.MaxVersion)
	}
	phases := []int{impl.PhaseLook, impl.PhaseLay, impl.PhaseDecide, impl.PhaseFail, impl.PhaseFree, impl.PhaseOver}
	if !slices.Equal(phases, []int{looks, lays, decides, fails, frees, isOver}) {
		t.Error(phases)
	}
}

func TestStoreOk(t *testing.T) {
	for name, s := range goodStores() {
		if !impl.StoreOk(s) {
			t.Errorf("%s: refused", name)
		}
	}
	for name, s := range badStores() {
		if impl.StoreOk(s) {
			t.Errorf("%s: taken", name)
		}
	}
}

// TestHeadsOverEdges asks each head of numbers at the edges, at each object.
func TestHeadsOverEdges(t *testing.T) {
	descs := [][]int{{0, 2}, {1}, {0, 1}, {2}} // the objects of each descriptor
	s := store{Heads: plainHeads(3)}
	for _, objects := range descs {
		s.Descs = append(s.Descs, descOf(2, 1, readsOf(objects...)...))
	}
	for _, value := range edges() {
		for _, version := range edges() {
			for _, number := range edges() {
				for object := range 3 {
					want := -top <= value && value <= top && 0 <= version && version <= mostVersions
					want = want && (number == -1 || 0 <= number && number < 4 && slices.Contains(descs[number], object))
					if impl.StoreOk(holding(s, object, headOf(value, version, number))) != want {
						t.Fatal("object", object, "with", value, version, number, "not", want)
					}
				}
			}
		}
	}
}

func TestNewStore(t *testing.T) {
	for _, values := range [][]int{{0}, {5, 6}, {-top, top, 0}, {1, 2, 3, 4, 5, 6, 7, 8}, alike(-3, 8), alike(top, 7)} {
		s, ok := impl.NewStore(values)
		want := store{}
		for _, value := range values {
			want.Heads = append(want.Heads, head{Value: value, Desc: -1})
		}
		if !ok || !sameStore(s, want) || !impl.StoreOk(s) {
			t.Error(values, s, ok)
		}
	}
}

func TestNewStoreRefuses(t *testing.T) {
	for _, values := range [][]int{
		nil, {}, alike(0, 9), alike(1, 5000), {top + 1}, {-top - 1}, {math.MinInt}, {math.MaxInt}, {1, 2, top + 1}, {-top - 1, 1, 2},
		{1, 2, 3, 4, 5, 6, 7, -top - 1}, append(alike(1, 8), top+1),
	} {
		if s, ok := impl.NewStore(values); ok || !sameStore(s, store{}) {
			t.Error(values, s, ok)
		}
	}
}

func TestLook(t *testing.T) {
	for name, s := range goodStores() {
		for object, want := range s.Heads {
			if h, ok := impl.Look(s, object); !ok || h != want {
				t.Errorf("%s: object %d: %v %v", name, object, h, ok)
			}
		}
		for _, object := range []int{math.MinInt, -top, -1, len(s.Heads), len(s.Heads) + 1, 8, 9, top, math.MaxInt} {
			if h, ok := impl.Look(s, object); ok || h != (head{}) {
				t.Errorf("%s: no object %d: %v %v", name, object, h, ok)
			}
		}
	}
	for name, s := range badStores() {
		for _, object := range edges() {
			if h, ok := impl.Look(s, object); ok || h != (head{}) {
				t.Errorf("%s: object %d: %v %v", name, object, h, ok)
			}
		}
	}
}

func TestAnnounce(t *testing.T) {
	for name, s := range goodStores() {
		if len(s.Descs) == 60 {
			continue
		}
		last := len(s.Heads) - 1
		for _, d := range []desc{
			descOf(0, undecided, readOf(0, 0, 0)),
			descOf(3, undecided, writeOf(last, mostVersions, -top, top)),
			descOf(1, undecided, writesOf(placesTo(min(6, last+1))...)...), // of each object, or as many as can be
		} {
			then, number, ok := impl.Announce(s, d)
			want := cloneStore(s)
			want.Descs = append(want.Descs, d)
			if !ok || number != len(s.Descs) || !sameStore(then, want) || !impl.StoreOk(then) {
				t.Errorf("%s: %v: %v %d %v", name, d, then, number, ok)
			}
		}
	}
}

func checkNotAnnounced(t *testing.T, name string, s store, d desc) {
	t.Helper()
	if then, number, ok := impl.Announce(s, d); ok || number != -1 || !sameStore(then, s) {
		t.Errorf("%s: %v: %v %d %v", name, d, then, number, ok)
	}
}

func TestAnnounceRefuses(t *testing.T) {
	for name, s := range goodStores() {
		for status := 1; status < 3; status++ {
			checkNotAnnounced(t, name+", decided", s, descOf(0, status, readsOf(0)...))
		}
		for object := len(s.Heads); object < 8; object++ {
			checkNotAnnounced(t, name+", of none", s, descOf(0, undecided, readsOf(object)...))
			checkNotAnnounced(t, name+", of one and none", s, descOf(0, undecided, writesOf(0, object)...))
		}
		for what, d := range badDescs() {
			checkNotAnnounced(t, name+", "+what, s, d)
		}
	}
	for name, s := range badStores() {
		checkNotAnnounced(t, name, s, descOf(0, undecided, readsOf(0)...))
		checkNotAnnounced(t, name, s, desc{})
	}
}

func TestAnnounceTheMost(t *testing.T) {
	s := store{Heads: plainHeads(3)}
	for many := range 60 {
		d := descOf(many%4, undecided, writeOf(many%3, many, many, -many))
		then, number, ok := impl.Announce(s, d)
		if !ok || number != many || len(then.Descs) != many+1 || !sameDesc(then.Descs[many], d) {
			t.Fatal(many, number, ok)
		}
		s = then
	}
	for i, d := range s.Descs {
		if d.Entries[0].Version != i {
			t.Error("at", i, "there is", d)
		}
	}
	checkNotAnnounced(t, "one more", s, descOf(0, undecided, readsOf(0)...))
	// Those that are decided are no room either.
	for number := range s.Descs {
		s = decided(s, number, 1+number%2)
	}
	checkNotAnnounced(t, "one more behind decided ones", s, descOf(0, undecided, readsOf(0)...))
}

// plainFrameOk says of a frame in a store that is in order what the document does.
func plainFrameOk(s store, f frame) bool {
	if f.Desc < 0 || f.Desc >= len(s.Descs) || f.Phase < 0 || f.Phase > 5 || f.At < 0 {
		return false
	}
	if f.Phase == lays || f.Phase == frees {
		return f.At <= len(s.Descs[f.Desc].Entries)-1
	}
	return f.At == 0
}

func TestFrameOk(t *testing.T) {
	for name, s := range goodStores() {
		for _, number := range append(edges(), len(s.Descs)-1, len(s.Descs)) {
			for _, phase := range append(edges(), 5, 6) {
				for _, at := range append(edges(), 5, 6) {
					f := frameOf(number, phase, at)
					if impl.FrameOk(s, f) != plainFrameOk(s, f) {
						t.Errorf("%s: %v: not %v", name, f, plainFrameOk(s, f))
					}
				}
			}
		}
	}
	for name, s := range badStores() {
		for phase := range 6 {
			if impl.FrameOk(s, frameOf(0, phase, 0)) {
				t.Errorf("%s: phase %d: taken", name, phase)
			}
		}
	}
}

// At each phase, the entries that the frame may be at, and those one past each end.
func TestFrameOkAtEachPhase(t *testing.T) {
	s := threeStore() // 3, 1 and 2 entries
	for _, c := range []struct {
		f    frame
		want bool
	}{
		{frameOf(0, looks, 0), true}, {frameOf(0, looks, 1), false}, {frameOf(0, looks, -1), false},
		{frameOf(0, lays, 0), true}, {frameOf(0, lays, 2), true}, {frameOf(0, lays, 3), false}, {frameOf(0, lays, -1), false},
		{frameOf(1, lays, 0), true}, {frameOf(1, lays, 1), false}, {frameOf(2, lays, 1), true}, {frameOf(2, lays, 2), false},
		{frameOf(0, decides, 0), true}, {frameOf(0, decides, 1), false}, {frameOf(0, decides, -1), false},
		{frameOf(0, fails, 0), true}, {frameOf(0, fails, 1), false}, {frameOf(0, fails, -1), false},
		{frameOf(0, frees, 0), true}, {frameOf(0, frees, 2), true}, {frameOf(0, frees, 3), false}, {frameOf(0, frees, -1), false},
		{frameOf(1, frees, 0), true}, {frameOf(1, frees, 1), false}, {frameOf(2, frees, 1), true}, {frameOf(2, frees, 2), false},
		{frameOf(0, isOver, 0), true}, {frameOf(0, isOver, 1), false}, {frameOf(0, isOver, -1), false},
		{frameOf(0, -1, 0), false}, {frameOf(0, 6, 0), false},
		{frameOf(-1, looks, 0), false}, {frameOf(3, looks, 0), false}, {frameOf(2, looks, 0), true},
	} {
		if impl.FrameOk(s, c.f) != c.want {
			t.Error(c.f, "not", c.want)
		}
	}
}

func checkDrive(t *testing.T, name string, s store, f frame, want store, wantFrame frame, wantFirst int) {
	t.Helper()
	then, next, first := impl.Drive(s, f)
	if !sameStore(then, want) || next != wantFrame || first != wantFirst {
		t.Errorf("%s: %v:\n%v %v %d, not\n%v %v %d", name, f, then, next, first, want, wantFrame, wantFirst)
	}
	if impl.FrameOk(s, f) && (!impl.StoreOk(then) || !impl.FrameOk(then, next)) {
		t.Errorf("%s: %v: the store or the frame is not in order: %v %v", name, f, then, next)
	}
}

func TestDriveLooks(t *testing.T) {
	s := threeStore()
	for name, s := range map[string]store{"nothing lies": s, "it lies": laid(s, 0, 0, 1, 2), "others lie": laid(laid(s, 1, 1), 2, 0, 2)} {
		checkDrive(t, name+", undecided", s, frameOf(0, looks, 0), s, frameOf(0, lays, 0), -1)
		for status := 1; status < 3; status++ {
			s := decided(s, 0, status)
			checkDrive(t, name+", decided", s, frameOf(0, looks, 0), s, frameOf(0, frees, 0), -1)
		}
	}
	// It looks at its own descriptor, at no other one.
	s = decided(decided(s, 0, committed), 1, failed)
	checkDrive(t, "others are decided", s, frameOf(2, looks, 0), s, frameOf(2, lays, 0), -1)
}

func TestDriveLays(t *testing.T) {
	s := threeStore()
	checkDrive(t, "the first entry", s, frameOf(0, lays, 0), laid(s, 0, 0), frameOf(0, lays, 1), -1)
	checkDrive(t, "the one between", laid(s, 0, 0), frameOf(0, lays, 1), laid(s, 0, 0, 1), frameOf(0, lays, 2), -1)
	checkDrive(t, "the last one", laid(s, 0, 0, 1), frameOf(0, lays, 2), laid(s, 0, 0, 1, 2), frameOf(0, decides, 0), -1)
	checkDrive(t, "the only one", s, frameOf(1, lays, 0), laid(s, 1, 1), frameOf(1, decides, 0), -1)
	checkDrive(t, "nothing lies ahead of the last one", s, frameOf(2, lays, 1), laid(s, 2, 2), frameOf(2, decides, 0), -1)

	mine := laid(s, 0, 0, 1, 2)
	checkDrive(t, "laid already", mine, frameOf(0, lays, 0), mine, frameOf(0, lays, 1), -1)
	checkDrive(t, "laid already, between", mine, frameOf(0, lays, 1), mine, frameOf(0, lays, 2), -1)
	checkDrive(t, "laid already, the last one", mine, frameOf(0, lays, 2), mine, frameOf(0, decides, 0), -1)
	// What was laid already is not asked for its version again.
	mine = holding(holding(mine, 0, headOf(5, 4, 0)), 2, headOf(-7, 0, 0))
	checkDrive(t, "laid already, another version", mine, frameOf(0, lays, 0), mine, frameOf(0, lays, 1), -1)
	checkDrive(t, "laid already, another version, the last one", mine, frameOf(0, lays, 2), mine, frameOf(0, decides, 0), -1)

	// It is the version that is asked for, not the value.
	other := holding(s, 0, headOf(99, 3, -1))
	checkDrive(t, "another value", other, frameOf(0, lays, 0), laid(other, 0, 0), frameOf(0, lays, 1), -1)
}

// Who drives on, behind a decision that somebody else made, lays again where the version is the one that was read.
func TestDriveLaysAgain(t *testing.T) {
	for status := range 3 {
		s := decided(threeStore(), 0, status)
		checkDrive(t, "nothing lies", s, frameOf(0, lays, 1), laid(s, 0, 1), frameOf(0, lays, 2), -1)
		written := holding(s, 0, headOf(50, 4, -1))
		checkDrive(t, "written already", written, frameOf(0, lays, 0), written, frameOf(0, fails, 0), -1)
	}
}

func TestDriveTellsWhoLies(t *testing.T) {
	s := threeStore()
	for status := range 3 {
		// At whichever entry another one lies, and whether or not that is decided, nothing changes but the frame.
		first := decided(laid(s, 2, 0, 2), 2, status)
		checkDrive(t, "over the first entry", first, frameOf(0, lays, 0), first, frameOf(0, looks, 0), 2)
		last := decided(laid(laid(s, 0, 0, 1), 2, 2), 2, status)
		checkDrive(t, "over the last one", last, frameOf(0, lays, 2), last, frameOf(0, looks, 0), 2)
		between := decided(laid(laid(s, 0, 0), 1, 1), 1, status)
		checkDrive(t, "over the one between", between, frameOf(0, lays, 1), between, frameOf(0, looks, 0), 1)
		lesser := decided(laid(s, 0, 0, 1, 2), 0, status)
		checkDrive(t, "over the only one, with the number 0", lesser, frameOf(1, lays, 0), lesser, frameOf(1, looks, 0), 0)
		// Another one counts ahead of another version, and what it itself is counts for nothing.
		other := holding(first, 0, headOf(5, 9, 2))
		checkDrive(t, "another version, too", other, frameOf(0, lays, 0), other, frameOf(0, looks, 0), 2)
		mine := decided(first, 0, status)
		checkDrive(t, "decided itself", mine, frameOf(0, lays, 0), mine, frameOf(0, looks, 0), 2)
	}
	// Only what lies over its own entry is told.
	elsewhere := laid(s, 1, 1)
	checkDrive(t, "over another entry", elsewhere, frameOf(0, lays, 0), laid(elsewhere, 0, 0), frameOf(0, lays, 1), -1)
}

func TestDriveFindsAnotherVersion(t *testing.T) {
	s := threeStore()
	for _, version := range []int{0, 1, 2, 4, mostVersions} {
		// The value that was read makes no difference.
		other := holding(s, 0, headOf(5, version, -1))
		checkDrive(t, "the first entry", other, frameOf(0, lays, 0), other, frameOf(0, fails, 0), -1)
		checkDrive(t, "a read", other, frameOf(2, lays, 0), other, frameOf(2, fails, 0), -1)
	}
	for _, version := range []int{0, 1, mostVersions - 1} {
		other := holding(laid(s, 0, 0, 1), 2, headOf(-7, version, -1))
		checkDrive(t, "the last one", other, frameOf(0, lays, 2), other, frameOf(0, fails, 0), -1)
	}
	between := holding(laid(s, 0, 0), 1, headOf(6, 1, -1))
	checkDrive(t, "the one between", between, frameOf(0, lays, 1), between, frameOf(0, fails, 0), -1)
	checkDrive(t, "the only one", between, frameOf(1, lays, 0), between, frameOf(1, fails, 0), -1)
}

func TestDriveDecides(t *testing.T) {
	for name, s := range map[string]store{"all is laid": laid(threeStore(), 0, 0, 1, 2), "nothing is laid": threeStore()} {
		checkDrive(t, name, s, frameOf(0, decides, 0), decided(s, 0, committed), frameOf(0, frees, 0), -1)
		checkDrive(t, name, s, frameOf(0, fails, 0), decided(s, 0, failed), frameOf(0, frees, 0), -1)
		// A decision that somebody else has made already stays.
		for status := 1; status < 3; status++ {
			s := decided(s, 0, status)
			checkDrive(t, name+", decided already", s, frameOf(0, decides, 0), s, frameOf(0, frees, 0), -1)
			checkDrive(t, name+", decided already", s, frameOf(0, fails, 0), s, frameOf(0, frees, 0), -1)
		}
	}
	s := decided(decided(threeStore(), 0, failed), 2, committed)
	checkDrive(t, "others are decided", s, frameOf(1, decides, 0), decided(s, 1, committed), frameOf(1, frees, 0), -1)
	checkDrive(t, "others are decided", s, frameOf(1, fails, 0), decided(s, 1, failed), frameOf(1, frees, 0), -1)
}

func TestDriveFrees(t *testing.T) {
	s := laid(threeStore(), 0, 0, 1, 2)
	done := decided(s, 0, committed)
	checkDrive(t, "a Write", done, frameOf(0, frees, 0), holding(done, 0, headOf(50, 4, -1)), frameOf(0, frees, 1), -1)
	checkDrive(t, "a read", done, frameOf(0, frees, 1), holding(done, 1, headOf(6, 0, -1)), frameOf(0, frees, 2), -1)
	checkDrive(t, "a Write at MaxVersion, the last entry", done, frameOf(0, frees, 2), holding(done, 2, headOf(70, 0, -1)), frameOf(0, isOver, 0), -1)
	near := holding(done, 2, headOf(-7, mostVersions-1, 0))
	checkDrive(t, "a Write below MaxVersion", near, frameOf(0, frees, 2), holding(near, 2, headOf(70, mostVersions, -1)), frameOf(0, isOver, 0), -1)
	read := laid(decided(threeStore(), 2, committed), 2, 0, 2)
	checkDrive(t, "a read at MaxVersion, the last entry", read, frameOf(2, frees, 1), holding(read, 2, headOf(-7, mostVersions, -1)), frameOf(2, isOver, 0), -1)
	other := holding(done, 1, headOf(99, 8, 0))
	checkDrive(t, "a read of another value and version", other, frameOf(0, frees, 1), holding(other, 1, headOf(99, 8, -1)), frameOf(0, frees, 2), -1)

	// One that failed, or that nobody has decided, changes no value and no version.
	for _, status := range []int{undecided, failed} {
		s := decided(s, 0, status)
		checkDrive(t, "a Write, not committed", s, frameOf(0, frees, 0), laid(s, -1, 0), frameOf(0, frees, 1), -1)
		checkDrive(t, "a read, not committed", s, frameOf(0, frees, 1), laid(s, -1, 1), frameOf(0, frees, 2), -1)
		checkDrive(t, "the last entry, not committed", s, frameOf(0, frees, 2), laid(s, -1, 2), frameOf(0, isOver, 0), -1)
	}
}

func TestDriveFreesOnlyItsOwn(t *testing.T) {
	for status := range 3 {
		s := decided(threeStore(), 0, status)
		theirs := laid(laid(s, 2, 0, 2), 1, 1)
		for at, next := range []frame{frameOf(0, frees, 1), frameOf(0, frees, 2), frameOf(0, isOver, 0)} {
			checkDrive(t, "nothing lies", s, frameOf(0, frees, at), s, next, -1)
			checkDrive(t, "another one lies", theirs, frameOf(0, frees, at), theirs, next, -1)
		}
	}
}

func TestDriveIsOver(t *testing.T) {
	for name, s := range goodStores() {
		for number := range s.Descs {
			checkDrive(t, name, s, frameOf(number, isOver, 0), s, frameOf(number, isOver, 0), -1)
		}
	}
}

func TestDriveOfWhatIsNoFrame(t *testing.T) {
	for name, s := range goodStores() {
		for _, number := range edges() {
			for phase := -1; phase < 7; phase++ {
				for at := -1; at < 7; at++ {
					for _, f := range []frame{frameOf(number, phase, at), frameOf(0, number, at), frameOf(0, phase, number)} {
						if !plainFrameOk(s, f) {
							checkDrive(t, name, s, f, s, f, -1)
						}
					}
				}
			}
		}
	}
	for name, s := range badStores() {
		for phase := -1; phase < 7; phase++ {
			for at := range 3 {
				checkDrive(t, name, s, frameOf(0, phase, at), s, frameOf(0, phase, at), -1)
			}
		}
	}
}

// plainDrive says of a frame that is in order what the document does, line by line.
func plainDrive(s store, f frame) (store, frame, int) {
	then := cloneStore(s)
	d := s.Descs[f.Desc]
	e := d.Entries[f.At]
	h := s.Heads[e.Object]
	isLast := f.At+1 == len(d.Entries)
	switch f.Phase {
	case looks:
		if d.Status == undecided {
			return then, frameOf(f.Desc, lays, 0), -1
		}
		return then, frameOf(f.Desc, frees, 0), -1
	case lays:
		if h.Desc == f.Desc {
			return then, nextOf(f, isLast, decides), -1
		} else if h.Desc >= 0 {
			return then, frameOf(f.Desc, looks, 0), h.Desc
		} else if h.Version != e.Version {
			return then, frameOf(f.Desc, fails, 0), -1
		}
		then.Heads[e.Object] = headOf(h.Value, h.Version, f.Desc)
		return then, nextOf(f, isLast, decides), -1
	case decides, fails:
		if d.Status == undecided {
			then.Descs[f.Desc].Status = map[int]int{decides: committed, fails: failed}[f.Phase]
		}
		return then, frameOf(f.Desc, frees, 0), -1
	case frees:
		if h.Desc == f.Desc && d.Status == committed && e.Write && h.Version == mostVersions {
			then.Heads[e.Object] = headOf(e.New, 0, -1)
		} else if h.Desc == f.Desc && d.Status == committed && e.Write {
			then.Heads[e.Object] = headOf(e.New, h.Version+1, -1)
		} else if h.Desc == f.Desc {
			then.Heads[e.Object] = headOf(h.Value, h.Version, -1)
		}
		return then, nextOf(f, isLast, isOver), -1
	}
	return then, f, -1
}

func nextOf(f frame, isLast bool, behind int) frame {
	if isLast {
		return frameOf(f.Desc, behind, 0)
	}
	return frameOf(f.Desc, f.Phase, f.At+1)
}

// smallStores are of two objects and two descriptors: each way in which these may lie, be decided, read and write, with
// versions that are those that were read and others.
func smallStores(yield func(store) bool) {
	for way := range 2 * 3 * 3 * 3 * 3 * 3 * 4 {
		rest := way
		digit := func(base int) int {
			last := rest % base
			rest /= base
			return last
		}
		s := store{Heads: []head{headOf(10, mostVersions-1+digit(2), digit(3)-1), headOf(20, digit(3), digit(3)-1)}}
		first, second := digit(3), digit(3)
		entries := [][]entry{
			{readOf(0, mostVersions, 10), readOf(1, 1, 20)},
			{writeOf(0, mostVersions, 10, 11), readOf(1, 1, 20)},
			{readOf(0, mostVersions, 10), writeOf(1, 1, 20, 22)},
			{writeOf(0, mostVersions, 10, 13), writeOf(1, 1, 20, 23)},
		}[digit(4)]
		s.Descs = []desc{descOf(0, first, entries...), descOf(1, second, writeOf(0, mostVersions-1, 9, 8), readOf(1, 2, 7))}
		if !yield(s) {
			return
		}
	}
}

func TestDriveOfAllSmallStores(t *testing.T) {
	for s := range smallStores {
		for _, number := range []int{0, 1} {
			for phase := range 6 {
				for at := range 2 {
					f := frameOf(number, phase, at)
					want, next, first := s, f, -1
					if plainFrameOk(s, f) {
						want, next, first = plainDrive(s, f)
					}
					checkDrive(t, "small", s, f, want, next, first)
				}
			}
		}
	}
}

// driveAlone drives from the frame on until it is over, or for that many steps; it asks that nobody lies in the way.
func driveAlone(t *testing.T, s store, f frame, most int) (store, []frame) {
	t.Helper()
	var frames []frame
	for range most {
		first := 0
		if s, f, first = impl.Drive(s, f); first != -1 {
			t.Fatal("somebody lies in the way:", first, s)
		}
		if frames = append(frames, f); f.Phase == isOver {
			break
		}
	}
	return s, frames
}

func TestDrivenAloneToItsEnd(t *testing.T) {
	s, frames := driveAlone(t, threeStore(), frameOf(0, looks, 0), 50)
	want := decided(threeStore(), 0, committed)
	want.Heads = []head{headOf(50, 4, -1), headOf(6, 0, -1), headOf(70, 0, -1)}
	if !sameStore(s, want) {
		t.Error("committed:", s)
	}
	if !slices.Equal(frames, []frame{
		frameOf(0, lays, 0), frameOf(0, lays, 1), frameOf(0, lays, 2), frameOf(0, decides, 0),
		frameOf(0, frees, 0), frameOf(0, frees, 1), frameOf(0, frees, 2), frameOf(0, isOver, 0),
	}) {
		t.Error("committed:", frames)
	}

	// Descriptor 2 read what is written by now: it fails, and leaves all as it was.
	behind, frames := driveAlone(t, s, frameOf(2, looks, 0), 50)
	if !sameStore(behind, decided(want, 2, failed)) {
		t.Error("failed:", behind)
	}
	if !slices.Equal(frames, []frame{frameOf(2, lays, 0), frameOf(2, fails, 0), frameOf(2, frees, 0), frameOf(2, frees, 1), frameOf(2, isOver, 0)}) {
		t.Error("failed:", frames)
	}

	// Whoever drives what is decided and freed, and however often, changes nothing.
	for number, status := range map[int]int{0: committed, 2: failed} {
		for range 3 {
			again, frames := driveAlone(t, behind, frameOf(number, looks, 0), 50)
			if !sameStore(again, behind) || len(frames) != 1+len(behind.Descs[number].Entries) || again.Descs[number].Status != status {
				t.Error("again:", number, again, frames)
			}
		}
	}
}

// What fails at its last entry is taken off the others, over which it lay already.
func TestDriveFailsBehindSomeEntries(t *testing.T) {
	s := holding(threeStore(), 2, headOf(8, 1, -1))
	then, frames := driveAlone(t, s, frameOf(0, looks, 0), 3)
	if !slices.Equal(impl.Held(then), []int{0, 1}) || frames[2] != frameOf(0, lays, 2) {
		t.Error("laid:", then, frames)
	}
	then, frames = driveAlone(t, then, frames[2], 50)
	if !sameStore(then, decided(s, 0, failed)) || len(frames) != 5 {
		t.Error("failed:", then, frames)
	}
}

// Somebody stands at an entry while somebody else drives the descriptor to its end, and then goes on.
func TestDriveOfWhatIsFreedAlready(t *testing.T) {
	for stand := range 9 {
		s, frames := driveAlone(t, threeStore(), frameOf(0, looks, 0), stand)
		f := frameOf(0, looks, 0)
		if stand > 0 {
			f = frames[stand-1]
		}
		ended, _ := driveAlone(t, s, frameOf(0, looks, 0), 50)
		if !slices.Equal(ended.Heads, []head{headOf(50, 4, -1), headOf(6, 0, -1), headOf(70, 0, -1)}) {
			t.Fatal("driven to its end:", ended)
		}
		then, _ := driveAlone(t, ended, f, 50)
		if !sameStore(then, ended) {
			t.Error("standing at", f, "then", then, "not", ended)
		}
	}
	// What was only read is laid again by who stands there, and then taken off again.
	s, frames := driveAlone(t, threeStore(), frameOf(0, looks, 0), 2)
	ended, _ := driveAlone(t, s, frameOf(0, looks, 0), 50)
	again, next, first := impl.Drive(ended, frames[1])
	if !sameStore(again, laid(ended, 0, 1)) || next != frameOf(0, lays, 2) || first != -1 {
		t.Error("laid again:", again, next, first)
	}
	if then, _ := driveAlone(t, again, next, 50); !sameStore(then, ended) {
		t.Error("taken off again:", then)
	}
}

// Two who drive one descriptor by turns come to what one alone comes to, whoever's turn it is.
func TestTwoDriveOneByTurns(t *testing.T) {
	two := threeStore()
	two.Descs = []desc{descOf(2, undecided, writeOf(0, 3, 5, 50), readOf(1, 0, 6))}
	late := holding(two, 1, headOf(6, 1, -1)) // what was read at its last entry is of another version
	for _, s := range []store{two, late} {
		want, _ := driveAlone(t, s, frameOf(0, looks, 0), 50)
		for _, turns := range turnLists(12) {
			then, frames := s, [2]frame{}
			for _, second := range append(turns, append(alike(false, 12), alike(true, 12)...)...) {
				who := 0
				if second {
					who = 1
				}
				was := then
				first := 0
				then, frames[who], first = impl.Drive(then, frames[who])
				if first != -1 {
					t.Fatal("told", first, then)
				}
				checkChange(t, was, then, 0)
			}
			if !sameStore(then, want) || frames != [2]frame{frameOf(0, isOver, 0), frameOf(0, isOver, 0)} {
				t.Fatal(turns, "come to", then, frames, "not to", want)
			}
		}
	}
}

// checkChange asks of a step of the descriptor's driver that it decides what is not decided, and that it changes a
// value only as a committed Write, with its version.
func checkChange(t *testing.T, was store, then store, number int) {
	t.Helper()
	if !impl.StoreOk(then) {
		t.Fatal("not StoreOk:", then)
	}
	for i, d := range was.Descs {
		if d.Status != undecided || i != number {
			if !sameDesc(d, then.Descs[i]) {
				t.Fatal("descriptor", i, "was", d, "and is", then.Descs[i])
			}
		} else if d.Status = then.Descs[i].Status; !sameDesc(d, then.Descs[i]) {
			t.Fatal("descriptor", i, "has other entries or another owner:", then.Descs[i])
		}
	}
	for object, h := range was.Heads {
		now := then.Heads[object]
		if h.Value == now.Value && h.Version == now.Version {
			continue
		}
		place := slices.IndexFunc(was.Descs[number].Entries, func(e entry) bool { return e.Object == object })
		if was.Descs[number].Status != committed || h.Desc != number || place < 0 {
			t.Fatal("object", object, "was", h, "and is", now, "by", was.Descs[number])
		}
		if e := was.Descs[number].Entries[place]; !e.Write || now != headOf(e.New, (h.Version+1)%(mostVersions+1), -1) {
			t.Fatal("object", object, "was", h, "and is", now, "by", e)
		}
	}
}

// driven is a store and all who drive its descriptors.
type driven struct {
	store
	frames []frame
}

func drivenKey(d driven) string {
	var numbers []int
	for _, h := range d.Heads {
		numbers = append(numbers, h.Value, h.Version, h.Desc)
	}
	for _, x := range d.Descs {
		numbers = append(numbers, x.Status)
	}
	for _, f := range d.frames {
		numbers = append(numbers, f.Desc, f.Phase, f.At)
	}
	key := ""
	for _, number := range numbers {
		key += strconv.Itoa(number) + " "
	}
	return key
}

// eachWay goes through all that comes of it when each driver may take the next step at any time, and hands out the
// places at which all are over.
func eachWay(t *testing.T, begin driven, yield func(driven)) {
	t.Helper()
	seen := map[string]bool{drivenKey(begin): true}
	for work := []driven{begin}; len(work) > 0; {
		d := work[len(work)-1]
		work = work[:len(work)-1]
		left := false
		for who, f := range d.frames {
			if f.Phase == isOver {
				continue
			}
			left = true
			then, next, first := impl.Drive(d.store, f)
			checkChange(t, d.store, then, f.Desc)
			if !impl.FrameOk(then, next) || next.Desc != f.Desc || first == f.Desc || first >= len(then.Descs) {
				t.Fatal("from", f, "to", next, first, then)
			}
			to := driven{store: then, frames: slices.Clone(d.frames)}
			to.frames[who] = next
			if key := drivenKey(to); !seen[key] {
				seen[key] = true
				work = append(work, to)
			}
		}
		if !left {
			yield(d)
		}
	}
}

// Promise 7, in all ways in which the steps of several drivers can come: a descriptor is decided once, a committed one
// is done wholly and once, one that failed changes nothing, and in the end nothing lies.
func TestAllWaysOfSeveralDrivers(t *testing.T) {
	twoHeads := []head{headOf(1, 0, -1), headOf(2, 4, -1)}
	for _, c := range []struct {
		name    string
		heads   []head
		descs   []desc
		drivers []int
		ends    string // the status of each descriptor, in all ends that there are
	}{
		{"three drive one", twoHeads,
			[]desc{descOf(0, 0, writeOf(0, 0, 1, 10), readOf(1, 4, 2))}, []int{0, 0, 0}, "1"},
		{"three drive one that is late", twoHeads,
			[]desc{descOf(0, 0, writeOf(0, 0, 1, 10), writeOf(1, 3, 2, 20))}, []int{0, 0, 0}, "2"},
		{"both write both", twoHeads,
			[]desc{descOf(0, 0, writeOf(0, 0, 1, 10), writeOf(1, 4, 2, 20)), descOf(1, 0, writeOf(0, 0, 1, 11), writeOf(1, 4, 2, 21))},
			[]int{0, 1, 1}, "12 21"},
		{"one reads what the other writes", twoHeads,
			[]desc{descOf(0, 0, writeOf(0, 0, 1, 10), readOf(1, 4, 2)), descOf(1, 0, readOf(0, 0, 1), readOf(1, 4, 2))},
			[]int{0, 1, 0}, "11 12"},
		{"each reads what the other writes", twoHeads,
			[]desc{descOf(0, 0, writeOf(0, 0, 1, 10), readOf(1, 4, 2)), descOf(1, 0, readOf(0, 0, 1), writeOf(1, 4, 2, 20))},
			[]int{0, 1, 1}, "12 21"},
		{"one is for what the other leaves", twoHeads,
			[]desc{descOf(0, 0, writeOf(0, 0, 1, 10)), descOf(1, 0, writeOf(0, 1, 10, 30), writeOf(1, 4, 2, 31))},
			[]int{0, 1, 1}, "11 12"},
		{"three meet", append(slices.Clone(twoHeads), headOf(3, mostVersions, -1)),
			[]desc{
				descOf(0, 0, writeOf(0, 0, 1, 10), writeOf(2, mostVersions, 3, 12)),
				descOf(1, 0, writeOf(0, 0, 1, 20), readOf(1, 4, 2)),
				descOf(2, 0, writeOf(1, 4, 2, 30), writeOf(2, mostVersions, 3, 32)),
			}, []int{0, 1, 2}, "122 211 221"},
	} {
		t.Run(c.name, func(t *testing.T) {
			begin := driven{store: store{Heads: c.heads, Descs: c.descs}}
			for _, number := range c.drivers {
				begin.frames = append(begin.frames, frameOf(number, looks, 0))
			}
			ends := map[string]bool{}
			eachWay(t, begin, func(d driven) {
				ends[checkEnd(t, begin.store, d.store)] = true
			})
			text := ""
			for _, end := range slices.Sorted(maps.Keys(ends)) {
				text += " " + end
			}
			if text != " "+c.ends {
				t.Error("ends are", text, "not", c.ends)
			}
		})
	}
}

// checkEnd asks of a store in which all descriptors are driven to their ends that nothing lies, and that each object
// is what the committed ones make of it, one after the other in the order of the versions that they read. It tells the
// status of each descriptor.
func checkEnd(t *testing.T, begin store, end store) string {
	t.Helper()
	if len(impl.Held(end)) != 0 {
		t.Fatal("somebody lies in the end:", end)
	}
	text := ""
	for _, d := range end.Descs {
		text += strconv.Itoa(d.Status)
	}
	for object, want := range begin.Heads {
		for done := true; done; {
			done = false
			for _, d := range end.Descs {
				for _, e := range d.Entries {
					if d.Status == committed && e.Write && e.Object == object && e.Version == want.Version {
						want = headOf(e.New, (want.Version+1)%(mostVersions+1), -1)
						done = true
					}
				}
			}
		}
		if end.Heads[object] != want {
			t.Fatal("object", object, "is", end.Heads[object], "not", want, text)
		}
	}
	return text
}

func TestHeld(t *testing.T) {
	three := threeStore()
	most := store{Heads: plainHeads(8), Descs: []desc{descOf(0, 0, readsOf(0, 1, 2, 3, 4, 5)...), descOf(0, 1, readsOf(6, 7)...)}}
	for _, c := range []struct {
		name string
		s    store
		want []int
	}{
		{"nothing lies", three, nil},
		{"no descriptors", store{Heads: plainHeads(8)}, nil},
		{"the first", laid(three, 0, 0), []int{0}},
		{"the last", laid(three, 2, 2), []int{2}},
		{"the first and the last", laid(three, 2, 2, 0), []int{0, 2}},
		{"several lie", laid(laid(three, 2, 2), 1, 1), []int{1, 2}},
		{"one lies over all", laid(three, 0, 0, 1, 2), []int{0, 1, 2}},
		{"a committed one", decided(laid(three, 0, 1), 0, committed), []int{1}},
		{"a failed one", decided(laid(three, 0, 1), 0, failed), []int{1}},
		{"over each object that there can be", laid(laid(most, 0, 0, 1, 2, 3, 4, 5), 1, 6, 7), placesTo(8)},
	} {
		if got := impl.Held(c.s); !slices.Equal(got, c.want) {
			t.Errorf("%s: %v", c.name, got)
		}
	}
	for name, s := range badStores() {
		if got := impl.Held(s); len(got) != 0 {
			t.Errorf("%s: %v", name, got)
		}
	}
}

// guardedStore is a store whose lists have something behind them.
type guardedStore struct {
	store
	heads   guarded[head]
	entries []guarded[entry]
	descs   []desc
}

// What lies behind the lists: it would be as good as what lies within.
func headBehind() head { return headOf(12, 34, -1) }
func descBehind() desc { return descOf(2, undecided, entryBehind()) }

func guardStore(s store) guardedStore {
	g := guardedStore{heads: guard(s.Heads, headBehind())}
	for _, d := range s.Descs {
		g.entries = append(g.entries, guard(d.Entries, entryBehind()))
		g.descs = append(g.descs, descOf(d.Owner, d.Status, g.entries[len(g.entries)-1].list()...))
	}
	g.descs = append(g.descs, descBehind(), descBehind())
	g.store = store{Heads: g.heads.list(), Descs: slices.Clone(g.descs)[:len(s.Descs)]}
	return g
}

func (g guardedStore) check(t *testing.T, name string) {
	t.Helper()
	g.heads.check(t, name+": heads")
	for _, entries := range g.entries {
		entries.check(t, name+": entries")
	}
	whole := g.store.Descs[:len(g.descs)]
	if !slices.EqualFunc(whole, g.descs, sameDesc) {
		t.Errorf("%s: the descriptors are %v, were %v", name, whole, g.descs)
	}
}

// storeAnswers are the stores that all functions answer with, done or refused; those that answer none are called, too.
func storeAnswers(s store, d desc) []store {
	impl.StoreOk(s)
	overwrite(impl.Held(s), -7)
	announced, _, _ := impl.Announce(s, d)
	none, _, _ := impl.Announce(s, desc{})
	answers := []store{announced, none}
	for _, number := range []int{-1, 0, 1, 2, 3, 60} {
		impl.Look(s, number)
		for phase := -1; phase < 7; phase++ {
			for at := range 3 {
				impl.FrameOk(s, frameOf(number, phase, at))
				then, _, _ := impl.Drive(s, frameOf(number, phase, at))
				answers = append(answers, then)
			}
		}
	}
	return answers
}

// everyStore has the good and the bad ones, and some in the middle of being driven, of which two descriptors have one
// list of entries.
func everyStore() map[string]store {
	all := goodStores()
	maps.Copy(all, badStores())
	maps.DeleteFunc(all, func(_ string, s store) bool { return len(s.Heads) > 1000 || len(s.Descs) > 1000 })
	entries := threeStore().Descs[0].Entries
	one := threeStore()
	one.Descs = []desc{descOf(0, undecided, entries...), {Owner: 1, Entries: entries}, {Owner: 2, Status: committed, Entries: entries[:2]}}
	all["entries are one list"] = one
	all["entries are one list, and lie"] = store{Heads: []head{headOf(1, 1, 2), headOf(1, 1, 2), headOf(1, 1, 0)}, Descs: one.Descs}
	return all
}

// Promise 19: nothing is written into an argument, nor behind it; every answer is new memory, also where the store comes
// back as it was.
func TestStoresWriteNothingAndShareNothing(t *testing.T) {
	for name, plain := range everyStore() {
		g := guardStore(plain)
		announced := guard([]entry{writeOf(0, 1, 2, 3)}, entryBehind())
		answers := storeAnswers(g.store, descOf(1, undecided, announced.list()...))
		g.check(t, name+", called")
		for _, then := range answers {
			overwriteStore(t, name, then)
		}
		g.check(t, name+", overwritten")
		announced.check(t, name+", announced")
	}
	values := guard([]int{3, 4}, 5)
	s, _ := impl.NewStore(values.list())
	overwriteStore(t, "new", s)
	values.check(t, "new")
	if s, _ := impl.NewStore(values.list()); !sameStore(s, store{Heads: []head{headOf(3, 0, -1), headOf(4, 0, -1)}}) {
		t.Error("a new store is kept:", s)
	}
}

// overwriteStore changes one list after the other, with its spare room, and asks that the others stay as they were.
func overwriteStore(t *testing.T, name string, s store) {
	t.Helper()
	was := cloneStore(s)
	overwrite(s.Heads, headOf(-7, -7, -7))
	was.Heads = slices.Clone(s.Heads)
	for i, d := range s.Descs {
		overwrite(d.Entries, entry{Object: -7, Version: i})
		was.Descs[i].Entries = slices.Clone(d.Entries)
		if !sameStore(s, was) {
			t.Errorf("%s: two lists of one answer share memory", name)
		}
	}
	all := s.Descs[:cap(s.Descs)]
	for i := range all {
		all[i] = descOf(-7, i)
	}
}

// What lies behind a list's length is neither read nor handed out, also not as spare room of an answer.
func TestStoresReadNothingBehind(t *testing.T) {
	for name, plain := range everyStore() {
		s := guardStore(plain).store
		if impl.StoreOk(s) != impl.StoreOk(plain) || !slices.Equal(impl.Held(s), impl.Held(plain)) {
			t.Errorf("%s: what lies behind is read", name)
		}
		d := descOf(1, undecided, writeOf(0, 1, 2, 3))
		wants := storeAnswers(plain, d)
		for i, then := range storeAnswers(s, d) {
			if !sameStore(then, wants[i]) {
				t.Errorf("%s: what lies behind is read: %v, not %v", name, then, wants[i])
			}
			if slices.Contains(spare(then.Heads), headBehind()) || slices.ContainsFunc(spare(then.Descs), func(d desc) bool { return sameDesc(d, descBehind()) }) {
				t.Errorf("%s: what lies behind is handed out", name)
			}
			for _, d := range then.Descs {
				if slices.Contains(spare(d.Entries), entryBehind()) {
					t.Errorf("%s: what lies behind the entries is handed out", name)
				}
			}
		}
	}
	// One object, one descriptor, one entry behind what is there count for nothing.
	short := threeStore()
	short.Heads, short.Descs[0].Entries = short.Heads[:2], short.Descs[0].Entries[:2]
	short.Descs = short.Descs[:2]
	if !impl.StoreOk(short) || impl.FrameOk(short, frameOf(2, looks, 0)) || impl.FrameOk(short, frameOf(0, lays, 2)) {
		t.Error("what lies behind is read")
	}
	if h, ok := impl.Look(short, 2); ok || h != (head{}) {
		t.Error("an object behind is looked at:", h)
	}
	checkNotAnnounced(t, "of an object behind", short, descOf(0, undecided, readsOf(2)...))
}
