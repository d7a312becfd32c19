package tests

import (
	"cmp"
	"fmt"
	"maps"
	"math"
	"slices"
	"testing"

	"loop.example/g00087/impl"
)

type (
	node  = impl.Node
	chain = impl.Chain
)

// What the functions of maps tell, as the document numbers it; and how many nodes there are, and are opened at most.
const (
	mapDone = 0
	mapBad  = 1
	mapMany = 2
	mapFull = 3
	mapNone = 4

	mostNodes = 16
	mostWalk  = 10
)

// laidNode is a node of a chain, and its place.
type laidNode struct{ place, key, value int }

// chainFrom is the chain of these nodes, one behind the other.
func chainFrom(list []laidNode) chain {
	c := chain{First: -1}
	next := -1
	for _, n := range slices.Backward(list) {
		c.Nodes[n.place] = node{Used: true, Key: n.key, Value: n.value, Next: next}
		next = n.place
	}
	c.First = next
	return c
}

// chainAt has a node at each of these places, one behind the other: the keys are 10, 20, 30 .., the values 101, 102, 103 ..
func chainAt(places ...int) chain {
	var list []laidNode
	for i, place := range places {
		list = append(list, laidNode{place, 10 * (i + 1), 101 + i})
	}
	return chainFrom(list)
}

// rowOf has that many nodes, by place, and mixedRow has them at places all over.
func rowOf(many int) chain {
	return chainAt(placesTo(many)...)
}

func mixedRow(many int) chain {
	var places []int
	for i := range many {
		places = append(places, (7*i+5)%mostNodes)
	}
	return chainAt(places...)
}

// keyed has nodes of these keys, by place; each has the value 5.
func keyed(keys ...int) chain {
	var list []laidNode
	for place, key := range keys {
		list = append(list, laidNode{place, key, 5})
	}
	return chainFrom(list)
}

// withChain is the chain with one change.
func withChain(c chain, change func(*chain)) chain {
	change(&c)
	return c
}

func goodChains() map[string]chain {
	backward := placesTo(mostNodes)
	slices.Reverse(backward)
	return map[string]chain{
		"empty":                       {First: -1},
		"one, at the first place":     chainAt(0),
		"one, at the last place":      chainAt(15),
		"two, by place":               chainAt(0, 1),
		"two, backward":               chainAt(1, 0),
		"both ends":                   chainAt(15, 0),
		"some between":                chainAt(9, 2, 5),
		"ten":                         rowOf(10),
		"eleven":                      mixedRow(11),
		"all but the first":           chainAt(placesTo(mostNodes)[1:]...),
		"all but the last":            chainAt(placesTo(15)...),
		"all but one, mixed":          mixedRow(15),
		"all, by place":               rowOf(mostNodes),
		"all, backward":               chainAt(backward...),
		"all, mixed":                  mixedRow(mostNodes),
		"keys at both ends":           chainFrom([]laidNode{{3, -top, 1}, {0, top, 2}}),
		"a key at the lower end":      keyed(-top),
		"a key at the upper end":      keyed(top),
		"keys side by side":           keyed(-top, -top+1, -1, 0, 1, top-1, top),
		"values at both ends":         chainFrom([]laidNode{{0, 1, -top}, {1, 2, top}, {2, 3, 0}}),
		"all is 0, and Used":          chainFrom([]laidNode{{0, 0, 0}}),
		"keys and values are alike":   chainFrom([]laidNode{{4, 2, 2}, {2, 4, 2}}),
		"values fall as keys ascend":  chainFrom([]laidNode{{0, 1, 3}, {1, 2, 2}, {2, 3, 1}}),
		"links to the places of keys": chainFrom([]laidNode{{0, 1, 1}, {1, 2, 2}, {2, 3, 3}}),
	}
}

// badChains are not ChainOk, each for one reason.
func badChains() map[string]chain {
	three, full := chainAt(9, 2, 5), mixedRow(mostNodes)
	bad := map[string]chain{
		"the zero value":                      {},
		"empty, First is a place":             {First: 7},
		"First of one is another place":       withChain(chainAt(3), func(c *chain) { c.First = 0 }),
		"First of one is none":                withChain(chainAt(0), func(c *chain) { c.First = -1 }),
		"First of all is none":                withChain(full, func(c *chain) { c.First = -1 }),
		"First is the second":                 withChain(three, func(c *chain) { c.First = 2 }),
		"First is the last":                   withChain(three, func(c *chain) { c.First = 5 }),
		"one goes round":                      withChain(chainAt(0), func(c *chain) { c.Nodes[0].Next = 0 }),
		"the last leads to the first":         withChain(three, func(c *chain) { c.Nodes[5].Next = 9 }),
		"the last leads to the middle":        withChain(three, func(c *chain) { c.Nodes[5].Next = 2 }),
		"the last leads to itself":            withChain(three, func(c *chain) { c.Nodes[5].Next = 5 }),
		"the middle leads to itself":          withChain(three, func(c *chain) { c.Nodes[2].Next = 2 }),
		"the middle leads to the first":       withChain(three, func(c *chain) { c.Nodes[2].Next = 9 }),
		"all go round":                        withChain(full, func(c *chain) { c.Nodes[(7*15+5)%mostNodes].Next = c.First }),
		"the last of all leads to itself":     withChain(full, func(c *chain) { c.Nodes[(7*15+5)%mostNodes].Next = (7*15 + 5) % mostNodes }),
		"the first leads to none that is":     withChain(three, func(c *chain) { c.Nodes[9].Next = 3 }),
		"the last leads to none that is":      withChain(three, func(c *chain) { c.Nodes[5].Next = 0 }),
		"the middle is not Used":              withChain(three, func(c *chain) { c.Nodes[2] = node{} }),
		"the last is not Used":                withChain(three, func(c *chain) { c.Nodes[5] = node{} }),
		"the first is not Used":               withChain(three, func(c *chain) { c.Nodes[9] = node{} }),
		"the middle is only not Used":         withChain(three, func(c *chain) { c.Nodes[2].Used = false }),
		"the middle is left out":              withChain(three, func(c *chain) { c.Nodes[9].Next = 5 }),
		"the last is left out":                withChain(three, func(c *chain) { c.Nodes[2].Next = -1 }),
		"all but the first are left out":      withChain(full, func(c *chain) { c.Nodes[c.First].Next = -1 }),
		"the last of all is left out":         withChain(full, func(c *chain) { c.Nodes[(7*14+5)%mostNodes].Next = -1 }),
		"one more is Used":                    withChain(three, func(c *chain) { c.Nodes[0] = node{Used: true, Key: 40, Next: -1} }),
		"one more leads into the chain":       withChain(three, func(c *chain) { c.Nodes[0] = node{Used: true, Key: 5, Next: 9} }),
		"one more leads to itself":            withChain(three, func(c *chain) { c.Nodes[15] = node{Used: true, Key: 5, Next: 15} }),
		"of nothing else, one is Used":        {Nodes: [16]node{6: {Used: true, Next: -1}}, First: -1},
		"two chains":                          withChain(rowOf(4), func(c *chain) { c.Nodes[1].Next = -1 }),
		"a chain, and two that go round":      withChain(rowOf(4), func(c *chain) { c.Nodes[1].Next, c.Nodes[3].Next = -1, 2 }),
		"one is left out, one comes twice":    withChain(rowOf(4), func(c *chain) { c.Nodes[1].Next = 0 }),
		"keys are equal":                      keyed(4, 4),
		"the last keys are equal":             keyed(4, 5, 6, 6),
		"the first keys are equal":            keyed(4, 4, 6),
		"keys are equal, one between":         keyed(4, 7, 4),
		"all keys are equal":                  keyed(alike(0, mostNodes)...),
		"keys are equal at the lower end":     keyed(-top, -top),
		"keys are equal at the upper end":     keyed(0, top, top),
		"keys fall":                           keyed(5, 4),
		"keys fall at last":                   keyed(-3, 4, 9, 8),
		"keys fall once":                      keyed(1, 2, 5, 3, 6),
		"keys fall from the upper to lower":   keyed(top, -top),
		"the last key of all falls":           withChain(full, func(c *chain) { c.Nodes[(7*15+5)%mostNodes].Key = 149 }),
		"the last key of all is equal":        withChain(full, func(c *chain) { c.Nodes[(7*15+5)%mostNodes].Key = 150 }),
		"a key above, of the one alone":       keyed(top + 1),
		"a key below, of the one alone":       keyed(-top - 1),
		"a key above, of the last":            keyed(1, 2, top+1),
		"a key below, of the first":           keyed(-top-1, 2, 3),
		"the greatest key":                    keyed(1, math.MaxInt),
		"the least key":                       keyed(math.MinInt, 1),
		"of a not Used one, Next is none":     withChain(three, func(c *chain) { c.Nodes[0].Next = -1 }),
		"of the last not Used one, Next":      withChain(three, func(c *chain) { c.Nodes[15].Next = 1 }),
		"of an empty one, Key":                {Nodes: [16]node{0: {Key: 1}}, First: -1},
		"of an empty one, Value":              {Nodes: [16]node{15: {Value: -1}}, First: -1},
		"of an empty one, Next is none":       {Nodes: [16]node{8: {Next: -1}}, First: -1},
		"of an empty one, all have no Next":   {Nodes: [16]node(alike(node{Next: -1}, 16)), First: -1},
		"of an empty one, Next is a place":    {Nodes: [16]node{0: {Next: 2}}, First: -1},
		"one that is not Used is come to":     {Nodes: [16]node{3: {Key: 4, Value: 5, Next: -1}}, First: 3},
		"one that is not Used, and all is 0":  {First: 3},
		"a Used one leads to one that is not": {Nodes: [16]node{3: {Used: true, Key: -4, Next: 0}}, First: 3},
	}
	for _, number := range []int{math.MinInt, -top, -17, -2, 16, 17, 32, top, math.MaxInt} {
		bad[fmt.Sprint("empty, First is ", number)] = chain{First: number}
		bad[fmt.Sprint("First of three is ", number)] = withChain(three, func(c *chain) { c.First = number })
		for _, place := range []int{9, 2, 5} {
			bad[fmt.Sprint("Next at ", place, " is ", number)] = withChain(three, func(c *chain) { c.Nodes[place].Next = number })
		}
	}
	for _, number := range []int{math.MinInt, -top - 1, top + 1, math.MaxInt} {
		for _, place := range []int{9, 2, 5} {
			bad[fmt.Sprint("Value at ", place, " is ", number)] = withChain(three, func(c *chain) { c.Nodes[place].Value = number })
			bad[fmt.Sprint("Key at ", place, " is ", number)] = withChain(three, func(c *chain) { c.Nodes[place].Key = number })
		}
	}
	for _, place := range []int{0, 8, 15} {
		bad[fmt.Sprint("Key of the not Used one at ", place)] = withChain(three, func(c *chain) { c.Nodes[place].Key = 35 })
		bad[fmt.Sprint("Value of the not Used one at ", place)] = withChain(three, func(c *chain) { c.Nodes[place].Value = 1 })
	}
	return bad
}

// plainList are the nodes to which one comes from First on; it is false where c is not a chain. It says what the
// document does, and so do those below.
func plainList(c chain) ([]laidNode, bool) {
	var list []laidNode
	passed := map[int]bool{}
	for at := c.First; at != -1; at = c.Nodes[at].Next {
		if at < 0 || at >= mostNodes || passed[at] {
			return nil, false
		}
		passed[at] = true
		list = append(list, laidNode{at, c.Nodes[at].Key, c.Nodes[at].Value})
	}
	for place, n := range c.Nodes {
		if n.Used != passed[place] || !n.Used && n != (node{}) || !plainValue(n.Key) || !plainValue(n.Value) {
			return nil, false
		}
	}
	for i := 1; i < len(list); i++ {
		if list[i-1].key >= list[i].key {
			return nil, false
		}
	}
	return list, true
}

func plainValue(x int) bool {
	return x >= -top && x <= top
}

// keyPlace is behind how many nodes the key's place in the chain is, and whether it is there.
func keyPlace(list []laidNode, key int) (int, bool) {
	return slices.BinarySearchFunc(list, key, func(n laidNode, key int) int { return cmp.Compare(n.key, key) })
}

// plainWalk tells how many nodes are opened, and a code. All nodes whose Key is below the key are opened, and one more,
// where there is one.
func plainWalk(c chain, key int) (int, int) {
	list, ok := plainList(c)
	if !ok || !plainValue(key) {
		return 0, mapBad
	}
	below, has := keyPlace(list, key)
	opened := min(below+1, len(list))
	switch {
	case opened > mostWalk:
		return mostWalk, mapMany
	case has:
		return opened, mapDone
	}
	return opened, mapNone
}

func plainPut(c chain, key int, value int) (chain, int, int) {
	opened, code := plainWalk(c, key)
	if !plainValue(value) {
		return c, 0, mapBad
	}
	list, _ := plainList(c)
	below, _ := keyPlace(list, key)
	switch code {
	case mapDone:
		list[below].value = value
	case mapNone:
		if len(list) == mostNodes {
			return c, opened, mapFull
		}
		place := slices.IndexFunc(c.Nodes[:], func(n node) bool { return !n.Used })
		list = slices.Insert(list, below, laidNode{place, key, value})
	default:
		return c, opened, code
	}
	return chainFrom(list), opened, mapDone
}

func plainDrop(c chain, key int) (chain, int, int) {
	opened, code := plainWalk(c, key)
	if code != mapDone {
		return c, opened, code
	}
	list, _ := plainList(c)
	return chainFrom(slices.DeleteFunc(list, func(n laidNode) bool { return n.key == key })), opened, mapDone
}

func plainGet(c chain, key int) (int, int, int) {
	opened, code := plainWalk(c, key)
	if code != mapDone {
		return 0, opened, code
	}
	list, _ := plainList(c)
	below, _ := keyPlace(list, key)
	return list[below].value, opened, mapDone
}

func plainPairs(c chain) ([]int, []int) {
	var keys, values []int
	list, _ := plainList(c)
	for _, n := range list {
		keys, values = append(keys, n.key), append(values, n.value)
	}
	return keys, values
}

func plainRange(c chain, low int, high int) ([]int, int) {
	list, ok := plainList(c)
	if !ok {
		return nil, mapBad
	}
	opened := 0
	var keys []int
	for i, n := range list {
		if i == 0 || list[i-1].key <= high {
			opened++
		}
		if low <= n.key && n.key <= high {
			keys = append(keys, n.key)
		}
	}
	if opened > mostWalk {
		return nil, mapMany
	}
	return keys, mapDone
}

func TestLimitsOfMaps(t *testing.T) {
	if impl.MaxNodes != mostNodes || impl.MaxWalk != mostWalk {
		t.Error(impl.MaxNodes, impl.MaxWalk)
	}
	if codes := []int{impl.MapDone, impl.MapBad, impl.MapMany, impl.MapFull, impl.MapNone}; !slices.Equal(codes, []int{mapDone, mapBad, mapMany, mapFull, mapNone}) {
		t.Error("codes", codes)
	}
}

func checkChain(t *testing.T, name string, c chain, want bool) {
	t.Helper()
	if _, plain := plainList(c); impl.ChainOk(c) != want || plain != want {
		t.Fatalf("%s: not %v: %+v", name, want, c)
	}
}

// checkPut, and those below, hold an answer against what is wanted, and that against the plain telling.
func checkPut(t *testing.T, name string, c chain, key int, value int, want chain, wantOpened int, wantCode int) {
	t.Helper()
	then, opened, code := impl.MapPut(c, key, value)
	if then != want || opened != wantOpened || code != wantCode {
		t.Fatalf("%s: %+v\nput %d %d: %+v %d %d\nnot %+v %d %d", name, c, key, value, then, opened, code, want, wantOpened, wantCode)
	}
	if plain, many, told := plainPut(c, key, value); plain != want || many != wantOpened || told != wantCode {
		t.Fatalf("%s: %+v\nput %d %d: plainly %+v %d %d\nnot %+v %d %d", name, c, key, value, plain, many, told, want, wantOpened, wantCode)
	}
}

func checkDrop(t *testing.T, name string, c chain, key int, want chain, wantOpened int, wantCode int) {
	t.Helper()
	then, opened, code := impl.MapDrop(c, key)
	if then != want || opened != wantOpened || code != wantCode {
		t.Fatalf("%s: %+v\ndropped %d: %+v %d %d\nnot %+v %d %d", name, c, key, then, opened, code, want, wantOpened, wantCode)
	}
	if plain, many, told := plainDrop(c, key); plain != want || many != wantOpened || told != wantCode {
		t.Fatalf("%s: %+v\ndropped %d: plainly %+v %d %d\nnot %+v %d %d", name, c, key, plain, many, told, want, wantOpened, wantCode)
	}
}

func checkGet(t *testing.T, name string, c chain, key int, want int, wantOpened int, wantCode int) {
	t.Helper()
	value, opened, code := impl.MapGet(c, key)
	if value != want || opened != wantOpened || code != wantCode {
		t.Fatalf("%s: %+v\ngot %d: %d %d %d, not %d %d %d", name, c, key, value, opened, code, want, wantOpened, wantCode)
	}
	if plain, many, told := plainGet(c, key); plain != want || many != wantOpened || told != wantCode {
		t.Fatalf("%s: %+v\ngot %d: plainly %d %d %d, not %d %d %d", name, c, key, plain, many, told, want, wantOpened, wantCode)
	}
}

func checkPairs(t *testing.T, name string, c chain, want []int, wantValues []int) {
	t.Helper()
	keys, values := impl.MapPairs(c)
	if !slices.Equal(keys, want) || !slices.Equal(values, wantValues) {
		t.Fatalf("%s: %+v\npairs %v %v, not %v %v", name, c, keys, values, want, wantValues)
	}
}

func checkRange(t *testing.T, name string, c chain, low int, high int, want []int, wantCode int) {
	t.Helper()
	keys, code := impl.MapRange(c, low, high)
	if !slices.Equal(keys, want) || code != wantCode {
		t.Fatalf("%s: %+v\n%d to %d: %v %d, not %v %d", name, c, low, high, keys, code, want, wantCode)
	}
	if plain, told := plainRange(c, low, high); !slices.Equal(plain, want) || told != wantCode {
		t.Fatalf("%s: %+v\n%d to %d: plainly %v %d, not %v %d", name, c, low, high, plain, told, want, wantCode)
	}
}

// checkKey asks of a chain all that these functions do by one key, and asks that what they leave is a chain, if c is.
func checkKey(t *testing.T, name string, c chain, key int, values ...int) {
	t.Helper()
	_, ok := plainList(c)
	for _, value := range values {
		want, opened, code := plainPut(c, key, value)
		checkPut(t, name, c, key, value, want, opened, code)
		checkChain(t, name, want, ok)
	}
	want, opened, code := plainDrop(c, key)
	checkDrop(t, name, c, key, want, opened, code)
	checkChain(t, name, want, ok)
	value, opened, code := plainGet(c, key)
	checkGet(t, name, c, key, value, opened, code)
}

// checkPlainChain asks of a chain all that it can be asked by these keys.
func checkPlainChain(t *testing.T, name string, c chain, keys ...int) {
	t.Helper()
	_, ok := plainList(c)
	checkChain(t, name, c, ok)
	all, values := plainPairs(c)
	checkPairs(t, name, c, all, values)
	for _, key := range keys {
		checkKey(t, name, c, key, 7, -top)
		for _, high := range keys {
			want, code := plainRange(c, key, high)
			checkRange(t, name, c, key, high, want, code)
		}
	}
}

func TestChainOk(t *testing.T) {
	for name, c := range goodChains() {
		checkChain(t, name, c, true)
	}
	for name, c := range badChains() {
		checkChain(t, name, c, false)
	}
}

func TestNewChain(t *testing.T) {
	c := impl.NewChain()
	if c != (chain{First: -1}) || !impl.ChainOk(c) {
		t.Errorf("%+v", c)
	}
	c.Nodes[3], c.First = node{Used: true}, 3
	if again := impl.NewChain(); again != (chain{First: -1}) {
		t.Errorf("a new chain is kept: %+v", again)
	}
}

// What is not ChainOk is refused ahead of all, and left as it was.
func TestMapsRefuseWhatIsNoChain(t *testing.T) {
	for name, c := range badChains() {
		for _, key := range []int{10, 20, 30, 25, 4, 0, top, top + 1, math.MinInt} {
			for _, value := range []int{0, 5, top + 1} {
				checkPut(t, name, c, key, value, c, 0, mapBad)
			}
			checkDrop(t, name, c, key, c, 0, mapBad)
			checkGet(t, name, c, key, 0, 0, mapBad)
			checkRange(t, name, c, key, 20, nil, mapBad)
			checkRange(t, name, c, 20, key, nil, mapBad)
		}
		checkPairs(t, name, c, nil, nil)
	}
}

// Nor is any chain changed by what is no value, however long the walk would be.
func TestMapsRefuseWhatIsNoValue(t *testing.T) {
	for name, c := range goodChains() {
		for _, bad := range []int{math.MinInt, -top - 1, top + 1, math.MaxInt} {
			for _, good := range []int{10, 15, 110, 160, 999, -top, top} {
				checkPut(t, name, c, bad, good, c, 0, mapBad)
				checkPut(t, name, c, good, bad, c, 0, mapBad)
			}
			checkPut(t, name, c, bad, bad, c, 0, mapBad)
			checkDrop(t, name, c, bad, c, 0, mapBad)
			checkGet(t, name, c, bad, 0, 0, mapBad)
		}
	}
}

func TestMapPut(t *testing.T) {
	three := chainAt(9, 2, 5)
	for _, p := range []struct {
		name       string
		c          chain
		key, value int
		want       chain
		opened     int
	}{
		{"the first of all", chain{First: -1}, 4, 6, chainFrom([]laidNode{{0, 4, 6}}), 0},
		{"the first of all, and all is 0", chain{First: -1}, 0, 0, chainFrom([]laidNode{{0, 0, 0}}), 0},
		{"the key of the first", three, 10, 7, chainFrom([]laidNode{{9, 10, 7}, {2, 20, 102}, {5, 30, 103}}), 1},
		{"the key of the middle", three, 20, 7, chainFrom([]laidNode{{9, 10, 101}, {2, 20, 7}, {5, 30, 103}}), 2},
		{"the key of the last", three, 30, 7, chainFrom([]laidNode{{9, 10, 101}, {2, 20, 102}, {5, 30, 7}}), 3},
		{"the value that is there", three, 20, 102, three, 2},
		{"the value 0", three, 20, 0, chainFrom([]laidNode{{9, 10, 101}, {2, 20, 0}, {5, 30, 103}}), 2},
		{"ahead of all", three, 9, 7, chainFrom([]laidNode{{0, 9, 7}, {9, 10, 101}, {2, 20, 102}, {5, 30, 103}}), 1},
		{"behind the first", three, 11, 7, chainFrom([]laidNode{{9, 10, 101}, {0, 11, 7}, {2, 20, 102}, {5, 30, 103}}), 2},
		{"ahead of the last", three, 29, 7, chainFrom([]laidNode{{9, 10, 101}, {2, 20, 102}, {0, 29, 7}, {5, 30, 103}}), 3},
		{"behind all", three, 31, 7, chainFrom([]laidNode{{9, 10, 101}, {2, 20, 102}, {5, 30, 103}, {0, 31, 7}}), 3},
		{"the least key", three, -top, -top, chainFrom([]laidNode{{0, -top, -top}, {9, 10, 101}, {2, 20, 102}, {5, 30, 103}}), 1},
		{"the greatest key", three, top, top, chainFrom([]laidNode{{9, 10, 101}, {2, 20, 102}, {5, 30, 103}, {0, top, top}}), 3},
		{"the place between two, ahead of both", chainAt(0, 2), 5, 7, chainFrom([]laidNode{{1, 5, 7}, {0, 10, 101}, {2, 20, 102}}), 1},
		{"the place above all, ahead of all", chainAt(0, 1), 5, 7, chainFrom([]laidNode{{2, 5, 7}, {0, 10, 101}, {1, 20, 102}}), 1},
		{"the place above all, between", chainAt(1, 0), 15, 7, chainFrom([]laidNode{{1, 10, 101}, {2, 15, 7}, {0, 20, 102}}), 2},
		{"the place above all, behind all", chainAt(1, 0), 25, 7, chainFrom([]laidNode{{1, 10, 101}, {0, 20, 102}, {2, 25, 7}}), 2},
		{"the first of several places", chainAt(0, 4, 1), 15, 7, chainFrom([]laidNode{{0, 10, 101}, {2, 15, 7}, {4, 20, 102}, {1, 30, 103}}), 2},
	} {
		checkPut(t, p.name, p.c, p.key, p.value, p.want, p.opened, mapDone)
		checkChain(t, p.name, p.want, true)
	}
}

// Where one place is left, it is taken, wherever it is, and wherever the key comes in the chain; then all are Used.
func TestMapPutAtTheLastPlace(t *testing.T) {
	for left := range mostNodes {
		places := slices.DeleteFunc(placesTo(mostNodes), func(place int) bool { return place == left })
		c := chainAt(places...)
		for at := range mostWalk {
			list, _ := plainList(c)
			want := chainFrom(slices.Insert(list, at, laidNode{left, 10*at + 5, 7}))
			checkPut(t, "the last place", c, 10*at+5, 7, want, at+1, mapDone)
		}
	}
}

func TestMapPutWhereAllAreUsed(t *testing.T) {
	for name, c := range map[string]chain{"by place": rowOf(mostNodes), "mixed": mixedRow(mostNodes)} {
		for at := range mostNodes {
			key := 10 * (at + 1)
			if at >= mostWalk {
				checkPut(t, name+", too far", c, key, 7, c, mostWalk, mapMany)
				checkPut(t, name+", not there, and too far", c, key-5, 7, c, mostWalk, mapMany)
				continue
			}
			list, _ := plainList(c)
			list[at].value = 7
			checkPut(t, name+", there", c, key, 7, chainFrom(list), at+1, mapDone)
			checkPut(t, name+", not there", c, key-5, 7, c, at+1, mapFull)
		}
		checkPut(t, name+", behind all", c, 165, 7, c, mostWalk, mapMany)
		then, _, code := impl.MapDrop(c, 50)
		if code != mapDone {
			t.Fatal("not dropped:", code)
		}
		if then, _, code = impl.MapPut(then, 5, 7); code != mapDone || then.First == c.First || !impl.ChainOk(then) {
			t.Errorf("%s: no room for another one: %+v %d", name, then, code)
		}
	}
}

// How many are opened, of a chain of each length: by the key of each node, by what is ahead of it, and by what is behind
// all.
func TestWalks(t *testing.T) {
	for many := range mostNodes + 1 {
		for name, c := range map[string]chain{"by place": rowOf(many), "mixed": mixedRow(many)} {
			for at := range many {
				key, opened, there, not := 10*(at+1), at+1, mapDone, mapNone
				if at >= mostWalk {
					opened, there, not = mostWalk, mapMany, mapMany
				}
				checkOpened(t, name, c, key, opened, there)
				checkOpened(t, name, c, key-1, opened, not)
				checkOpened(t, name, c, key-9, opened, not)
			}
			opened, code := many, mapNone
			if many > mostWalk {
				opened, code = mostWalk, mapMany
			}
			checkOpened(t, name, c, 10*many+1, opened, code)
			checkOpened(t, name, c, top, opened, code)
		}
	}
}

// checkOpened asks each operation how many it opens; a put of what is not there is done or finds no room.
func checkOpened(t *testing.T, name string, c chain, key int, want int, wantCode int) {
	t.Helper()
	_, opened, code := impl.MapDrop(c, key)
	_, got, gotCode := impl.MapGet(c, key)
	_, put, putCode := impl.MapPut(c, key, 3)
	if opened != want || got != want || put != want {
		t.Fatalf("%s: %+v\nopened for %d: %d by drop, %d by get, %d by put, not %d", name, c, key, opened, got, put, want)
	}
	wantPut := wantCode
	if wantCode == mapNone {
		wantPut = mapDone
		if !slices.Contains(c.Nodes[:], node{}) {
			wantPut = mapFull
		}
	}
	if code != wantCode || gotCode != wantCode || putCode != wantPut {
		t.Fatalf("%s: %+v\nby %d: %d by drop, %d by get, %d by put, not %d", name, c, key, code, gotCode, putCode, wantCode)
	}
}

// The one more than MaxWalk is needed for the key's own node, for the first one above it, or only for the end.
func TestWalksOfOneMoreThanMaxWalk(t *testing.T) {
	ten, eleven := rowOf(10), rowOf(11)
	checkGet(t, "the key is that of the tenth", eleven, 100, 110, 10, mapDone)
	checkGet(t, "the tenth is the first above", eleven, 95, 0, 10, mapNone)
	checkGet(t, "the tenth is the last of all", ten, 105, 0, 10, mapNone)
	checkPut(t, "the tenth is the last of all", ten, 105, 7, withChain(ten, func(c *chain) {
		c.Nodes[9].Next, c.Nodes[10] = 10, node{Used: true, Key: 105, Value: 7, Next: -1}
	}), 10, mapDone)
	for _, key := range []int{110, 105, 115} {
		checkGet(t, "the eleventh is needed", eleven, key, 0, 10, mapMany)
		checkDrop(t, "the eleventh is needed", eleven, key, eleven, 10, mapMany)
		checkPut(t, "the eleventh is needed", eleven, key, 7, eleven, 10, mapMany)
	}
}

func TestMapDrop(t *testing.T) {
	three := chainAt(9, 2, 5)
	for _, p := range []struct {
		name   string
		c      chain
		key    int
		want   chain
		opened int
	}{
		{"the only one", chainAt(4), 10, chain{First: -1}, 1},
		{"the only one, at place 0", chainAt(0), 10, chain{First: -1}, 1},
		{"the first", three, 10, chainFrom([]laidNode{{2, 20, 102}, {5, 30, 103}}), 1},
		{"the middle", three, 20, chainFrom([]laidNode{{9, 10, 101}, {5, 30, 103}}), 2},
		{"the last", three, 30, chainFrom([]laidNode{{9, 10, 101}, {2, 20, 102}}), 3},
		{"the first of two", chainAt(1, 0), 10, chainFrom([]laidNode{{0, 20, 102}}), 1},
		{"the last of two", chainAt(1, 0), 20, chainFrom([]laidNode{{1, 10, 101}}), 2},
		{"the key 0", keyed(-1, 0, 1), 0, chainFrom([]laidNode{{0, -1, 5}, {2, 1, 5}}), 2},
		{"the least key", keyed(-top, top), -top, chainFrom([]laidNode{{1, top, 5}}), 1},
		{"the greatest key", keyed(-top, top), top, chainFrom([]laidNode{{0, -top, 5}}), 2},
	} {
		checkDrop(t, p.name, p.c, p.key, p.want, p.opened, mapDone)
		checkChain(t, p.name, p.want, true)
	}
	checkDrop(t, "none of none", chain{First: -1}, 10, chain{First: -1}, 0, mapNone)
	for key, opened := range map[int]int{-top: 1, 9: 1, 11: 2, 19: 2, 21: 3, 29: 3, 31: 3, top: 3} {
		checkDrop(t, "none", three, key, three, opened, mapNone)
	}
	// Whoever is dropped of all, one fewer is left, and no trace of it; the tenth can be dropped as often as one lies there.
	for at := range mostWalk {
		then, _, _ := impl.MapDrop(mixedRow(mostNodes), 10*(at+1))
		keys, _ := impl.MapPairs(then)
		if len(keys) != mostNodes-1 || slices.Contains(keys, 10*(at+1)) || then.Nodes[(7*at+5)%mostNodes] != (node{}) {
			t.Errorf("dropped at %d: %+v", at, then)
		}
	}
	c := rowOf(mostNodes)
	for at := 9; at < mostNodes; at++ {
		var code int
		if c, _, code = impl.MapDrop(c, 10*(at+1)); code != mapDone {
			t.Error("not dropped:", at, code)
		}
	}
	if c != rowOf(9) {
		t.Errorf("not nine are left: %+v", c)
	}
}

func TestMapGet(t *testing.T) {
	three := chainFrom([]laidNode{{9, -5, top}, {2, 0, 0}, {5, 8, -top}})
	checkGet(t, "the first", three, -5, top, 1, mapDone)
	checkGet(t, "the middle", three, 0, 0, 2, mapDone)
	checkGet(t, "the last", three, 8, -top, 3, mapDone)
	for key, opened := range map[int]int{-top: 1, -6: 1, -4: 2, -1: 2, 1: 3, 7: 3, 9: 3, top: 3} {
		checkGet(t, "none", three, key, 0, opened, mapNone)
	}
	for _, key := range []int{-top, -1, 0, 1, top} {
		checkGet(t, "none of none", chain{First: -1}, key, 0, 0, mapNone)
	}
	checkGet(t, "at the ends", keyed(-top, top), -top, 5, 1, mapDone)
	checkGet(t, "at the ends", keyed(-top, top), top, 5, 2, mapDone)
}

func TestMapPairs(t *testing.T) {
	checkPairs(t, "empty", chain{First: -1}, nil, nil)
	checkPairs(t, "one", chainFrom([]laidNode{{7, 0, 0}}), []int{0}, []int{0})
	checkPairs(t, "three", chainFrom([]laidNode{{9, -5, top}, {2, 0, 0}, {5, 8, -top}}), []int{-5, 0, 8}, []int{top, 0, -top})
	for many := range mostNodes + 1 {
		var keys, values []int
		for i := range many {
			keys, values = append(keys, 10*i+10), append(values, 101+i)
		}
		checkPairs(t, "by place", rowOf(many), keys, values)
		checkPairs(t, "mixed", mixedRow(many), keys, values)
	}
}

func TestMapRange(t *testing.T) {
	four := chainFrom([]laidNode{{9, -20, 1}, {2, 0, 2}, {5, 10, 3}, {0, 20, 4}})
	for _, r := range []struct {
		low, high int
		want      []int
	}{
		{-20, 20, []int{-20, 0, 10, 20}},
		{-21, 21, []int{-20, 0, 10, 20}},
		{-19, 19, []int{0, 10}},
		{0, 10, []int{0, 10}},
		{1, 10, []int{10}},
		{0, 9, []int{0}},
		{1, 9, nil},
		{0, 0, []int{0}},
		{10, 10, []int{10}},
		{11, 11, nil},
		{10, 0, nil},
		{20, -20, nil},
		{1, 0, nil},
		{-50, -20, []int{-20}},
		{-50, -21, nil},
		{20, 50, []int{20}},
		{21, 50, nil},
		{-top - 1, top + 1, []int{-20, 0, 10, 20}},
		{math.MinInt, math.MaxInt, []int{-20, 0, 10, 20}},
		{math.MaxInt, math.MinInt, nil},
		{math.MinInt, math.MinInt, nil},
		{math.MaxInt, math.MaxInt, nil},
		{math.MinInt, 0, []int{-20, 0}},
		{0, math.MaxInt, []int{0, 10, 20}},
	} {
		checkRange(t, "four", four, r.low, r.high, r.want, mapDone)
		checkRange(t, "empty", chain{First: -1}, r.low, r.high, nil, mapDone)
	}
	checkRange(t, "at the ends", keyed(-top, 0, top), -top, top, []int{-top, 0, top}, mapDone)
	checkRange(t, "beside the ends", keyed(-top, 0, top), -top+1, top-1, []int{0}, mapDone)
}

// All are opened from First on, wherever low is, up to the first above high, or the end: MaxWalk of them, and one more.
func TestMapRangeOpensMaxWalk(t *testing.T) {
	nine := []int{10, 20, 30, 40, 50, 60, 70, 80, 90}
	ten := append(nine[:9:9], 100)
	for name, c := range map[string]chain{"eleven": mixedRow(11), "twelve": rowOf(12), "all": mixedRow(mostNodes)} {
		checkRange(t, name+", the tenth is above", c, 0, 99, nine, mapDone)
		checkRange(t, name+", the tenth is above", c, 25, 95, nine[2:], mapDone)
		checkRange(t, name+", the tenth is above", c, 95, 99, nil, mapDone)
		checkRange(t, name+", the tenth is above", c, 99, 90, nil, mapDone)
		for _, high := range []int{100, 101, 109, 110, 160, top, math.MaxInt} {
			for _, low := range []int{math.MinInt, 0, 100, high, high + 1, 1000, math.MaxInt} {
				checkRange(t, name+", the eleventh is opened", c, low, high, nil, mapMany)
			}
		}
	}
	for name, c := range map[string]chain{"by place": rowOf(10), "mixed": mixedRow(10)} {
		for _, high := range []int{100, 101, 110, top, math.MaxInt} {
			checkRange(t, name+", the end comes behind the tenth", c, 0, high, ten, mapDone)
			checkRange(t, name+", the end comes behind the tenth", c, 95, high, ten[9:], mapDone)
			checkRange(t, name+", the end comes behind the tenth", c, 101, high, nil, mapDone)
		}
	}
	for _, high := range []int{109, 110, 111, math.MaxInt} {
		checkRange(t, "the end comes behind the eleventh", rowOf(11), 0, high, nil, mapMany)
	}
}

// tinyChains are of nodes at the places 0 to 2, of three keys: each way in which these may be linked, chains and others.
func tinyChains(yield func(chain)) {
	var pieces []node
	pieces = append(pieces, node{})
	for key := range 3 {
		for next := -1; next < 4; next++ {
			pieces = append(pieces, node{Used: true, Key: key, Value: 5, Next: next})
		}
	}
	many := len(pieces)
	for first := -1; first < 4; first++ {
		for way := range many * many * many {
			c := chain{First: first}
			c.Nodes[0], c.Nodes[1], c.Nodes[2] = pieces[way%many], pieces[way/many%many], pieces[way/many/many]
			yield(c)
		}
	}
}

func TestAllTinyChains(t *testing.T) {
	good, bad := 0, 0
	tinyChains(func(c chain) {
		if _, ok := plainList(c); !ok {
			bad++
			checkPlainChain(t, "tiny", c, 1)
			return
		}
		good++
		checkPlainChain(t, "tiny", c, -1, 0, 1, 2, 3)
	})
	// None; one of three keys at one of three places; two of three keys at two places, in two orders; all, in six orders.
	if good != 1+3*3+3*3*2+6 || bad < 20000 {
		t.Error("gone through:", good, "and", bad)
	}
}

// eachChainEdge changes each number of the chain to each edge and to each place, and each Used.
func eachChainEdge(c chain, yield func(string, chain)) {
	numbers := append(edges(), -2, 15, 16, 17)
	fields := map[string]func(*node) *int{
		"Key":   func(n *node) *int { return &n.Key },
		"Value": func(n *node) *int { return &n.Value },
		"Next":  func(n *node) *int { return &n.Next },
	}
	for _, number := range append(numbers, placesTo(mostNodes)...) {
		yield(fmt.Sprint("First ", number), withChain(c, func(c *chain) { c.First = number }))
		for place := range mostNodes {
			for name, field := range fields {
				yield(fmt.Sprint(name, " at ", place, ": ", number), withChain(c, func(c *chain) { *field(&c.Nodes[place]) = number }))
			}
		}
	}
	for place := range mostNodes {
		yield(fmt.Sprint("Used at ", place), withChain(c, func(c *chain) { c.Nodes[place].Used = !c.Nodes[place].Used }))
	}
}

func TestChainsOverEdges(t *testing.T) {
	for name, c := range goodChains() {
		eachChainEdge(c, func(edge string, c chain) { checkPlainChain(t, name+", "+edge, c, 10, 105) })
	}
}

func TestMapsOfGoodChains(t *testing.T) {
	for name, c := range goodChains() {
		checkPlainChain(t, name, c, edges()...)
		checkPlainChain(t, name, c, -2, 0, 1, 2, 3, 4, 5, 10, 11, 19, 20, 55, 99, 100, 101, 109, 110, 111, 150, 155, 160, 161)
	}
}

// Promise 13, in all ways in which three keys can be put and dropped: each chain to which one comes is gone through once.
func TestAllWaysOfThreeKeys(t *testing.T) {
	seen := map[chain]bool{}
	work := []chain{impl.NewChain()}
	for len(work) > 0 {
		c := work[0]
		work = work[1:]
		if seen[c] {
			continue
		}
		seen[c] = true
		checkPlainChain(t, "reached", c, 0, 1, 2, 3, 4)
		for key := 1; key < 4; key++ {
			for value := range 2 {
				then, _, code := impl.MapPut(c, key, value)
				if code != mapDone || then.First == -1 {
					t.Fatal("not put:", c, key, code)
				}
				checkTells(t, then, key, value)
				work = append(work, then)
			}
			then, _, code := impl.MapDrop(c, key)
			if _, _, left := impl.MapGet(then, key); left != mapNone || code == mapNone && then != c {
				t.Fatal("not dropped:", c, key, code)
			}
			work = append(work, then)
		}
	}
	// None; one of three keys at one of three places; two of three keys at two of the places in two orders; all in six
	// orders; and each value is one of two.
	if len(seen) != 1+2*3*3+4*3*3*2+8*6 {
		t.Error("chains gone through:", len(seen))
	}
}

// checkTells asks that what was put is told, by get and among the pairs.
func checkTells(t *testing.T, c chain, key int, value int) {
	t.Helper()
	if got, _, code := impl.MapGet(c, key); got != value || code != mapDone {
		t.Fatalf("%d is %d, not %d: %d: %+v", key, got, value, code, c)
	}
	keys, values := impl.MapPairs(c)
	if at := slices.Index(keys, key); at < 0 || values[at] != value {
		t.Fatalf("%d is none of %v %v", key, keys, values)
	}
}

// Promise 13: over long rows of puts and drops a chain tells what a map of the language does, where the walk is not too
// long, and what is refused leaves it as it was.
func TestMapTellsWhatWasLastPut(t *testing.T) {
	codes := map[int]int{}
	for seed := range 40 {
		c, known := impl.NewChain(), map[int]int{}
		for step := range 200 {
			mixed := seed*7919 + step*step*(seed+3)/5 + step/(1+seed%5)
			key, value := (mixed*31+step)%(8+seed)-6, mixed%1000-500
			was := c
			var code int
			if (mixed/7+step)%3 == 0 {
				c, _, code = impl.MapDrop(c, key)
				if code == mapDone {
					delete(known, key)
				}
			} else {
				c, _, code = impl.MapPut(c, key, value)
				if code == mapDone {
					known[key] = value
				}
			}
			if code != mapDone && c != was {
				t.Fatalf("refused by %d: %+v\nwas %+v", code, c, was)
			}
			codes[code]++
			checkKnown(t, c, known)
		}
	}
	for _, code := range []int{mapDone, mapMany, mapFull, mapNone} {
		if codes[code] < 100 {
			t.Error("only", codes)
		}
	}
}

// checkKnown asks that a chain has each key that is known once, in order, with its value, and tells of all that can be
// reached.
func checkKnown(t *testing.T, c chain, known map[int]int) {
	t.Helper()
	keys := slices.Sorted(maps.Keys(known))
	var values []int
	for i, key := range keys {
		values = append(values, known[key])
		if i < mostWalk {
			checkGet(t, "known", c, key, known[key], i+1, mapDone)
		} else {
			checkGet(t, "known, and too far", c, key, 0, mostWalk, mapMany)
		}
	}
	checkPairs(t, "known", c, keys, values)
	checkChain(t, "known", c, true)
}

// mapAnswers are all lists that are answered of a chain.
func mapAnswers(c chain) [][]int {
	keys, values := impl.MapPairs(c)
	some, _ := impl.MapRange(c, 15, 75)
	few, _ := impl.MapRange(c, 0, 15)
	all, _ := impl.MapRange(c, math.MinInt, math.MaxInt)
	none, _ := impl.MapRange(c, 40, 20)
	return [][]int{keys, values, some, few, all, none}
}

// Promise 19: every answer is new memory, of which no two lists share any, and nothing lies behind it; the argument is
// left as it was.
func TestMapsWriteNothingAndShareNothing(t *testing.T) {
	all := goodChains()
	maps.Copy(all, badChains())
	for name, c := range all {
		was := c
		wants, answers := mapAnswers(c), mapAnswers(c)
		for i, answer := range answers {
			if !slices.Equal(answer, wants[i]) {
				t.Errorf("%s: another answer was written into this one: %v, not %v", name, answer, wants[i])
			}
			for _, number := range spare(answer) {
				if number != 0 {
					t.Errorf("%s: %d is handed out behind an answer", name, number)
				}
			}
			overwrite(answer, -7)
		}
		then, _, _ := impl.MapPut(c, 20, -7)
		then.Nodes[2].Key, then.First = -7, 77
		then, _, _ = impl.MapDrop(c, 20)
		then.Nodes[2].Key, then.First = -7, 77
		if again := mapAnswers(c); c != was || !slices.EqualFunc(again, wants, slices.Equal) {
			t.Errorf("%s: asked again: %v, not %v", name, again, wants)
		}
	}
}

// Promise 19: whatever the arguments are, there is an answer, and it is kept nowhere.
func TestMapsOfOddArguments(t *testing.T) {
	kept := mixedRow(12)
	for _, number := range oddNumbers() {
		for _, other := range oddNumbers() {
			odd := node{Used: number < other, Key: other, Value: number, Next: other}
			for _, c := range []chain{
				{First: number},
				{Nodes: [16]node{0: odd}, First: other},
				{Nodes: [16]node(alike(odd, mostNodes)), First: number},
				{Nodes: [16]node{0: {Used: true, Next: 1}, 1: odd, 2: odd}, First: 0},
				withChain(kept, func(c *chain) { c.Nodes[5] = odd }),
			} {
				checkPlainChain(t, "odd", c, number, other)
			}
		}
		checkPlainChain(t, "behind odd", kept, number)
	}
}
