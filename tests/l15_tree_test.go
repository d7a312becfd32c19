package tests

import (
	"fmt"
	"maps"
	"math"
	"math/bits"
	"slices"
	"testing"

	"loop.example/g00087/impl"
)

type (
	twig = impl.Twig
	tree = impl.Tree
)

// What the functions of trees tell, as the document numbers it; and how many twigs there are, and are opened at most.
const (
	treeDone = 0
	treeBad  = 1
	treeMany = 2
	treeFull = 3
	treeHas  = 4
	treeNone = 5

	mostTwigs  = 16
	mostOpened = 8
)

// grown is a twig of a tree with its parts, and its place; a part that is nothing is nil.
type grown struct {
	place, key  int
	left, right *grown
}

// rowTree has Used twigs alone, by place: of each its Key, its Left and its Right.
func rowTree(root int, rows ...[3]int) tree {
	t := tree{Root: root}
	for place, one := range rows {
		t.Twigs[place] = twig{Used: true, Key: one[0], Left: one[1], Right: one[2]}
	}
	return t
}

func leaf(place int, key int) *grown {
	return &grown{place: place, key: key}
}

func fork(place int, key int, left *grown, right *grown) *grown {
	return &grown{place, key, left, right}
}

// all are the twigs of a part, their keys ascending where it is a tree's.
func (g *grown) all() []*grown {
	if g == nil {
		return nil
	}
	return append(append(g.left.all(), g), g.right.all()...)
}

// treeFrom is the tree of these twigs.
func treeFrom(root *grown) tree {
	t := tree{Root: placeIn(root)}
	for _, g := range root.all() {
		t.Twigs[g.place] = twig{Used: true, Key: g.key, Left: placeIn(g.left), Right: placeIn(g.right)}
	}
	return t
}

func placeIn(g *grown) int {
	if g == nil {
		return -1
	}
	return g.place
}

// withTree is the tree with one change.
func withTree(t tree, change func(*tree)) tree {
	change(&t)
	return t
}

// mixedPlaces are that many places, all over.
func mixedPlaces(many int) []int {
	var places []int
	for i := range many {
		places = append(places, (7*i+5)%mostTwigs)
	}
	return places
}

// downTo is the tree of these keys, each of which hangs below the one ahead of it.
func downTo(places []int, keys []int) tree {
	t := tree{Root: -1}
	link := &t.Root
	for i, key := range keys {
		place := places[i]
		*link = place
		t.Twigs[place] = twig{Used: true, Key: key, Left: -1, Right: -1}
		if i+1 < len(keys) && keys[i+1] < key {
			link = &t.Twigs[place].Left
		} else {
			link = &t.Twigs[place].Right
		}
	}
	return t
}

// tens are 10, 20, 30 ..: that many.
func tens(many int) []int {
	var keys []int
	for i := range many {
		keys = append(keys, 10*i+10)
	}
	return keys
}

// fallingTens, and zigzagTens, are those from above, and from both ends by turns.
func fallingTens(many int) []int {
	keys := tens(many)
	slices.Reverse(keys)
	return keys
}

func zigzagTens(many int) []int {
	var keys []int
	for rest := tens(many); len(rest) > 0; {
		keys, rest = append(keys, rest[0]), rest[1:]
		slices.Reverse(rest)
	}
	return keys
}

func straight(many int) tree     { return downTo(mixedPlaces(many), tens(many)) }
func straightLeft(many int) tree { return downTo(placesTo(many), fallingTens(many)) }
func bent(many int) tree         { return downTo(mixedPlaces(many), zigzagTens(many)) }

// low is a tree of the keys 10, 20, 30 .., as low as can be, at places all over.
func low(many int) tree {
	root := halved(tens(many))
	for i, g := range root.all() {
		g.place = mixedPlaces(mostTwigs)[i]
	}
	return treeFrom(root)
}

// halved has the key in the middle uppermost, and its parts likewise; all places are 0.
func halved(keys []int) *grown {
	if len(keys) == 0 {
		return nil
	}
	middle := (len(keys) - len(keys)%2) / 2
	return fork(0, keys[middle], halved(keys[:middle]), halved(keys[middle+1:]))
}

// broad has its Root at place 9; its left part is lower than its right one.
func broad() *grown {
	return fork(9, 50, fork(2, 20, leaf(5, 10), leaf(0, 30)), fork(15, 80, fork(4, 60, nil, leaf(7, 70)), leaf(1, 90)))
}

func goodTrees() map[string]tree {
	good := map[string]tree{
		"empty":                      {Root: -1},
		"one, at the first place":    treeFrom(leaf(0, 10)),
		"one, at the last place":     treeFrom(leaf(15, 10)),
		"all is 0, and Used":         treeFrom(leaf(3, 0)),
		"a left part alone":          treeFrom(fork(0, 20, leaf(15, 10), nil)),
		"a right part alone":         treeFrom(fork(15, 10, nil, leaf(0, 20))),
		"three":                      treeFrom(fork(9, 20, leaf(2, 10), leaf(5, 30))),
		"broad":                      treeFrom(broad()),
		"keys side by side":          treeFrom(fork(0, 0, fork(1, -2, nil, leaf(2, -1)), fork(3, 2, leaf(4, 1), nil))),
		"keys at both ends":          treeFrom(fork(3, -top, nil, leaf(0, top))),
		"keys at both ends, left":    treeFrom(fork(3, top, leaf(0, -top), nil)),
		"keys beside the ends":       treeFrom(fork(3, 0, fork(1, -top+1, leaf(2, -top), nil), fork(4, top-1, nil, leaf(5, top)))),
		"a key at the lower end":     treeFrom(leaf(0, -top)),
		"a key at the upper end":     treeFrom(leaf(15, top)),
		"keys are places":            treeFrom(fork(1, 1, leaf(0, 0), leaf(2, 2))),
		"keys are others' places":    treeFrom(fork(0, 1, leaf(2, 0), leaf(1, 2))),
		"low, of one less than full": low(15),
		"full, low":                  low(16),
	}
	for _, many := range []int{2, 3, 8, 9, 10, 15, 16} {
		good[fmt.Sprint("straight, of ", many)] = straight(many)
		good[fmt.Sprint("straight to the left, of ", many)] = straightLeft(many)
		good[fmt.Sprint("bent, of ", many)] = bent(many)
	}
	return good
}

// treesOfWrongKeys are not TreeOk by a Key: it equals or passes one further up, or is no value.
func treesOfWrongKeys() map[string]tree {
	bad := map[string]tree{
		"a left part equals the Root":            treeFrom(fork(0, 5, leaf(1, 5), nil)),
		"a right part equals the Root":           treeFrom(fork(0, 5, nil, leaf(1, 5))),
		"a left part passes the Root":            treeFrom(fork(0, 5, leaf(1, 6), nil)),
		"a right part passes the Root":           treeFrom(fork(0, 5, nil, leaf(1, 4))),
		"both parts are the wrong way round":     treeFrom(fork(0, 5, leaf(1, 6), leaf(2, 4))),
		"both parts are equal, and above":        treeFrom(fork(0, 5, leaf(1, 6), leaf(2, 6))),
		"both parts are equal, and below":        treeFrom(fork(0, 5, leaf(1, 4), leaf(2, 4))),
		"all are equal":                          treeFrom(fork(0, 5, leaf(1, 5), leaf(2, 5))),
		"left, then right, equals the Root":      treeFrom(fork(0, 5, fork(1, 3, nil, leaf(2, 5)), nil)),
		"left, then right, passes the Root":      treeFrom(fork(0, 5, fork(1, 3, nil, leaf(2, 6)), nil)),
		"right, then left, equals the Root":      treeFrom(fork(0, 5, nil, fork(1, 7, leaf(2, 5), nil))),
		"right, then left, passes the Root":      treeFrom(fork(0, 5, nil, fork(1, 7, leaf(2, 4), nil))),
		"left, then left, passes its own":        treeFrom(fork(0, 5, fork(1, 3, leaf(2, 4), nil), nil)),
		"left, then left, equals its own":        treeFrom(fork(0, 5, fork(1, 3, leaf(2, 3), nil), nil)),
		"right, then right, passes its own":      treeFrom(fork(0, 5, nil, fork(1, 7, nil, leaf(2, 6)))),
		"right, then right, equals its own":      treeFrom(fork(0, 5, nil, fork(1, 7, nil, leaf(2, 7)))),
		"left, right, right equals the Root":     treeFrom(fork(0, 9, fork(1, 3, nil, fork(2, 5, nil, leaf(3, 9))), leaf(4, 12))),
		"left, right, left passes the second":    treeFrom(fork(0, 9, fork(1, 3, nil, fork(2, 5, leaf(3, 2), nil)), leaf(4, 12))),
		"left, right, left equals the second":    treeFrom(fork(0, 9, fork(1, 3, nil, fork(2, 5, leaf(3, 3), nil)), leaf(4, 12))),
		"right, left, left passes the Root":      treeFrom(fork(0, 9, leaf(1, 3), fork(2, 20, fork(3, 15, leaf(4, 8), nil), nil))),
		"right, left, left equals the Root":      treeFrom(fork(0, 9, leaf(1, 3), fork(2, 20, fork(3, 15, leaf(4, 9), nil), nil))),
		"right, left, right passes the second":   treeFrom(fork(0, 9, leaf(1, 3), fork(2, 20, fork(3, 15, nil, leaf(4, 21)), nil))),
		"right, left, right equals the second":   treeFrom(fork(0, 9, leaf(1, 3), fork(2, 20, fork(3, 15, nil, leaf(4, 20)), nil))),
		"equal far apart":                        treeFrom(fork(0, 9, fork(1, 3, nil, leaf(2, 10)), fork(3, 12, leaf(4, 10), nil))),
		"equal to the Root at the lower end":     treeFrom(fork(0, -top, leaf(1, -top), nil)),
		"equal to the Root at the upper end":     treeFrom(fork(0, top, nil, leaf(1, top))),
		"below the lower end, to the left":       treeFrom(fork(0, -top, leaf(1, -top-1), nil)),
		"above the upper end, to the right":      treeFrom(fork(0, top, nil, leaf(1, top+1))),
		"no value, left, then right":             treeFrom(fork(0, 1, fork(1, -top-1, nil, leaf(2, 0)), nil)),
		"the last one to the right equals":       withTree(straight(16), func(t *tree) { t.Twigs[(7*15+5)%16].Key = 150 }),
		"the last one to the left equals":        withTree(straightLeft(16), func(t *tree) { t.Twigs[15].Key = 20 }),
		"of bent ones the last one passes":       withTree(bent(16), func(t *tree) { t.Twigs[(7*15+5)%16].Key = 125 }),
		"the least of all passes the Root":       withTree(low(16), func(t *tree) { t.Twigs[5].Key = 95 }),
		"the least number":                       treeFrom(leaf(0, math.MinInt)),
		"the greatest number":                    treeFrom(leaf(0, math.MaxInt)),
		"the least number, to the left":          treeFrom(fork(0, 5, leaf(1, math.MinInt), nil)),
		"the greatest number, to the right":      treeFrom(fork(0, 5, nil, leaf(1, math.MaxInt))),
		"the ends of numbers, the wrong way":     treeFrom(fork(0, 5, leaf(1, math.MaxInt), leaf(2, math.MinInt))),
		"a Key below, of one alone":              treeFrom(leaf(0, -top-1)),
		"a Key above, of one alone":              treeFrom(leaf(15, top+1)),
		"of the Root a Key above, with a left":   treeFrom(fork(0, top+1, leaf(1, 0), nil)),
		"of the Root a Key below, with a right":  treeFrom(fork(0, -top-1, nil, leaf(1, 0))),
		"between its parts, but above all":       treeFrom(fork(0, top+2, leaf(1, top+1), leaf(2, top+3))),
		"between its parts, but below all":       treeFrom(fork(0, -top-2, leaf(1, -top-3), leaf(2, -top-1))),
		"of a twig further down a Key too great": treeFrom(fork(0, 5, leaf(1, 4), fork(2, top+1, leaf(3, 6), nil))),
	}
	return bad
}

// treesOfWrongLinks are not TreeOk by how one comes from twig to twig.
func treesOfWrongLinks() map[string]tree {
	three, wide := treeFrom(fork(9, 20, leaf(2, 10), leaf(5, 30))), treeFrom(broad())
	lone := twig{Used: true, Key: 40, Left: -1, Right: -1}
	bad := map[string]tree{
		"the zero value":                      {},
		"empty, Root is a place":              {Root: 7},
		"Root of one is another place":        withTree(treeFrom(leaf(3, 10)), func(t *tree) { t.Root = 0 }),
		"Root of one is none":                 withTree(treeFrom(leaf(0, 10)), func(t *tree) { t.Root = -1 }),
		"Root of all is none":                 withTree(low(16), func(t *tree) { t.Root = -1 }),
		"Root is the left part":               withTree(three, func(t *tree) { t.Root = 2 }),
		"Root is the right part":              withTree(three, func(t *tree) { t.Root = 5 }),
		"both parts are one twig":             withTree(three, func(t *tree) { t.Twigs[9].Left = 5 }),
		"both parts are one twig, alone":      withTree(three, func(t *tree) { t.Twigs[9].Left, t.Twigs[5] = 5, twig{} }),
		"the only one is its own left part":   withTree(treeFrom(leaf(0, 10)), func(t *tree) { t.Twigs[0].Left = 0 }),
		"the only one is its own right part":  withTree(treeFrom(leaf(0, 10)), func(t *tree) { t.Twigs[0].Right = 0 }),
		"the only one is both its own parts":  withTree(treeFrom(leaf(0, 10)), func(t *tree) { t.Twigs[0].Left, t.Twigs[0].Right = 0, 0 }),
		"a left part leads to the Root, left": withTree(three, func(t *tree) { t.Twigs[2].Left = 9 }),
		"a left part leads to the Root":       withTree(three, func(t *tree) { t.Twigs[2].Right = 9 }),
		"a right part leads to the Root":      withTree(three, func(t *tree) { t.Twigs[5].Left = 9 }),
		"a right part leads to itself, left":  withTree(three, func(t *tree) { t.Twigs[5].Left = 5 }),
		"a left part leads to itself, right":  withTree(three, func(t *tree) { t.Twigs[2].Right = 2 }),
		"a left part leads to the right one":  withTree(three, func(t *tree) { t.Twigs[2].Right = 5 }),
		"a right part leads to the left one":  withTree(three, func(t *tree) { t.Twigs[5].Left = 2 }),
		"each part leads to the other one":    withTree(three, func(t *tree) { t.Twigs[2].Right, t.Twigs[5].Left = 5, 2 }),
		"the lowest leads to the Root":        withTree(wide, func(t *tree) { t.Twigs[7].Left = 9 }),
		"the lowest leads to a cousin":        withTree(wide, func(t *tree) { t.Twigs[0].Right = 4 }),
		"the lowest leads to the one above":   withTree(wide, func(t *tree) { t.Twigs[7].Right = 4 }),
		"the last of all leads to the first":  withTree(straight(16), func(t *tree) { t.Twigs[(7*15+5)%16].Right = 5 }),
		"the last of all leads to itself":     withTree(bent(16), func(t *tree) { t.Twigs[(7*15+5)%16].Left = (7*15 + 5) % 16 }),
		"the Root leads to one not Used":      withTree(three, func(t *tree) { t.Twigs[9].Left = 3 }),
		"a left part leads to one not Used":   withTree(three, func(t *tree) { t.Twigs[2].Left = 3 }),
		"a right part leads to one not Used":  withTree(three, func(t *tree) { t.Twigs[5].Right = 0 }),
		"a Used one leads to one that is not": withTree(treeFrom(leaf(3, -4)), func(t *tree) { t.Twigs[3].Right = 0 }),
		"the Root is not Used":                withTree(three, func(t *tree) { t.Twigs[9] = twig{} }),
		"the left part is not Used":           withTree(three, func(t *tree) { t.Twigs[2] = twig{} }),
		"the right part is not Used":          withTree(three, func(t *tree) { t.Twigs[5] = twig{} }),
		"the left part is only not Used":      withTree(three, func(t *tree) { t.Twigs[2].Used = false }),
		"the Root is only not Used":           withTree(three, func(t *tree) { t.Twigs[9].Used = false }),
		"the left part is left out":           withTree(three, func(t *tree) { t.Twigs[9].Left = -1 }),
		"the right part is left out":          withTree(three, func(t *tree) { t.Twigs[9].Right = -1 }),
		"both parts are left out":             withTree(three, func(t *tree) { t.Twigs[9].Left, t.Twigs[9].Right = -1, -1 }),
		"the lowest is left out":              withTree(wide, func(t *tree) { t.Twigs[4].Right = -1 }),
		"the last of all is left out":         withTree(straight(16), func(t *tree) { t.Twigs[(7*14+5)%16].Right = -1 }),
		"one more is Used":                    withTree(three, func(t *tree) { t.Twigs[0] = lone }),
		"the last one more is Used":           withTree(three, func(t *tree) { t.Twigs[15] = lone }),
		"one more leads into the tree":        withTree(three, func(t *tree) { t.Twigs[0] = twig{Used: true, Key: 40, Left: 9, Right: -1} }),
		"one more leads to itself":            withTree(three, func(t *tree) { t.Twigs[0] = twig{Used: true, Key: 40, Left: -1, Right: 0} }),
		"of nothing else, one is Used":        withTree(tree{Root: -1}, func(t *tree) { t.Twigs[6] = lone }),
		"one is left out, one comes twice":    withTree(three, func(t *tree) { t.Twigs[9].Right = 2 }),
		"parts at the wrong sides":            withTree(three, func(t *tree) { t.Twigs[9].Left, t.Twigs[9].Right = 5, 2 }),
		"the Root is not Used, and has a Key": {Twigs: [16]twig{3: {Key: 4, Left: -1, Right: -1}}, Root: 3},
	}
	for _, number := range []int{math.MinInt, -top, -17, -2, 16, 17, 32, top, math.MaxInt} {
		bad[fmt.Sprint("empty, Root is ", number)] = tree{Root: number}
		bad[fmt.Sprint("Root of three is ", number)] = withTree(three, func(t *tree) { t.Root = number })
		for _, place := range []int{9, 2, 5} {
			bad[fmt.Sprint("Left at ", place, " is ", number)] = withTree(three, func(t *tree) { t.Twigs[place].Left = number })
			bad[fmt.Sprint("Right at ", place, " is ", number)] = withTree(three, func(t *tree) { t.Twigs[place].Right = number })
		}
	}
	return bad
}

// treesOfRests are not TreeOk as a twig that is not Used has something.
func treesOfRests() map[string]tree {
	three := treeFrom(fork(9, 20, leaf(2, 10), leaf(5, 30)))
	bad := map[string]tree{
		"empty, none has a part":       {Twigs: [16]twig(alike(twig{Left: -1, Right: -1}, 16)), Root: -1},
		"empty, one has what a leaf":   {Twigs: [16]twig{0: {Key: 4, Left: -1, Right: -1}}, Root: -1},
		"one that was taken, as it is": withTree(three, func(t *tree) { t.Twigs[9].Left, t.Twigs[2].Used = -1, false }),
	}
	for _, place := range []int{0, 8, 15} {
		for _, number := range []int{math.MinInt, -top - 1, -1, 1, 9, 15, 16, 35, top, math.MaxInt} {
			for name, good := range map[string]tree{"three": three, "empty": {Root: -1}} {
				named := fmt.Sprint(name, ", not Used at ", place, ": ", number)
				bad[named+" is its Key"] = withTree(good, func(t *tree) { t.Twigs[place].Key = number })
				bad[named+" is its Left"] = withTree(good, func(t *tree) { t.Twigs[place].Left = number })
				bad[named+" is its Right"] = withTree(good, func(t *tree) { t.Twigs[place].Right = number })
			}
		}
	}
	return bad
}

// badTrees are not TreeOk.
func badTrees() map[string]tree {
	bad := treesOfWrongKeys()
	maps.Copy(bad, treesOfWrongLinks())
	maps.Copy(bad, treesOfRests())
	return bad
}

// plainTree is what hangs at the Root; it is false where t is not a tree. It says what the document does, and so do those
// below.
func plainTree(t tree) (*grown, bool) {
	var passed [mostTwigs]bool
	root, ok := plainPart(t, t.Root, &passed)
	if !ok {
		return nil, false
	}
	for place, one := range t.Twigs {
		if one.Used != passed[place] || !one.Used && one != (twig{}) {
			return nil, false
		}
	}
	list := root.all()
	for i, g := range list {
		if !plainValue(g.key) || i > 0 && list[i-1].key >= g.key {
			return nil, false
		}
	}
	return root, true
}

// plainPart is false where one comes to what is no place, or to a place that was passed.
func plainPart(t tree, place int, passed *[mostTwigs]bool) (*grown, bool) {
	if place == -1 {
		return nil, true
	}
	if place < 0 || place >= mostTwigs || passed[place] {
		return nil, false
	}
	passed[place] = true
	one := t.Twigs[place]
	left, isLeft := plainPart(t, one.Left, passed)
	if !isLeft {
		return nil, false
	}
	right, isRight := plainPart(t, one.Right, passed)
	return fork(place, one.Key, left, right), isRight
}

// plainSteps are all twigs on the way to a key, the last one the key's own where it is there.
func plainSteps(root *grown, key int) []*grown {
	switch {
	case root == nil:
		return nil
	case key < root.key:
		return append([]*grown{root}, plainSteps(root.left, key)...)
	case key > root.key:
		return append([]*grown{root}, plainSteps(root.right, key)...)
	}
	return []*grown{root}
}

func plainFind(t tree, key int) (int, int) {
	root, ok := plainTree(t)
	if !ok || !plainValue(key) {
		return 0, treeBad
	}
	steps := plainSteps(root, key)
	switch {
	case len(steps) > mostOpened:
		return mostOpened, treeMany
	case len(steps) > 0 && steps[len(steps)-1].key == key:
		return len(steps), treeHas
	}
	return len(steps), treeNone
}

func plainAdd(t tree, key int) (tree, int) {
	_, code := plainFind(t, key)
	if code != treeNone {
		return t, code
	}
	place := slices.Index(t.Twigs[:], twig{})
	if place < 0 {
		return t, treeFull
	}
	root, _ := plainTree(t)
	return treeFrom(root.with(leaf(place, key))), treeDone
}

func (g *grown) with(one *grown) *grown {
	switch {
	case g == nil:
		return one
	case one.key < g.key:
		return fork(g.place, g.key, g.left.with(one), g.right)
	}
	return fork(g.place, g.key, g.left, g.right.with(one))
}

func plainTreeDrop(t tree, key int) (tree, int) {
	opened, code := plainFind(t, key)
	if code != treeHas {
		return t, code
	}
	root, _ := plainTree(t)
	steps := plainSteps(root, key)
	if own := steps[opened-1]; own.left != nil && own.right != nil {
		// To the least of a part one comes by a key that is below all of it.
		opened += len(plainSteps(own.right, key))
	}
	if opened > mostOpened {
		return t, treeMany
	}
	return treeFrom(root.without(key)), treeDone
}

func (g *grown) without(key int) *grown {
	switch {
	case key < g.key:
		return fork(g.place, g.key, g.left.without(key), g.right)
	case key > g.key:
		return fork(g.place, g.key, g.left, g.right.without(key))
	case g.left == nil:
		return g.right
	case g.right == nil:
		return g.left
	}
	least := g.right.all()[0].key
	return fork(g.place, least, g.left, g.right.without(least))
}

func plainTreeKeys(t tree) []int {
	var keys []int
	root, _ := plainTree(t)
	for _, g := range root.all() {
		keys = append(keys, g.key)
	}
	return keys
}

func plainHigh(t tree) int {
	root, ok := plainTree(t)
	if !ok {
		return -1
	}
	most := 0
	for _, g := range root.all() {
		most = max(most, len(plainSteps(root, g.key)))
	}
	return most
}

func plainBuild(keys []int) (tree, bool) {
	for i, key := range keys {
		if i == mostTwigs || !plainValue(key) || i > 0 && keys[i-1] >= key {
			return tree{Root: -1}, false
		}
	}
	root := halved(keys)
	root.number(0)
	return treeFrom(root), true
}

// number gives places from that one on: to the twig, then to its left part, then to its right part. It tells the next one.
func (g *grown) number(place int) int {
	if g == nil {
		return place
	}
	g.place = place
	return g.right.number(g.left.number(place + 1))
}

func TestLimitsOfTrees(t *testing.T) {
	if impl.TreeSize != mostTwigs || impl.TreeWalk != mostOpened {
		t.Error(impl.TreeSize, impl.TreeWalk)
	}
	codes := []int{impl.TreeDone, impl.TreeBad, impl.TreeMany, impl.TreeFull, impl.TreeHas, impl.TreeNone}
	if !slices.Equal(codes, []int{treeDone, treeBad, treeMany, treeFull, treeHas, treeNone}) {
		t.Error("codes", codes)
	}
}

func checkTree(t *testing.T, name string, x tree, want bool) {
	t.Helper()
	if _, plain := plainTree(x); impl.TreeOk(x) != want || plain != want {
		t.Fatalf("%s: not %v: %+v", name, want, x)
	}
}

// checkFind, and those below, hold an answer against what is wanted, and that against the plain telling.
func checkFind(t *testing.T, name string, x tree, key int, want int, wantCode int) {
	t.Helper()
	opened, code := impl.TreeFind(x, key)
	if opened != want || code != wantCode {
		t.Fatalf("%s: %+v\nfound %d: %d %d, not %d %d", name, x, key, opened, code, want, wantCode)
	}
	if many, told := plainFind(x, key); many != want || told != wantCode {
		t.Fatalf("%s: %+v\nfound %d: plainly %d %d, not %d %d", name, x, key, many, told, want, wantCode)
	}
}

func checkTreeAdd(t *testing.T, name string, x tree, key int, want tree, wantCode int) {
	t.Helper()
	then, code := impl.TreeAdd(x, key)
	if then != want || code != wantCode {
		t.Fatalf("%s: %+v\nadded %d: %+v %d\nnot %+v %d", name, x, key, then, code, want, wantCode)
	}
	if plain, told := plainAdd(x, key); plain != want || told != wantCode {
		t.Fatalf("%s: %+v\nadded %d: plainly %+v %d\nnot %+v %d", name, x, key, plain, told, want, wantCode)
	}
}

func checkTreeDrop(t *testing.T, name string, x tree, key int, want tree, wantCode int) {
	t.Helper()
	then, code := impl.TreeDrop(x, key)
	if then != want || code != wantCode {
		t.Fatalf("%s: %+v\ndropped %d: %+v %d\nnot %+v %d", name, x, key, then, code, want, wantCode)
	}
	if plain, told := plainTreeDrop(x, key); plain != want || told != wantCode {
		t.Fatalf("%s: %+v\ndropped %d: plainly %+v %d\nnot %+v %d", name, x, key, plain, told, want, wantCode)
	}
}

func checkTreeKeys(t *testing.T, name string, x tree, want ...int) {
	t.Helper()
	if keys := impl.TreeKeys(x); !slices.Equal(keys, want) {
		t.Fatalf("%s: %+v\nkeys %v, not %v", name, x, keys, want)
	}
	if plain := plainTreeKeys(x); !slices.Equal(plain, want) {
		t.Fatalf("%s: %+v\nkeys: plainly %v, not %v", name, x, plain, want)
	}
}

func checkHigh(t *testing.T, name string, x tree, want int) {
	t.Helper()
	if high, plain := impl.TreeHigh(x), plainHigh(x); high != want || plain != want {
		t.Fatalf("%s: %+v\nhigh %d, plainly %d, not %d", name, x, high, plain, want)
	}
}

func checkBuild(t *testing.T, name string, keys []int, want tree, wantOk bool) {
	t.Helper()
	g := guard(keys, -7)
	x, ok := impl.TreeBuild(g.list())
	if x != want || ok != wantOk {
		t.Fatalf("%s: built of %v: %+v %v\nnot %+v %v", name, keys, x, ok, want, wantOk)
	}
	if plain, is := plainBuild(keys); plain != want || is != wantOk {
		t.Fatalf("%s: built of %v: plainly %+v %v\nnot %+v %v", name, keys, plain, is, want, wantOk)
	}
	g.check(t, name)
}

// checkPlainTree asks of a tree all that it can be asked by these keys, and asks that what is left is a tree, if x is.
func checkPlainTree(t *testing.T, name string, x tree, keys ...int) {
	t.Helper()
	_, ok := plainTree(x)
	checkTree(t, name, x, ok)
	checkTreeKeys(t, name, x, plainTreeKeys(x)...)
	checkHigh(t, name, x, plainHigh(x))
	for _, key := range keys {
		opened, code := plainFind(x, key)
		checkFind(t, name, x, key, opened, code)
		want, code := plainAdd(x, key)
		checkTreeAdd(t, name, x, key, want, code)
		checkTree(t, name, want, ok)
		want, code = plainTreeDrop(x, key)
		checkTreeDrop(t, name, x, key, want, code)
		checkTree(t, name, want, ok)
	}
}

func TestTreeOk(t *testing.T) {
	for name, x := range goodTrees() {
		checkTree(t, name, x, true)
	}
	for name, x := range badTrees() {
		checkTree(t, name, x, false)
	}
}

func TestNewTree(t *testing.T) {
	x := impl.NewTree()
	if x != (tree{Root: -1}) || !impl.TreeOk(x) {
		t.Errorf("%+v", x)
	}
	x.Twigs[3], x.Root = twig{Used: true}, 3
	if again := impl.NewTree(); again != (tree{Root: -1}) {
		t.Errorf("a new tree is kept: %+v", again)
	}
}

// What is not TreeOk is refused ahead of all, and left as it was, field by field.
func TestTreesRefuseWhatIsNoTree(t *testing.T) {
	for name, x := range badTrees() {
		for _, key := range []int{-4, 0, 5, 10, 20, 25, 30, 40, -top, top, top + 1, math.MinInt} {
			checkFind(t, name, x, key, 0, treeBad)
			checkTreeAdd(t, name, x, key, x, treeBad)
			checkTreeDrop(t, name, x, key, x, treeBad)
		}
		checkTreeKeys(t, name, x)
		checkHigh(t, name, x, -1)
	}
}

// Nor is any tree changed by what is no value, however long the walk would be, and whether or not there is room.
func TestTreesRefuseWhatIsNoValue(t *testing.T) {
	for name, x := range goodTrees() {
		for _, key := range []int{math.MinInt, -top - 1, top + 1, math.MaxInt} {
			checkFind(t, name, x, key, 0, treeBad)
			checkTreeAdd(t, name, x, key, x, treeBad)
			checkTreeDrop(t, name, x, key, x, treeBad)
		}
	}
}

func TestTreeFind(t *testing.T) {
	x := treeFrom(broad())
	for key, opened := range map[int]int{50: 1, 20: 2, 80: 2, 10: 3, 30: 3, 60: 3, 90: 3, 70: 4} {
		checkFind(t, "there", x, key, opened, treeHas)
	}
	for key, opened := range map[int]int{
		-top: 3, 9: 3, 11: 3, 19: 3, 21: 3, 29: 3, 31: 3, 49: 3, 51: 3, 59: 3, 61: 4, 69: 4, 71: 4, 79: 4, 81: 3, 91: 3, top: 3,
	} {
		checkFind(t, "not there", x, key, opened, treeNone)
	}
	for _, key := range []int{-top, -1, 0, 1, top} {
		checkFind(t, "empty", tree{Root: -1}, key, 0, treeNone)
	}
	checkFind(t, "the only one", treeFrom(leaf(0, 0)), 0, 1, treeHas)
	checkFind(t, "below the only one", treeFrom(leaf(0, 0)), -1, 1, treeNone)
	checkFind(t, "above the only one", treeFrom(leaf(0, 0)), 1, 1, treeNone)
	checkFind(t, "the side where there is none", treeFrom(fork(4, 10, nil, leaf(0, 20))), 5, 1, treeNone)
	ends := treeFrom(fork(3, -top, nil, leaf(0, top)))
	checkFind(t, "at the ends", ends, -top, 1, treeHas)
	checkFind(t, "at the ends", ends, top, 2, treeHas)
	checkFind(t, "at the ends", ends, top-1, 2, treeNone)
}

// How many twigs are opened on a way straight down, to either side and by turns: by the key of each, and by the one that
// would hang below it. All operations walk alike.
func TestWalksDown(t *testing.T) {
	for many := range mostTwigs + 1 {
		for name, way := range map[string][]int{"straight": tens(many), "to the left": fallingTens(many), "bent": zigzagTens(many)} {
			x := downTo(mixedPlaces(many), way)
			for at, key := range way {
				wantCode, opened := treeHas, at+1
				if at >= mostOpened {
					wantCode, opened = treeMany, mostOpened
				}
				checkFind(t, name, x, key, opened, wantCode)
				checkTreeAdd(t, name, x, key, x, wantCode)
				if wantCode == treeMany {
					checkTreeDrop(t, name, x, key, x, treeMany)
				} else {
					checkTreeDrop(t, name, x, key, downTo(withoutAt(mixedPlaces(many), at), withoutAt(way, at)), treeDone)
				}
			}
			checkEndOfWalk(t, name, x, way)
		}
	}
}

func withoutAt(list []int, at int) []int {
	return slices.Delete(slices.Clone(list), at, at+1)
}

// checkEndOfWalk asks for keys on both sides of the lowest twig, to which one comes by way of all others.
func checkEndOfWalk(t *testing.T, name string, x tree, way []int) {
	t.Helper()
	last := 15
	if len(way) > 0 {
		last = way[len(way)-1]
	}
	for _, key := range []int{last - 1, last + 1} {
		if len(way) > mostOpened {
			checkFind(t, name, x, key, mostOpened, treeMany)
			checkTreeAdd(t, name, x, key, x, treeMany)
			checkTreeDrop(t, name, x, key, x, treeMany)
			continue
		}
		checkFind(t, name, x, key, len(way), treeNone)
		checkTreeAdd(t, name, x, key, downTo(addedPlaces(x, len(way)), append(slices.Clone(way), key)), treeDone)
		checkTreeDrop(t, name, x, key, x, treeNone)
	}
}

// addedPlaces are those of mixedPlaces, and the first one that is not Used.
func addedPlaces(x tree, many int) []int {
	return append(mixedPlaces(many), slices.Index(x.Twigs[:], twig{}))
}

// The ninth twig would be the key's own, or one below which the key would hang; and the walk may end behind the eighth.
func TestWalksOfOneMoreThanTreeWalk(t *testing.T) {
	eight, nine := straight(8), straight(9)
	checkFind(t, "the eighth is the key's", nine, 80, 8, treeHas)
	checkFind(t, "the eighth is the last one passed", eight, 85, 8, treeNone)
	checkFind(t, "the eighth has no left part", nine, 75, 8, treeNone)
	checkFind(t, "the ninth is the key's", nine, 90, 8, treeMany)
	checkFind(t, "the ninth is below the key", nine, 95, 8, treeMany)
	checkFind(t, "the ninth is above the key", nine, 85, 8, treeMany)
	// A key that came behind the eighth twig is there, and out of reach.
	then, code := impl.TreeAdd(eight, 85)
	want := withTree(eight, func(x *tree) {
		x.Twigs[(7*7+5)%16].Right, x.Twigs[0] = 0, twig{Used: true, Key: 85, Left: -1, Right: -1}
	})
	if then != want || code != treeDone {
		t.Fatalf("%+v %d, not %+v", then, code, want)
	}
	checkFind(t, "added behind the eighth", then, 85, 8, treeMany)
	checkTreeAdd(t, "added behind the eighth", then, 85, then, treeMany)
	checkTreeDrop(t, "added behind the eighth", then, 85, then, treeMany)
	checkTreeKeys(t, "added behind the eighth", then, 10, 20, 30, 40, 50, 60, 70, 80, 85)
	checkTreeDrop(t, "one above it", then, 10, withTree(then, func(x *tree) {
		x.Root, x.Twigs[5] = x.Twigs[5].Right, twig{}
	}), treeDone)
}

func TestTreeAdd(t *testing.T) {
	three := fork(9, 20, leaf(2, 10), leaf(5, 30))
	for _, a := range []struct {
		name string
		x    *grown
		key  int
		want *grown
	}{
		{"the first of all", nil, 4, leaf(0, 4)},
		{"the first of all, and it is 0", nil, 0, leaf(0, 0)},
		{"below the Root", leaf(0, 10), 9, fork(0, 10, leaf(1, 9), nil)},
		{"above the Root", leaf(0, 10), 11, fork(0, 10, nil, leaf(1, 11))},
		{"below all", three, 5, fork(9, 20, fork(2, 10, leaf(0, 5), nil), leaf(5, 30))},
		{"above the left part", three, 15, fork(9, 20, fork(2, 10, nil, leaf(0, 15)), leaf(5, 30))},
		{"below the right part", three, 25, fork(9, 20, leaf(2, 10), fork(5, 30, leaf(0, 25), nil))},
		{"above all", three, 35, fork(9, 20, leaf(2, 10), fork(5, 30, nil, leaf(0, 35)))},
		{"the least value", three, -top, fork(9, 20, fork(2, 10, leaf(0, -top), nil), leaf(5, 30))},
		{"the greatest value", three, top, fork(9, 20, leaf(2, 10), fork(5, 30, nil, leaf(0, top)))},
		{"the left part, where there is a right one", fork(0, 10, nil, leaf(1, 20)), 5, fork(0, 10, leaf(2, 5), leaf(1, 20))},
		{"the right part, where there is a left one", fork(1, 10, leaf(0, 5), nil), 20, fork(1, 10, leaf(0, 5), leaf(2, 20))},
		{"the place is below that of the twig", leaf(15, 10), 5, fork(15, 10, leaf(0, 5), nil)},
		{"the place is between those of twigs", fork(0, 10, nil, leaf(2, 20)), 30, fork(0, 10, nil, fork(2, 20, nil, leaf(1, 30)))},
		{"the place is above those of twigs", fork(1, 10, nil, leaf(0, 20)), 15, fork(1, 10, nil, fork(0, 20, leaf(2, 15), nil))},
		{"the first of several places", fork(0, 10, fork(4, 5, leaf(1, 0), nil), nil), 7, fork(0, 10, fork(4, 5, leaf(1, 0), leaf(2, 7)), nil)},
	} {
		checkTreeAdd(t, a.name, treeFrom(a.x), a.key, treeFrom(a.want), treeDone)
		checkTree(t, a.name, treeFrom(a.want), true)
	}
	checkTreeAdd(t, "field by field", tree{Root: -1}, 4, rowTree(0, [3]int{4, -1, -1}), treeDone)
	for _, g := range broad().all() {
		checkTreeAdd(t, "it is there", treeFrom(broad()), g.key, treeFrom(broad()), treeHas)
	}
}

// Where one place is left, it is taken, wherever it is and wherever the key hangs.
func TestTreeAddAtTheLastPlace(t *testing.T) {
	for left := range mostTwigs {
		for many := range mostTwigs {
			root := halved(tens(15))
			for i, g := range root.all() {
				g.place = (left + 1 + (i+many)%15) % mostTwigs
			}
			key := 10*many + 5
			checkTreeAdd(t, "the last place", treeFrom(root), key, treeFrom(root.with(leaf(left, key))), treeDone)
		}
	}
}

func TestTreeAddWhereAllAreUsed(t *testing.T) {
	built, _ := plainBuild(tens(16))
	for name, x := range map[string]tree{"mixed": low(16), "by place": built} {
		for at := range mostTwigs + 1 {
			checkTreeAdd(t, name+", not there", x, 10*at+5, x, treeFull)
			if at > 0 {
				checkTreeAdd(t, name+", there", x, 10*at, x, treeHas)
			}
		}
		then, code := impl.TreeDrop(x, 50)
		if code != treeDone {
			t.Fatal("not dropped:", code)
		}
		if then, code = impl.TreeAdd(then, 55); code != treeDone {
			t.Fatal("no room for another one:", code)
		}
		checkTreeAdd(t, name+", full again", then, 50, then, treeFull)
	}
	for _, key := range []int{5, 165} {
		checkTreeAdd(t, "bent, and the walk ends soon", bent(16), key, bent(16), treeFull)
	}
	for _, key := range []int{75, 80, 85, 90, 95} {
		checkTreeAdd(t, "bent, and the walk is too long", bent(16), key, bent(16), treeMany)
	}
	checkTreeAdd(t, "the walk ends ahead of that", straight(16), 5, straight(16), treeFull)
	checkTreeAdd(t, "the walk ends behind the eighth", straight(16), 75, straight(16), treeFull)
	checkTreeAdd(t, "the walk is too long", straight(16), 85, straight(16), treeMany)
	checkTreeAdd(t, "the walk is too long", straight(16), 165, straight(16), treeMany)
}

func TestTreeDrop(t *testing.T) {
	for _, d := range []struct {
		name string
		x    *grown
		key  int
		want *grown
	}{
		{"the only one", leaf(4, 10), 10, nil},
		{"the only one, at place 0", leaf(0, 0), 0, nil},
		{"without parts, at the left", fork(9, 20, leaf(2, 10), leaf(5, 30)), 10, fork(9, 20, nil, leaf(5, 30))},
		{"without parts, at the right", fork(9, 20, leaf(2, 10), leaf(5, 30)), 30, fork(9, 20, leaf(2, 10), nil)},
		{"a left part only, the Root", fork(3, 20, leaf(0, 10), nil), 20, leaf(0, 10)},
		{"a left part only, at the left", fork(3, 20, fork(1, 10, leaf(2, 5), nil), leaf(0, 30)), 10, fork(3, 20, leaf(2, 5), leaf(0, 30))},
		{"a left part only, at the right", fork(3, 20, leaf(1, 10), fork(0, 30, leaf(2, 25), nil)), 30, fork(3, 20, leaf(1, 10), leaf(2, 25))},
		{"a right part only, the Root", fork(3, 20, nil, leaf(0, 30)), 20, leaf(0, 30)},
		{"a right part only, at the left", fork(3, 20, fork(1, 10, nil, leaf(2, 15)), leaf(0, 30)), 10, fork(3, 20, leaf(2, 15), leaf(0, 30))},
		{"a right part only, at the right", fork(3, 20, leaf(1, 10), fork(0, 30, nil, leaf(2, 35))), 30, fork(3, 20, leaf(1, 10), leaf(2, 35))},
		{
			"a part that has parts, to the left", fork(3, 50, fork(1, 20, leaf(2, 10), fork(0, 30, nil, leaf(4, 40))), nil),
			50, fork(1, 20, leaf(2, 10), fork(0, 30, nil, leaf(4, 40))),
		},
		{
			"a part that has parts, to the right", fork(3, 5, nil, fork(1, 20, leaf(2, 10), fork(0, 30, nil, leaf(4, 40)))),
			5, fork(1, 20, leaf(2, 10), fork(0, 30, nil, leaf(4, 40))),
		},
	} {
		checkTreeDrop(t, d.name, treeFrom(d.x), d.key, treeFrom(d.want), treeDone)
		checkTree(t, d.name, treeFrom(d.want), true)
	}
	for _, key := range []int{-top, -1, 0, 10, top} {
		checkTreeDrop(t, "none of none", tree{Root: -1}, key, tree{Root: -1}, treeNone)
	}
	for _, key := range []int{-top, 9, 11, 25, 49, 51, 65, 85, 95, top} {
		checkTreeDrop(t, "not there", treeFrom(broad()), key, treeFrom(broad()), treeNone)
	}
}

// leastOnes are right parts of which the least Key is 60, and what is left of each where that one is taken out.
func leastOnes() map[string][2]*grown {
	two := fork(8, 80, leaf(11, 70), leaf(12, 90))
	below := fork(11, 70, leaf(12, 65), leaf(13, 75))
	return map[string][2]*grown{
		"the right one itself, without parts":     {leaf(6, 60), nil},
		"the right one itself, with a right one":  {fork(6, 60, nil, leaf(8, 70)), leaf(8, 70)},
		"the right one itself, with a right part": {fork(6, 60, nil, two), two},
		"its left one, without parts":             {fork(6, 70, leaf(8, 60), nil), leaf(6, 70)},
		"its left one, beside a right":            {fork(6, 70, leaf(8, 60), leaf(11, 80)), fork(6, 70, nil, leaf(11, 80))},
		"its left one, with a right one":          {fork(6, 70, fork(8, 60, nil, leaf(11, 65)), nil), fork(6, 70, leaf(11, 65), nil)},
		"its left one, with a right part":         {fork(6, 90, fork(8, 60, nil, below), nil), fork(6, 90, below, nil)},
		"further down, without parts":             {fork(6, 90, fork(8, 80, leaf(12, 60), nil), nil), fork(6, 90, leaf(8, 80), nil)},
		"further down, with a right one": {
			fork(6, 90, fork(8, 80, fork(11, 60, nil, leaf(12, 70)), nil), nil), fork(6, 90, fork(8, 80, leaf(12, 70), nil), nil),
		},
	}
}

// A twig with both parts keeps its place and gets the least Key of its right part; the twig of that one is not Used any
// more. That twig may be the Root, or hang at either side.
func TestTreeDropOfATwigWithBothParts(t *testing.T) {
	for name, right := range leastOnes() {
		for named, left := range map[string]*grown{
			"a leaf":       leaf(3, 40),
			"a left part":  fork(3, 40, leaf(14, 30), nil),
			"a right part": fork(3, 30, nil, leaf(14, 40)),
		} {
			x, want := fork(10, 50, left, right[0]), fork(10, 60, left, right[1])
			name := name + ", left " + named
			checkTreeDrop(t, name+", of the Root", treeFrom(x), 50, treeFrom(want), treeDone)
			above, below := leaf(15, 300), leaf(15, 1)
			checkTreeDrop(t, name+", at the left", treeFrom(fork(0, 200, x, above)), 50, treeFrom(fork(0, 200, want, above)), treeDone)
			checkTreeDrop(t, name+", at the right", treeFrom(fork(0, 5, below, x)), 50, treeFrom(fork(0, 5, below, want)), treeDone)
			checkTree(t, name, treeFrom(want), true)
		}
	}
	gaps := tree{Twigs: [16]twig{
		0: {Used: true, Key: 5, Left: 2, Right: 3},
		2: {Used: true, Key: 3, Left: -1, Right: -1},
		3: {Used: true, Key: 9, Left: 4, Right: -1},
		4: {Used: true, Key: 7, Left: -1, Right: 6},
		6: {Used: true, Key: 8, Left: -1, Right: -1},
	}}
	want := gaps
	want.Twigs[0].Key, want.Twigs[3].Left, want.Twigs[4] = 7, 6, twig{}
	checkTreeDrop(t, "field by field", gaps, 5, want, treeDone)
}

// leftward are that many twigs, each the left part of the one above it; the last of them is lowest.
func leftward(many int, lowest *grown) *grown {
	x := lowest
	for i := 1; i < many; i++ {
		x = fork(i, 600+10*i, x, nil)
	}
	return x
}

// hungBelow is the part hung below that many twigs, at one side and the other by turns.
func hungBelow(many int, x *grown) *grown {
	for i := range many {
		if i%2 == 0 {
			x = fork(13-i, 1000+i, x, nil)
		} else {
			x = fork(13-i, 100-i, nil, x)
		}
	}
	return x
}

// The walk on counts: the twigs above the key's, that one, and those down to the least one of its right part. What that
// one has at the right is not opened.
func TestTreeDropOpensTreeWalk(t *testing.T) {
	done, many := 0, 0
	for above := range mostOpened {
		for further := 1; further+above < 11; further++ {
			for _, last := range []*grown{nil, leaf(13-above, 605)} {
				x := treeFrom(hungBelow(above, fork(15, 500, leaf(14, 400), leftward(further, fork(0, 600, nil, last)))))
				lowest := last
				if further > 1 {
					lowest = leftward(further, last)
				}
				want := treeFrom(hungBelow(above, fork(15, 600, leaf(14, 400), lowest)))
				checkTree(t, "further down", x, true)
				if above+1+further <= mostOpened {
					done++
					checkTreeDrop(t, "as far as one may", x, 500, want, treeDone)
				} else {
					many++
					checkTreeDrop(t, "too far", x, 500, x, treeMany)
				}
				checkFind(t, "but the key is there", x, 500, above+1, treeHas)
			}
		}
	}
	if done != 2*(7+6+5+4+3+2+1) || many != 2*(3*7+3) {
		t.Error("gone through:", done, many)
	}
	// With one part, or none, nothing more is opened.
	part := fork(3, 600, leaf(2, 590), leaf(1, 610))
	checkTreeDrop(t, "the eighth, without parts", treeFrom(hungBelow(7, leaf(15, 500))), 500, treeFrom(hungBelow(7, nil)), treeDone)
	checkTreeDrop(t, "the eighth, with a right part", treeFrom(hungBelow(7, fork(15, 500, nil, part))), 500, treeFrom(hungBelow(7, part)), treeDone)
	checkTreeDrop(t, "the eighth, with a left part", treeFrom(hungBelow(7, fork(15, 700, part, nil))), 700, treeFrom(hungBelow(7, part)), treeDone)
	checkTreeDrop(t, "the ninth", treeFrom(hungBelow(8, leaf(15, 500))), 500, treeFrom(hungBelow(8, leaf(15, 500))), treeMany)
}

func TestTreeKeys(t *testing.T) {
	checkTreeKeys(t, "empty", tree{Root: -1})
	checkTreeKeys(t, "one", treeFrom(leaf(7, 0)), 0)
	checkTreeKeys(t, "two, to the left", treeFrom(fork(0, 2, leaf(1, 1), nil)), 1, 2)
	checkTreeKeys(t, "two, to the right", treeFrom(fork(1, 1, nil, leaf(0, 2))), 1, 2)
	checkTreeKeys(t, "broad", treeFrom(broad()), 10, 20, 30, 50, 60, 70, 80, 90)
	checkTreeKeys(t, "at the ends", treeFrom(fork(3, 0, leaf(0, -top), leaf(4, top))), -top, 0, top)
	for many := range mostTwigs + 1 {
		for name, x := range map[string]tree{"straight": straight(many), "to the left": straightLeft(many), "bent": bent(many), "low": low(many)} {
			checkTreeKeys(t, name, x, tens(many)...)
		}
	}
}

func TestTreeHigh(t *testing.T) {
	checkHigh(t, "empty", tree{Root: -1}, 0)
	checkHigh(t, "one", treeFrom(leaf(7, 0)), 1)
	checkHigh(t, "a left part alone", treeFrom(fork(0, 2, leaf(1, 1), nil)), 2)
	checkHigh(t, "a right part alone", treeFrom(fork(1, 1, nil, leaf(0, 2))), 2)
	checkHigh(t, "both parts", treeFrom(fork(9, 20, leaf(2, 10), leaf(5, 30))), 2)
	checkHigh(t, "the right part is higher", treeFrom(broad()), 4)
	checkHigh(t, "the left part is higher", treeFrom(fork(9, 50, fork(2, 20, leaf(5, 10), nil), leaf(3, 60))), 3)
	checkHigh(t, "the longest way is bent", treeFrom(fork(9, 50, fork(2, 20, leaf(5, 10), fork(6, 30, nil, fork(7, 45, leaf(8, 40), nil))), leaf(3, 60))), 5)
	for many := range mostTwigs + 1 {
		for name, x := range map[string]tree{"straight": straight(many), "to the left": straightLeft(many), "bent": bent(many)} {
			checkHigh(t, name, x, many)
		}
		checkHigh(t, "low", low(many), bits.Len(uint(many)))
	}
}

func TestTreeBuild(t *testing.T) {
	for _, b := range []struct {
		keys []int
		rows [][3]int
	}{
		{[]int{0}, [][3]int{{0, -1, -1}}},
		{[]int{4, 5}, [][3]int{{5, 1, -1}, {4, -1, -1}}},
		{[]int{4, 5, 6}, [][3]int{{5, 1, 2}, {4, -1, -1}, {6, -1, -1}}},
		{[]int{1, 3, 5, 7}, [][3]int{{5, 1, 3}, {3, 2, -1}, {1, -1, -1}, {7, -1, -1}}},
		{[]int{-top, 0, 1, 2, top}, [][3]int{{1, 1, 3}, {0, 2, -1}, {-top, -1, -1}, {top, 4, -1}, {2, -1, -1}}},
		{row(1, 7), [][3]int{{4, 1, 4}, {2, 2, 3}, {1, -1, -1}, {3, -1, -1}, {6, 5, 6}, {5, -1, -1}, {7, -1, -1}}},
		{tens(16), [][3]int{
			{90, 1, 9}, {50, 2, 6}, {30, 3, 5}, {20, 4, -1}, {10, -1, -1}, {40, -1, -1}, {70, 7, 8}, {60, -1, -1}, {80, -1, -1},
			{130, 10, 13}, {110, 11, 12}, {100, -1, -1}, {120, -1, -1}, {150, 14, 15}, {140, -1, -1}, {160, -1, -1},
		}},
	} {
		checkBuild(t, fmt.Sprint(len(b.keys)), b.keys, rowTree(0, b.rows...), true)
	}
	checkBuild(t, "nothing", nil, tree{Root: -1}, true)
	checkBuild(t, "an empty list", []int{}, tree{Root: -1}, true)
}

// Promise 15: a built tree has all keys, each once, and is as low as can be: in one twig lower there would not be room for
// so many.
func TestBuiltTreesAreAsLowAsCanBe(t *testing.T) {
	for many := range mostTwigs + 1 {
		for name, keys := range map[string][]int{"tens": tens(many), "side by side": row(-5, many), "at the upper end": row(top-many+1, many), "at the lower end": row(-top, many)} {
			x, ok := impl.TreeBuild(keys)
			want, _ := plainBuild(keys)
			checkBuild(t, name, keys, want, true)
			checkTree(t, name, x, true)
			checkTreeKeys(t, name, x, keys...)
			checkHigh(t, name, x, bits.Len(uint(many)))
			if high := impl.TreeHigh(x); !ok || many > 1<<high-1 || high > 0 && many <= 1<<(high-1)-1 {
				t.Errorf("%s: of %d keys: high %d", name, many, high)
			}
			for at, key := range keys {
				if _, code := impl.TreeFind(x, key); code != treeHas || !x.Twigs[at].Used {
					t.Errorf("%s: of %d keys: %d: %d", name, many, key, code)
				}
			}
		}
	}
}

func TestTreeBuildOfNoKeys(t *testing.T) {
	none := tree{Root: -1}
	for name, keys := range map[string][]int{
		"one too many":              tens(17),
		"many too many":             tens(100),
		"one too many, all alike":   alike(0, 17),
		"one too many, it is above": append(tens(16), top+1),
		"too many, up from below":   row(-top-1, 17),
		"too many, from all above":  row(top+1, 40),
		"too many, none is right":   alike(top+1, 17),
		"two are equal":             {4, 4},
		"two are equal, of 0":       {0, 0},
		"the last are equal":        {1, 2, 3, 3},
		"the first are equal":       {1, 1, 2, 3},
		"the middle ones are equal": {1, 2, 2, 3},
		"equal at the lower end":    {-top, -top},
		"equal at the upper end":    {top, top},
		"all are equal":             alike(7, 16),
		"two fall":                  {5, 4},
		"all fall":                  fallingTens(16),
		"the last falls":            append(tens(15), 149),
		"the first falls":           {5, 4, 6, 7},
		"one falls":                 {1, 2, 5, 3, 6},
		"one falls and rises":       {1, 5, 3, 7},
		"from the upper to lower":   {top, -top},
		"below the lower end":       {-top - 1},
		"above the upper end":       {top + 1},
		"the first is below":        {-top - 1, 0, 1},
		"the last is above":         {0, 1, top + 1},
		"the last of all is above":  append(tens(15), top+1),
		"the least number":          {math.MinInt, 0},
		"the greatest number":       {0, math.MaxInt},
		"both ends of numbers":      {math.MinInt, math.MaxInt},
		"the wrong way round":       {math.MaxInt, math.MinInt},
	} {
		checkBuild(t, name, keys, none, false)
	}
	for many := 2; many <= mostTwigs; many++ {
		for at := 1; at < many; at++ {
			for _, less := range []int{10, 11, 19, 20} {
				keys := tens(many)
				keys[at] -= less
				checkBuild(t, "equals or falls", keys, none, false)
			}
		}
	}
}

// tinyTrees are of twigs at the places 0 to 2, of three keys: each way in which these may be linked, trees and others.
func tinyTrees(yield func(tree)) {
	pieces := []twig{{}}
	for key := range 3 {
		for left := -1; left < 3; left++ {
			for right := -1; right < 3; right++ {
				pieces = append(pieces, twig{Used: true, Key: key, Left: left, Right: right})
			}
		}
	}
	many := len(pieces)
	for root := -1; root < 4; root++ {
		for way := range many * many * many {
			x := tree{Root: root}
			x.Twigs[0], x.Twigs[1], x.Twigs[2] = pieces[way%many], pieces[way/many%many], pieces[way/many/many]
			yield(x)
		}
	}
}

func TestAllTinyTrees(t *testing.T) {
	good, bad := 0, 0
	tinyTrees(func(x tree) {
		if _, ok := plainTree(x); !ok {
			bad++
			checkTree(t, "tiny", x, false)
			if bad%97 == 0 {
				checkPlainTree(t, "tiny", x, 1)
			}
			return
		}
		good++
		checkPlainTree(t, "tiny", x, -1, 0, 1, 2, 3)
	})
	// None; one of three keys at one of three places; two of three keys at two places, the one or the other above; all at
	// three places in six ways, in five forms.
	if good != 1+3*3+3*6*2+6*5 || bad < 500000 {
		t.Error("gone through:", good, "and", bad)
	}
}

// eachTreeEdge changes each number of the tree to each edge and to each place, and each Used.
func eachTreeEdge(x tree, yield func(string, tree)) {
	numbers := append(edges(), -2, 10, 15, 16, 17, 20, 55, 100, 165)
	fields := map[string]func(*twig) *int{
		"Key":   func(one *twig) *int { return &one.Key },
		"Left":  func(one *twig) *int { return &one.Left },
		"Right": func(one *twig) *int { return &one.Right },
	}
	for _, number := range append(numbers, placesTo(mostTwigs)...) {
		yield(fmt.Sprint("Root ", number), withTree(x, func(x *tree) { x.Root = number }))
		for place := range mostTwigs {
			for name, field := range fields {
				yield(fmt.Sprint(name, " at ", place, ": ", number), withTree(x, func(x *tree) { *field(&x.Twigs[place]) = number }))
			}
		}
	}
	for place := range mostTwigs {
		yield(fmt.Sprint("Used at ", place), withTree(x, func(x *tree) { x.Twigs[place].Used = !x.Twigs[place].Used }))
	}
}

func TestTreesOverEdges(t *testing.T) {
	for name, x := range goodTrees() {
		eachTreeEdge(x, func(edge string, x tree) { checkPlainTree(t, name+", "+edge, x, 10, 55) })
	}
}

func TestTreesOfGoodTrees(t *testing.T) {
	for name, x := range goodTrees() {
		checkPlainTree(t, name, x, edges()...)
		checkPlainTree(t, name, x, row(-2, 170)...)
	}
}

// Promise 15, in all ways in which four keys can be added and dropped: each tree to which one comes is gone through once.
func TestAllWaysOfFourKeys(t *testing.T) {
	seen := map[tree]bool{}
	work := []tree{impl.NewTree()}
	for len(work) > 0 {
		x := work[0]
		work = work[1:]
		if seen[x] {
			continue
		}
		seen[x] = true
		checkPlainTree(t, "reached", x, 0, 1, 2, 3, 4, 5)
		for key := 1; key < 5; key++ {
			then, code := impl.TreeAdd(x, key)
			if _, left := impl.TreeFind(then, key); left != treeHas || code == treeHas && then != x {
				t.Fatal("not added:", x, key, code)
			}
			work = append(work, then)
			then, code = impl.TreeDrop(x, key)
			if _, left := impl.TreeFind(then, key); left != treeNone || code == treeNone && then != x {
				t.Fatal("not dropped:", x, key, code)
			}
			work = append(work, then)
		}
	}
	// None; one of four keys at one of four places; two of them in two forms, three in five, and four in fourteen.
	if len(seen) != 1+4*4+6*12*2+4*24*5+24*14 {
		t.Error("trees gone through:", len(seen))
	}
}

// treeKey is the key of a step in a long row: by the seed such that trees get straight, low or mixed.
func treeKey(seed int, step int) int {
	mixed := seed*7919 + step*step*(seed+3)/5 + step/(1+seed%5)
	switch seed % 4 {
	case 0:
		return step % (18 + seed)
	case 1:
		return -step % (18 + seed)
	}
	return (mixed*31+step)%(12+seed) - 6
}

// Promise 15: over long rows of adds and drops a tree has what a set of the language has, each key once, where the walk is
// not too long; and what is refused leaves it as it was.
func TestTreesBesideSets(t *testing.T) {
	codes := map[string]int{}
	for seed := range 60 {
		x, known := impl.NewTree(), map[int]bool{}
		for step := range 200 {
			key, was, code := treeKey(seed, step), x, treeDone
			if (seed*31+step*step+step/7)%4 == 0 {
				x, code = impl.TreeDrop(x, key)
				codes[fmt.Sprint("drop ", code)]++
				if code == treeDone {
					delete(known, key)
				}
			} else {
				x, code = impl.TreeAdd(x, key)
				codes[fmt.Sprint("add ", code)]++
				if code == treeDone {
					known[key] = true
				}
			}
			if code != treeDone && x != was {
				t.Fatalf("refused by %d: %+v\nwas %+v", code, x, was)
			}
			checkKnownKeys(t, x, known)
		}
	}
	for _, name := range []string{"add 0", "add 2", "add 3", "add 4", "drop 0", "drop 2", "drop 5"} {
		if codes[name] < 50 {
			t.Error("only", codes, "of", name)
		}
	}
}

// checkKnownKeys asks that a tree has each key that is known, once, in order, and tells of all that can be reached.
func checkKnownKeys(t *testing.T, x tree, known map[int]bool) {
	t.Helper()
	checkTree(t, "known", x, true)
	checkTreeKeys(t, "known", x, slices.Sorted(maps.Keys(known))...)
	for key := -30; key < 80; key++ {
		_, code := impl.TreeFind(x, key)
		if code != treeMany && (code == treeHas) != known[key] {
			t.Fatalf("%d is known: %v, but %d: %+v", key, known[key], code, x)
		}
	}
}

// A tree from which all keys are dropped is a new one, in whatever order they are dropped.
func TestTreesDroppedToNothing(t *testing.T) {
	for seed := 1; seed < 40; seed++ {
		x, _ := impl.TreeBuild(tens(16))
		left := tens(16)
		for len(left) > 0 {
			at := seed * len(left) * 7 / 3 % len(left)
			at = (at + seed) % len(left)
			want, code := plainTreeDrop(x, left[at])
			if code != treeDone {
				t.Fatalf("%d: not dropped: %d: %+v", left[at], code, x)
			}
			checkTreeDrop(t, "to nothing", x, left[at], want, treeDone)
			x, left = want, withoutAt(left, at)
			checkTreeKeys(t, "to nothing", x, left...)
		}
		if x != impl.NewTree() {
			t.Errorf("left: %+v", x)
		}
	}
}

// Promise 19: every answer is new memory, nothing lies behind it, and the argument is left as it was.
func TestTreesWriteNothingAndShareNothing(t *testing.T) {
	all := goodTrees()
	maps.Copy(all, badTrees())
	for name, x := range all {
		was := x
		keys, again := impl.TreeKeys(x), impl.TreeKeys(x)
		want := slices.Clone(keys)
		for _, number := range spare(keys) {
			if number != 0 {
				t.Errorf("%s: %d is handed out behind the keys", name, number)
			}
		}
		overwrite(keys, -7)
		for _, key := range []int{10, 20, 55} {
			added, _ := impl.TreeAdd(x, key)
			dropped, _ := impl.TreeDrop(x, key)
			for _, then := range []*tree{&added, &dropped} {
				*then = tree{Twigs: [16]twig(alike(twig{Used: true, Key: -7}, 16)), Root: 77}
			}
		}
		if x != was || !slices.Equal(again, want) || !slices.Equal(impl.TreeKeys(x), want) {
			t.Errorf("%s: %+v %v\nwas %+v %v", name, x, again, was, want)
		}
	}
}

// Keys are neither written into nor kept: what becomes of them later is nothing to the tree.
func TestTreeBuildKeepsNoKeys(t *testing.T) {
	for many := range mostTwigs + 1 {
		g := guard(tens(many), 10*many+10)
		x, _ := impl.TreeBuild(g.list())
		want := x
		g.check(t, "built")
		overwrite(g.whole, -7)
		if again, _ := impl.TreeBuild(tens(many)); x != want || again != want || !impl.TreeOk(x) {
			t.Errorf("%+v\nwas %+v, again %+v", x, want, again)
		}
	}
}

// Promise 19: whatever the arguments are, there is an answer, and it is kept nowhere.
func TestTreesOfOddArguments(t *testing.T) {
	kept := treeFrom(broad())
	for _, number := range oddNumbers() {
		for _, other := range oddNumbers() {
			odd := twig{Used: number < other, Key: other, Left: number, Right: other}
			for _, x := range []tree{
				{Root: number},
				{Twigs: [16]twig{0: odd}, Root: other},
				{Twigs: [16]twig(alike(odd, mostTwigs)), Root: number},
				{Twigs: [16]twig{0: {Used: true, Left: 1, Right: 2}, 1: odd, 2: odd}, Root: 0},
				withTree(kept, func(x *tree) { x.Twigs[2] = odd }),
				withTree(kept, func(x *tree) { x.Twigs[9].Key, x.Root = number, other }),
			} {
				checkPlainTree(t, "odd", x, number, other)
			}
			for _, keys := range [][]int{{number}, {number, other}, {-9, number, other}, {number, 5, 6, other}} {
				want, ok := plainBuild(keys)
				checkBuild(t, "odd", keys, want, ok)
			}
		}
		checkPlainTree(t, "behind odd", kept, number)
	}
}
