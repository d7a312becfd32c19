package impl

import "slices"

const (
	MaxWords   = 40
	MaxWordOps = 200
	MaxValue   = 1000000000
)

const (
	OpLoad   = 1
	OpStore  = 2
	OpSwap   = 3
	OpSwapIf = 4
	OpAdd    = 5
)

type WordOp struct {
	Kind int
	At   int
	Old  int
	New  int
}

// cells is a memory that belongs to one call, so that its methods may write into it.
type cells []int

// wordStep does one op that was found to be in order; it tells what the op tells, or 0 and false where the op is refused.
type wordStep func(c cells, op WordOp) (int, bool)

func MemoryOk(m []int) bool {
	return len(m) <= MaxWords && allValues(m)
}

func Word(m []int, op WordOp) ([]int, int, bool) {
	c := copyCells(m)
	told, ok := c.do(op, wordSteps())
	return c, told, ok
}

func Words(m []int, ops []WordOp) ([]int, []int, bool) {
	c := copyCells(m)
	if len(ops) > MaxWordOps {
		return c, nil, false
	}
	told := make([]int, len(ops))
	all, steps := true, wordSteps()
	for i, op := range ops {
		one, ok := c.do(op, steps)
		told[i] = one
		all = all && ok
	}
	return c, told, all
}

func SwapAll(m []int, at []int, old []int, new []int) ([]int, bool) {
	c := copyCells(m)
	if !MemoryOk(c) || len(old) != len(at) || len(new) != len(at) {
		return c, false
	}
	if !c.arePlaces(at) || !allValues(old) || !allValues(new) {
		return c, false
	}
	// All are compared before any is changed: whoever is refused changes nothing.
	for i, place := range at {
		if c[place] != old[i] {
			return c, false
		}
	}
	for i, place := range at {
		c[place] = new[i]
	}
	return c, true
}

func Merged(a []WordOp, b []WordOp, turns []bool) []WordOp {
	merged := make([]WordOp, 0, len(a)+len(b))
	for _, second := range turns {
		if len(a) == 0 || len(b) == 0 {
			break // whose turn it is makes no difference any more
		}
		if second {
			merged, b = append(merged, b[0]), b[1:]
		} else {
			merged, a = append(merged, a[0]), a[1:]
		}
	}
	merged = append(merged, a...)
	return append(merged, b...)
}

func AllAlike(m []int, a []WordOp, b []WordOp) (bool, bool) {
	if !MemoryOk(m) || len(a)+len(b) > MaxWordOps {
		return false, false
	}
	return slices.Equal(behindBoth(m, a, b), behindBoth(m, b, a)), true
}

// behindBoth is the memory behind the ops of first, then those of second.
func behindBoth(m []int, first []WordOp, second []WordOp) []int {
	between, _, _ := Words(m, first)
	last, _, _ := Words(between, second)
	return last
}

func isValue(x int) bool {
	return -MaxValue <= x && x <= MaxValue
}

func allValues(list []int) bool {
	for _, x := range list {
		if !isValue(x) {
			return false
		}
	}
	return true
}

func copyCells(m []int) cells {
	c := make(cells, len(m))
	copy(c, m)
	return c
}

func wordSteps() map[int]wordStep {
	return map[int]wordStep{
		OpLoad:   cells.load,
		OpStore:  cells.store,
		OpSwap:   cells.swap,
		OpSwapIf: cells.swapIf,
		OpAdd:    cells.add,
	}
}

func (c cells) do(op WordOp, steps map[int]wordStep) (int, bool) {
	step, known := steps[op.Kind]
	if !known || !MemoryOk(c) || !c.isPlace(op.At) || !namedAreValues(op) {
		return 0, false
	}
	return step(c, op)
}

// namedAreValues looks only at the parts that the op's kind names.
func namedAreValues(op WordOp) bool {
	if op.Kind != OpLoad && !isValue(op.New) {
		return false
	}
	return op.Kind != OpSwapIf || isValue(op.Old)
}

func (c cells) isPlace(at int) bool {
	return 0 <= at && at < len(c)
}

// arePlaces asks that each is a place and that none stands twice; c has at most MaxWords words.
func (c cells) arePlaces(list []int) bool {
	var seen [MaxWords]bool
	for _, at := range list {
		if !c.isPlace(at) || seen[at] {
			return false
		}
		seen[at] = true
	}
	return true
}

func (c cells) load(op WordOp) (int, bool) {
	return c[op.At], true
}

func (c cells) store(op WordOp) (int, bool) {
	c[op.At] = op.New
	return op.New, true
}

func (c cells) swap(op WordOp) (int, bool) {
	was := c[op.At]
	c[op.At] = op.New
	return was, true
}

func (c cells) swapIf(op WordOp) (int, bool) {
	was := c[op.At]
	if was == op.Old {
		c[op.At] = op.New
	}
	return was, true
}

func (c cells) add(op WordOp) (int, bool) {
	sum := c[op.At] + op.New
	if !isValue(sum) {
		return 0, false
	}
	c[op.At] = sum
	return sum, true
}
