package tests

import (
	"slices"
	"testing"
)

// guarded keeps a list whose spare room is filled, to see whether a call writes into the list or behind it.
type guarded[T comparable] struct {
	whole []T
	was   []T
	many  int
}

// guard lays list into a longer array, behind it two elements that nobody may read, write or hand out.
func guard[T comparable](list []T, behind T) guarded[T] {
	whole := append(slices.Clone(list), behind, behind)
	return guarded[T]{whole, slices.Clone(whole), len(list)}
}

func (g guarded[T]) list() []T {
	return g.whole[:g.many]
}

func (g guarded[T]) check(t *testing.T, what string) {
	t.Helper()
	if !slices.Equal(g.whole, g.was) {
		t.Errorf("%s: the argument is %v, was %v", what, g.whole, g.was)
	}
}

// overwrite changes all of an answer, and the spare room behind it.
func overwrite[T comparable](answer []T, with T) {
	answer = answer[:cap(answer)]
	for i := range answer {
		answer[i] = with
	}
}

// alike makes a list of many times the same element.
func alike[T any](x T, many int) []T {
	list := make([]T, many)
	for i := range list {
		list[i] = x
	}
	return list
}

// turnLists are all lists of that many turns.
func turnLists(many int) [][]bool {
	lists := [][]bool{{}}
	for range many {
		var longer [][]bool
		for _, list := range lists {
			longer = append(longer, append(slices.Clone(list), false), append(slices.Clone(list), true))
		}
		lists = longer
	}
	return lists
}
