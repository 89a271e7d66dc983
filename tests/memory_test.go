package tests

import (
	"slices"
	"sync"
	"testing"
)

// guarded is a list with spare room behind it, and how both stood at first.
type guarded[T comparable] struct {
	list  []T
	whole []T
	first []T
}

// guard copies list and fills the spare room behind it with mark.
func guard[T comparable](mark T, list []T) guarded[T] {
	whole := append(slices.Clone(list), slices.Repeat([]T{mark}, len(list)+40)...)
	return guarded[T]{whole[:len(list)], whole, slices.Clone(whole)}
}

func (g guarded[T]) untouched() bool { return slices.Equal(g.whole, g.first) }

// scribble writes into all that a list may reach, its spare room too, so that
// whoever shares memory with it is found out.
func scribble[T any](list []T, mark T) {
	list = list[:cap(list)]
	for i := range list {
		list[i] = mark
	}
}

// checkToldAlike takes a text of what calls answer, among others that are drawn:
// it is the same behind any others and beside them.
func checkToldAlike(t *testing.T, seed int, tell func(r *drawn) string) {
	t.Helper()
	first := drawn(seed)
	want := tell(&first)
	var all sync.WaitGroup
	got := make([]string, 6)
	for one := range got {
		all.Go(func() {
			r := drawn(seed + 1 + one)
			got[one] = tell(&r) + tell(&r)
		})
	}
	all.Wait()
	for _, told := range got {
		if told != want+want {
			t.Error("another answer behind or beside other calls")
		}
	}
}
