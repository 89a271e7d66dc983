package tests

import "slices"

// guarded is a list with spare room behind it, and how both stood at first.
type guarded[T comparable] struct {
	list  []T
	whole []T
	first []T
}

// guard copies list and fills the spare room behind it with mark.
func guard[T comparable](mark T, list []T) guarded[T] {
	whole := append(slices.Clone(list), slices.Repeat([]T{mark}, len(list)+40)...)
	return guarded[T]{whole[:len(list)], whole, slices.Clone(whole)}
}

func (g guarded[T]) untouched() bool { return slices.Equal(g.whole, g.first) }

// scribble writes into all that a list may reach, its spare room too, so that
// whoever shares memory with it is found out.
func scribble[T any](list []T, mark T) {
	list = list[:cap(list)]
	for i := range list {
		list[i] = mark
	}
}
