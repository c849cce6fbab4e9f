package calc

import "slices"

// stack is a pile of things.
type stack[T any] struct{ pile []T }

// put lays a thing on top.
func (s *stack[T]) put(thing T) { s.pile = append(s.pile, thing) }

// take: takes n things off the top, and tells them in the order in which they were put there.
func (s *stack[T]) take(n int) []T {
	rest := len(s.pile) - n
	taken := slices.Clone(s.pile[rest:]) // what is put next goes where these lay
	s.pile = s.pile[:rest]
	return taken
}
