package calc

import (
	"bytes"
	"slices"
	"strings"

	"gnomon/api"
)

// name is a name's bytes, with noughts behind them: as no byte of a name is less than these, names come in the order of their bytes by their whole arrays.
type name [api.MaxName]byte

// nameOf: the name of a word that is not too long.
func nameOf(word string) name {
	var n name
	copy(n[:], word)
	return n
}

func (n name) text() string { return strings.TrimRight(string(n[:]), "\x00") }

// inOrder: the texts of the names that stand, in the order of their bytes.
func inOrder(standing map[name]uint64) []string {
	var list []name
	for n := range standing {
		list = append(list, n)
	}
	slices.SortFunc(list, func(a, b name) int { return bytes.Compare(a[:], b[:]) })
	texts := make([]string, len(list))
	for i, n := range list {
		texts[i] = n.text()
	}
	return texts
}
