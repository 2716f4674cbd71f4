// Package lists compares lists of indexes, and chooses among things (section Terms of shared/DOC.md).
package lists

import (
	"cmp"
	"slices"
)

// Compare compares two lists by how long they are, then from their beginning on.
func Compare(a, b []int) int {
	return cmp.Or(cmp.Compare(len(a), len(b)), slices.Compare(a, b))
}

// OfSet returns the numbers of the bits of a set, which is not below 0.
func OfSet(set int) []int {
	var list []int
	for n := 0; set>>n > 0; n++ {
		if set>>n&1 == 1 {
			list = append(list, n)
		}
	}
	return list
}

// Least returns the least one of several, the first of those that are equal, and whether there is any.
func Least[E any](compare func(a, b E) int, several ...E) (best E, found bool) {
	for i, e := range several {
		if i == 0 || compare(e, best) < 0 {
			best = e
		}
	}
	return best, len(several) > 0
}

// LeastSet returns the fewest numbers from 0 to n - 1 for which something is so, and of several such lists the least one, if there is any. What is asked about is a set, which has a bit for each number.
func LeastSet(n int, is func(set int) bool) (list []int, found bool) {
	var all [][]int
	for set := range 1 << n {
		if is(set) {
			all = append(all, OfSet(set))
		}
	}
	return Least(Compare, all...)
}
