// Package lists compares lists of indexes, and chooses among things (section Terms of shared/DOC.md).
package lists

import (
	"cmp"
	"slices"
	"sync"
)

// Compare compares two lists by how long they are, then from their beginning on.
func Compare(a, b []int) int {
	return cmp.Or(cmp.Compare(len(a), len(b)), slices.Compare(a, b))
}

// Same tells whether several lists are equal to one.
func Same[E comparable](list []E, several ...[]E) bool {
	for _, other := range several {
		if !slices.Equal(list, other) {
			return false
		}
	}
	return true
}

// OfSet returns the numbers of the bits of a set, which is not below 0.
func OfSet(set int) []int {
	var list []int
	for n := 0; set>>n > 0; n++ {
		if set>>n&1 == 1 {
			list = append(list, n)
		}
	}
	return list
}

// Least returns the least one of several, the first of those that are equal, and whether there is any.
func Least[E any](compare func(a, b E) int, several ...E) (best E, found bool) {
	for i, e := range several {
		if i == 0 || compare(e, best) < 0 {
			best = e
		}
	}
	return best, len(several) > 0
}

// LeastOf returns the numbers of one of several sets, which have a bit for each number: of the sets with the fewest numbers the least list, if there is any.
func LeastOf(sets ...int) (list []int, found bool) {
	var all [][]int
	for _, set := range sets {
		all = append(all, OfSet(set))
	}
	return Least(Compare, all...)
}

// LeastSet returns the fewest numbers from 0 to n - 1 for which something is so, and of several such lists the least one, if there is any. What is asked about is a set, which has a bit for each number.
func LeastSet(n int, is func(set int) bool) (list []int, found bool) {
	var sets []int
	for set := range 1 << n {
		if is(set) {
			sets = append(sets, set)
		}
	}
	return LeastOf(sets...)
}

// Those returns the numbers from 0 to n - 1 for which something is so, ascending. Each is looked at by a goroutine of its own.
func Those(n int, is func(i int) bool) []int {
	those := make(chan int, n)
	var wait sync.WaitGroup
	for i := range n {
		wait.Add(1)
		go func() {
			defer wait.Done()
			if is(i) {
				those <- i
			}
		}()
	}
	wait.Wait()
	close(those)
	var list []int
	for i := range those {
		list = append(list, i)
	}
	slices.Sort(list)
	return list
}
