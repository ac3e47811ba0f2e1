package pattern

import (
	"cmp"
	"iter"
	"slices"
)

// different returns the different elements of a list, rising.
func different[T cmp.Ordered](l []T) []T {
	return slices.Compact(slices.Sorted(slices.Values(l)))
}

// groups returns the numbers from 0 to below n in groups: numbers are in the same one if they are a pair, or if others connect them by pairs. Each group rises, and they are in the order of their first numbers.
func groups(n int, pairs iter.Seq2[int, int]) [][]int {
	heads := headsOf(n, pairs)
	members := make([][]int, n)
	for i, head := range heads {
		members[head] = append(members[head], i)
	}
	var l [][]int
	for i, head := range heads {
		if members[head][0] == i {
			l = append(l, members[head])
		}
	}
	return l
}

// headsOf returns, for each of the numbers from 0 to below n, one number that stands for its whole group.
func headsOf(n int, pairs iter.Seq2[int, int]) []int {
	heads, sizes := make([]int, n), make([]int, n)
	for i := range n {
		heads[i], sizes[i] = i, 1
	}
	// Each call of itself leads to a group of at least twice the size, so there are few of them, however long the row of pairs is that connects two numbers.
	var headOf func(i int) int
	headOf = func(i int) int {
		if heads[i] != i {
			heads[i] = headOf(heads[i])
		}
		return heads[i]
	}
	for a, b := range pairs {
		small, great := headOf(a), headOf(b)
		if small == great {
			continue
		}
		if sizes[small] > sizes[great] {
			small, great = great, small
		}
		heads[small] = great
		sizes[great] += sizes[small]
	}
	for i := range n {
		headOf(i)
	}
	return heads
}
