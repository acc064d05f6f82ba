package tests

import (
	"slices"

	"loop.example/g01334/impl"
)

// The model of chapter 5 follows the document word by word and tries all lists: it is what the program is compared with.

// isStackInModel takes a list of any numbers.
func isStackInModel(list []impl.Thing, stack []int) bool {
	seen := map[int]bool{}
	for _, k := range stack {
		if k < 0 || k >= len(list) || seen[k] {
			return false
		}
		seen[k] = true
	}
	return true
}

func weightsAboveInModel(list []impl.Thing, stack []int) []int {
	weights := make([]int, len(stack))
	for i := range stack {
		for _, k := range stack[i+1:] {
			weights[i] += list[k].Weight
		}
	}
	return weights
}

// failingInModel returns all things with more weight above than they bear, from the bottom up.
func failingInModel(list []impl.Thing, stack []int) []int {
	var failing []int
	for i, above := range weightsAboveInModel(list, stack) {
		if list[stack[i]].Bears < above {
			failing = append(failing, stack[i])
		}
	}
	return failing
}

func isSafeInModel(list []impl.Thing, stack []int) bool {
	return len(failingInModel(list, stack)) == 0
}

// canBearMoreInModel puts a thing more on a safe stack, at first the heaviest one, then lighter ones.
func canBearMoreInModel(list []impl.Thing, stack []int) int {
	for more := impl.MaxHeavy; more > 0; more-- {
		longer := append(slices.Clone(list), impl.Thing{Weight: more})
		if isSafeInModel(longer, append(slices.Clone(stack), len(list))) {
			return more
		}
	}
	return 0
}

func stackHeightInModel(list []impl.Thing, stack []int) int {
	height := 0
	for _, k := range stack {
		height += list[k].High
	}
	return height
}

// safeStacksInModel returns all safe stacks, in lexicographic order.
func safeStacksInModel(list []impl.Thing) [][]int {
	return slices.DeleteFunc(listsOfSome(len(list)), func(stack []int) bool { return !isSafeInModel(list, stack) })
}

func ofLength(lists [][]int, n int) [][]int {
	return slices.DeleteFunc(slices.Clone(lists), func(list []int) bool { return len(list) != n })
}

// tallestInModel returns the first one of the tallest stacks.
func tallestInModel(list []impl.Thing, stacks [][]int) []int {
	return slices.MaxFunc(stacks, func(a, b []int) int {
		return stackHeightInModel(list, a) - stackHeightInModel(list, b)
	})
}

// onlyBelowInModel tries both stacks of any two things.
func onlyBelowInModel(list []impl.Thing) [][]int {
	return slices.DeleteFunc(ofLength(listsOfSome(len(list)), 2), func(pair []int) bool {
		return isSafeInModel(list, []int{pair[1], pair[0]}) || !isSafeInModel(list, pair)
	})
}

// strongestFirstInModel looks for the one order in which no thing comes before a stronger one, or behind an equal one with a greater index.
func strongestFirstInModel(list []impl.Thing) []int {
	strength := func(k int) int { return list[k].Weight + list[k].Bears }
	for _, order := range ofLength(listsOfSome(len(list)), len(list)) {
		if slices.IsSortedFunc(order, func(a, b int) int {
			if strength(a) != strength(b) {
				return strength(b) - strength(a)
			}
			return a - b
		}) {
			return order
		}
	}
	panic("things have no order")
}
