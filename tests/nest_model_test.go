package tests

import (
	"slices"

	"loop.example/g01334/impl"
)

// The model of chapter 3 follows the document word by word and tries all lists: it is what the program is compared with.

const outerInModel = -1

// fitsInModel turns both boxes in all ways and takes those ways in which their sides are ordered by size.
func fitsInModel(a, b impl.Box) bool {
	for _, p := range turnsInModel(a) {
		for _, q := range turnsInModel(b) {
			if slices.IsSorted(p) && slices.IsSorted(q) {
				return p[0] < q[0] && p[1] < q[1] && p[2] < q[2]
			}
		}
	}
	panic("a box cannot be turned")
}

func turnsInModel(b impl.Box) [][]int {
	x, y, z := b.Wide, b.Deep, b.High
	return [][]int{{x, y, z}, {x, z, y}, {y, x, z}, {y, z, x}, {z, x, y}, {z, y, x}}
}

// boxesAroundInModel returns the boxes into which each box fits, increasing.
func boxesAroundInModel(boxes []impl.Box) [][]int {
	arounds := make([][]int, len(boxes))
	for i, a := range boxes {
		for j, b := range boxes {
			if fitsInModel(a, b) {
				arounds[i] = append(arounds[i], j)
			}
		}
	}
	return arounds
}

// isNestingInModel takes a list of any numbers.
func isNestingInModel(boxes []impl.Box, plan []int) bool {
	if len(plan) != len(boxes) {
		return false
	}
	inside := map[int]int{}
	for i, around := range plan {
		if around == outerInModel {
			continue
		}
		if around < 0 || around >= len(boxes) || !fitsInModel(boxes[i], boxes[around]) {
			return false
		}
		inside[around]++
		if inside[around] > 1 {
			return false
		}
	}
	return true
}

// nestingsInModel returns all nestings, in lexicographic order.
func nestingsInModel(boxes []impl.Box) [][]int {
	lists := [][]int{{}}
	for _, arounds := range boxesAroundInModel(boxes) {
		var longer [][]int
		for _, list := range lists {
			for _, around := range append([]int{outerInModel}, arounds...) {
				longer = append(longer, append(slices.Clone(list), around))
			}
		}
		lists = longer
	}
	return slices.DeleteFunc(lists, func(plan []int) bool { return !isNestingInModel(boxes, plan) })
}

func outerOfInModel(plan []int) []int {
	var outer []int
	for i := range plan {
		if plan[i] == outerInModel {
			outer = append(outer, i)
		}
	}
	return outer
}

func volumeInModel(boxes []impl.Box, plan []int) int {
	total := 0
	for _, k := range outerOfInModel(plan) {
		total += boxes[k].Wide * boxes[k].Deep * boxes[k].High
	}
	return total
}

func fewestOuterInModel(boxes []impl.Box, plan []int) int { return len(outerOfInModel(plan)) }

// leastNestingInModel returns the first nesting that costs least, what it costs, and how many cost that.
func leastNestingInModel(boxes []impl.Box, costOf func(boxes []impl.Box, plan []int) int) ([]int, int, int) {
	byCost := map[int][][]int{}
	least := -1
	for _, plan := range nestingsInModel(boxes) {
		cost := costOf(boxes, plan)
		byCost[cost] = append(byCost[cost], plan)
		if least < 0 || cost < least {
			least = cost
		}
	}
	return byCost[least][0], least, len(byCost[least])
}

// isInsideInModel reports whether a box is in another one, at once or in others.
func isInsideInModel(plan []int, k, around int) bool {
	return plan[k] != outerInModel && (plan[k] == around || isInsideInModel(plan, plan[k], around))
}

func depthsInModel(plan []int) []int {
	depths := make([]int, len(plan))
	for i := range plan {
		for j := range plan {
			if isInsideInModel(plan, i, j) {
				depths[i]++
			}
		}
	}
	return depths
}

// contentsInModel orders the boxes by their volumes: of two boxes in one another the outer one has the greater volume.
func contentsInModel(boxes []impl.Box, plan []int, k int) []int {
	var contents []int
	for i := range plan {
		if isInsideInModel(plan, i, k) {
			contents = append(contents, i)
		}
	}
	slices.SortFunc(contents, func(i, j int) int {
		a, b := boxes[i], boxes[j]
		return b.Wide*b.Deep*b.High - a.Wide*a.Deep*a.High
	})
	return contents
}

// takenOutInModel looks for the nesting that differs from the plan just in that the box that was in k is an outer one.
func takenOutInModel(boxes []impl.Box, plan []int, k int) ([]int, bool) {
	for _, other := range nestingsInModel(boxes) {
		differing := 0
		for i := range plan {
			if plan[i] != other[i] && (plan[i] != k || other[i] != outerInModel) {
				differing += 2
			} else if plan[i] != other[i] {
				differing++
			}
		}
		if differing == 1 {
			return other, true
		}
	}
	return nil, false
}

func longestNestInModel(boxes []impl.Box) []int {
	return firstLongest(listsOfSome(len(boxes)), func(list []int) bool {
		for i := range list[1:] {
			if !fitsInModel(boxes[list[i]], boxes[list[i+1]]) {
				return false
			}
		}
		return true
	})
}

func areApartInModel(boxes []impl.Box, list []int) bool {
	for _, i := range list {
		for _, j := range list {
			if fitsInModel(boxes[i], boxes[j]) {
				return false
			}
		}
	}
	return true
}

func apartInModel(boxes []impl.Box) []int {
	return firstLongest(listsOfSome(len(boxes)), func(list []int) bool {
		return slices.IsSorted(list) && areApartInModel(boxes, list)
	})
}
