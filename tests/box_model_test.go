package tests

import (
	"slices"
)

// The model of chapter 1 follows the document word by word and tries everything: it is what the program is compared with.

func sum(list []int) int {
	total := 0
	for _, x := range list {
		total += x
	}
	return total
}

// loadsInModel returns the loads of the boxes of a list, and whether the list is a plan.
func loadsInModel(things []int, room int, plan []int) ([]int, bool) {
	if len(plan) != len(things) {
		return nil, false
	}
	var loads []int
	for i, box := range plan {
		if box == len(loads) {
			loads = append(loads, 0)
		}
		if box < 0 || box >= len(loads) {
			return nil, false
		}
		loads[box] += things[i]
	}
	return loads, len(loads) > 0 && slices.Max(loads) <= room
}

// plansInModel returns all plans, in lexicographic order.
func plansInModel(things []int, room int) [][]int {
	var plans [][]int
	var grow func(plan []int, next int)
	grow = func(plan []int, next int) {
		if len(plan) == len(things) {
			if _, ok := loadsInModel(things, room, plan); ok {
				plans = append(plans, slices.Clone(plan))
			}
			return
		}
		for box := 0; box <= next; box++ {
			grow(append(slices.Clone(plan), box), max(next, box+1))
		}
	}
	grow(nil, 0)
	return plans
}

// fewestInModel returns the least number of boxes, the first plan with it, and how many have it.
func fewestInModel(things []int, room int) (int, []int, int) {
	fewest, count := len(things)+1, 0
	var first []int
	for _, plan := range plansInModel(things, room) {
		boxes := slices.Max(plan) + 1
		if boxes < fewest {
			fewest, first, count = boxes, plan, 0
		}
		if boxes == fewest {
			count++
		}
	}
	return fewest, first, count
}

// ruleInModel packs things one after the other: choose gets the loads and the numbers of the boxes with room.
func ruleInModel(things []int, room int, choose func(loads, fitting []int) int) []int {
	var plan, loads []int
	for _, size := range things {
		var fitting []int
		for box, load := range loads {
			if load+size <= room {
				fitting = append(fitting, box)
			}
		}
		box := -1
		if len(fitting) > 0 {
			box = choose(loads, fitting)
		}
		if box < 0 {
			box = len(loads)
			loads = append(loads, 0)
		}
		loads[box] += size
		plan = append(plan, box)
	}
	return plan
}

func chooseLast(loads, fitting []int) int {
	if last := len(loads) - 1; slices.Contains(fitting, last) {
		return last
	}
	return -1
}

func chooseFirst(loads, fitting []int) int { return fitting[0] }

func chooseFullest(loads, fitting []int) int {
	return slices.MaxFunc(fitting, func(a, b int) int { return loads[a] - loads[b] })
}

func chooseEmptiest(loads, fitting []int) int {
	return slices.MinFunc(fitting, func(a, b int) int { return loads[a] - loads[b] })
}

// greatestFirstInModel takes the greatest thing that is left, the first one of several, until none is left.
func greatestFirstInModel(things []int, room int) []int {
	left := slices.Clone(things)
	var order, sizes []int
	for range things {
		k := slices.Index(left, slices.Max(left))
		order = append(order, k)
		sizes = append(sizes, left[k])
		left[k] = 0
	}
	packed := ruleInModel(sizes, room, chooseFirst)
	boxOf := make([]int, len(things))
	for i, k := range order {
		boxOf[k] = packed[i]
	}
	told := map[int]int{}
	plan := make([]int, len(things))
	for i, box := range boxOf {
		if _, ok := told[box]; !ok {
			told[box] = len(told)
		}
		plan[i] = told[box]
	}
	return plan
}

// ordersInModel returns all orders of sizes, equal ones several times.
func ordersInModel(sizes []int) [][]int {
	if len(sizes) == 0 {
		return [][]int{nil}
	}
	var orders [][]int
	for i, size := range sizes {
		rest := slices.Delete(slices.Clone(sizes), i, i+1)
		for _, order := range ordersInModel(rest) {
			orders = append(orders, append([]int{size}, order...))
		}
	}
	return orders
}

// extremeInModel returns the first order with the most boxes of FirstFit if sign is 1, with the fewest if it is -1.
func extremeInModel(things []int, room int, sign int) ([]int, int) {
	orders := ordersInModel(things)
	slices.SortFunc(orders, slices.Compare)
	var best []int
	bestBoxes := 0
	for _, order := range orders {
		boxes := slices.Max(ruleInModel(order, room, chooseFirst)) + 1
		if best == nil || sign*boxes > sign*bestBoxes {
			best, bestBoxes = order, boxes
		}
	}
	return best, bestBoxes
}

// fillInModel returns the first list of things that are just room together, nil if there is none.
func fillInModel(things []int, room int) []int {
	var found [][]int
	for mask := 1; mask < 1<<len(things); mask++ {
		var list, sizes []int
		for k, size := range things {
			if mask>>k&1 == 1 {
				list, sizes = append(list, k), append(sizes, size)
			}
		}
		if sum(sizes) == room {
			found = append(found, list)
		}
	}
	if found == nil {
		return nil
	}
	return slices.MinFunc(found, slices.Compare)
}
