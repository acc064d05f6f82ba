package tests

import (
	"math/big"
	"slices"

	"loop.example/g01334/impl"
)

// The model of chapter 6 follows the document word by word and tries all lists of items: it is what the program is compared with.

// increasingLists returns all strictly increasing lists of numbers below n, in lexicographic order.
func increasingLists(n int) [][]int {
	var all [][]int
	for mask := range 1 << n {
		list := []int{}
		for k := range n {
			if mask>>k&1 == 1 {
				list = append(list, k)
			}
		}
		all = append(all, list)
	}
	slices.SortFunc(all, slices.Compare[[]int])
	return all
}

// totalsInModel returns weight, bulk and value of items.
func totalsInModel(items []impl.Item, chosen []int) []int {
	totals := []int{0, 0, 0}
	for _, k := range chosen {
		totals[0] += items[k].Weight
		totals[1] += items[k].Bulk
		totals[2] += items[k].Value
	}
	return totals
}

func itemsValueInModel(items []impl.Item, chosen []int) int { return totalsInModel(items, chosen)[2] }

// isIncreasingInModel takes a list of any numbers.
func isIncreasingInModel(items []impl.Item, chosen []int) bool {
	for i, k := range chosen {
		if k < 0 || k >= len(items) || i > 0 && chosen[i-1] >= k {
			return false
		}
	}
	return true
}

// isChoiceInModel takes a list of any numbers, and a suitcase of any room.
func isChoiceInModel(items []impl.Item, c impl.Case, chosen []int) bool {
	if !isIncreasingInModel(items, chosen) {
		return false
	}
	totals := totalsInModel(items, chosen)
	return totals[0] <= c.Weight && totals[1] <= c.Bulk
}

// choicesInModel returns all choices, in lexicographic order.
func choicesInModel(items []impl.Item, c impl.Case) [][]int {
	return slices.DeleteFunc(increasingLists(len(items)), func(list []int) bool { return !isChoiceInModel(items, c, list) })
}

// greatestInModel returns all lists of the greatest size, and this.
func greatestInModel(lists [][]int, sizeOf func(list []int) int) ([][]int, int) {
	greatest := sizeOf(lists[0])
	for _, list := range lists {
		greatest = max(greatest, sizeOf(list))
	}
	return slices.DeleteFunc(slices.Clone(lists), func(list []int) bool { return sizeOf(list) != greatest }), greatest
}

// bestPackedInModel returns all choices with the greatest value, and this.
func bestPackedInModel(items []impl.Item, c impl.Case) ([][]int, int) {
	return greatestInModel(choicesInModel(items, c), func(list []int) int { return itemsValueInModel(items, list) })
}

// packInModel takes out of the items that are left one before which no other one comes, the first one of several, again and again.
func packInModel(items []impl.Item, c impl.Case, comesBefore func(a, b impl.Item) bool) []int {
	var left, chosen []int
	for k := range items {
		left = append(left, k)
	}
	for len(left) > 0 {
		next := 0
		for i := range left {
			if comesBefore(items[left[i]], items[left[next]]) {
				next = i
			}
		}
		more := append(slices.Clone(chosen), left[next])
		slices.Sort(more)
		if isChoiceInModel(items, c, more) {
			chosen = more
		}
		left = slices.Delete(left, next, next+1)
	}
	return chosen
}

func hasGreaterValue(a, b impl.Item) bool { return a.Value > b.Value }

func hasGreaterRatio(a, b impl.Item) bool {
	together, others := a.Weight+a.Bulk, b.Weight+b.Bulk
	if together == 0 || others == 0 {
		return together == 0 && others != 0
	}
	return big.NewRat(int64(a.Value), int64(together)).Cmp(big.NewRat(int64(b.Value), int64(others))) > 0
}

// lightestInModel returns the first list of the least weight, and this. It fails if no list has so much value and so little bulk.
func lightestInModel(items []impl.Item, bulk, value int) ([]int, int, bool) {
	lists := slices.DeleteFunc(increasingLists(len(items)), func(list []int) bool {
		totals := totalsInModel(items, list)
		return totals[1] > bulk || totals[2] < value
	})
	if len(lists) == 0 {
		return nil, 0, false
	}
	lightest, weight := greatestInModel(lists, func(list []int) int { return -totalsInModel(items, list)[0] })
	return lightest[0], -weight, true
}

// gainInModel returns how much greater the greatest value is in a suitcase of any room.
func gainInModel(items []impl.Item, c, greater impl.Case) int {
	_, before := bestPackedInModel(items, c)
	_, after := bestPackedInModel(items, greater)
	return after - before
}

func neverNeededInModel(items []impl.Item) []int {
	var needless []int
	for k, item := range items {
		for i, other := range items {
			notWorse := other.Weight <= item.Weight && other.Bulk <= item.Bulk && other.Value >= item.Value
			better := other.Weight < item.Weight || other.Bulk < item.Bulk || other.Value > item.Value
			if i != k && notWorse && (better || i < k) {
				needless = append(needless, k)
				break
			}
		}
	}
	return needless
}

// inAllInModel returns what is in all lists, of which there is one at least.
func inAllInModel(lists [][]int) []int {
	return slices.DeleteFunc(slices.Clone(lists[0]), func(k int) bool {
		return slices.ContainsFunc(lists, func(list []int) bool { return !slices.Contains(list, k) })
	})
}

// twoCasesInModel puts each item into none, into the first or into the second suitcase.
func twoCasesInModel(items []impl.Item, c, d impl.Case) int {
	greatest := 0
	eachList(len(items), 0, 2, func(into []int) {
		packed := [3][]int{}
		for k, number := range into {
			packed[number] = append(packed[number], k)
		}
		if isChoiceInModel(items, c, packed[1]) && isChoiceInModel(items, d, packed[2]) {
			greatest = max(greatest, itemsValueInModel(items, packed[1])+itemsValueInModel(items, packed[2]))
		}
	})
	return greatest
}

// exchangeInModel tries all exchanges of one item for another one.
func exchangeInModel(items []impl.Item, c impl.Case, chosen []int) (int, int, bool) {
	item, other, better := 0, 0, false
	greatest := itemsValueInModel(items, chosen)
	for i, k := range chosen {
		for instead := range items {
			if slices.Contains(chosen, instead) {
				continue
			}
			exchanged := slices.Clone(chosen)
			exchanged[i] = instead
			slices.Sort(exchanged)
			if value := itemsValueInModel(items, exchanged); isChoiceInModel(items, c, exchanged) && value > greatest {
				item, other, better, greatest = k, instead, true, value
			}
		}
	}
	return item, other, better
}
