package tests

import "slices"

// The model of chapter 4 follows the document word by word and tries all lists: it is what the program is compared with.

// isRodPatternInModel takes a list of any numbers, and cuts piece by piece.
func isRodPatternInModel(rod int, lengths, list []int) bool {
	if len(list) != len(lengths) {
		return false
	}
	for kind, pieces := range list {
		if pieces < 0 {
			return false
		}
		for range pieces {
			rod -= lengths[kind]
			if rod < 0 {
				return false
			}
		}
	}
	return true
}

func usedInModel(lengths, pattern []int) int {
	used := 0
	for kind, pieces := range pattern {
		for range pieces {
			used += lengths[kind]
		}
	}
	return used
}

func isFullInModel(rod int, lengths, pattern []int) bool {
	for kind := range pattern {
		more := slices.Clone(pattern)
		more[kind]++
		if isRodPatternInModel(rod, lengths, more) {
			return false
		}
	}
	return true
}

// patternsInModel returns all patterns, in lexicographic order.
func patternsInModel(rod int, lengths []int) [][]int {
	lists := [][]int{{}}
	for kind := range lengths {
		var longer [][]int
		for _, list := range lists {
			for pieces := 0; ; pieces++ {
				more := append(slices.Clone(list), pieces)
				if !isRodPatternInModel(rod, lengths[:kind+1], more) {
					break
				}
				longer = append(longer, more)
			}
		}
		lists = longer
	}
	return lists
}

func fullPatternsInModel(rod int, lengths []int) [][]int {
	return slices.DeleteFunc(patternsInModel(rod, lengths), func(pattern []int) bool {
		return !isFullInModel(rod, lengths, pattern)
	})
}

// leastWasteInModel tries the wastes from 0 on.
func leastWasteInModel(rod int, lengths []int) (int, []int) {
	patterns := patternsInModel(rod, lengths)
	for waste := 0; ; waste++ {
		for _, pattern := range patterns {
			if usedInModel(lengths, pattern)+waste == rod {
				return waste, pattern
			}
		}
	}
}

// piecesInModel returns the kind of each piece that is ordered, longest first.
func piecesInModel(counts []int) []int {
	var kinds []int
	for kind, count := range counts {
		kinds = append(repeated(kind, count), kinds...)
	}
	return kinds
}

// rodPlansInModel returns the plans that cut each piece out of one of the rods before, or out of a new one, each with the greatest pattern first.
func rodPlansInModel(rod int, lengths, counts []int) [][][]int {
	plans := [][][]int{nil}
	for _, kind := range piecesInModel(counts) {
		var more [][][]int
		for _, plan := range plans {
			for i := 0; i <= len(plan); i++ {
				longer := slices.Clone(plan)
				if i == len(plan) {
					longer = append(longer, make([]int, len(lengths)))
				}
				longer[i] = slices.Clone(longer[i])
				longer[i][kind]++
				if isRodPatternInModel(rod, lengths, longer[i]) {
					more = append(more, longer)
				}
			}
		}
		plans = more
	}
	for _, plan := range plans {
		slices.SortFunc(plan, func(a, b []int) int { return slices.Compare(b, a) })
	}
	return plans
}

// firstRodsInModel returns the greatest one of the plans with the fewest rods.
func firstRodsInModel(rod int, lengths, counts []int) [][]int {
	return slices.MaxFunc(rodPlansInModel(rod, lengths, counts), func(a, b [][]int) int {
		if len(a) != len(b) {
			return len(b) - len(a)
		}
		return slices.CompareFunc(a, b, slices.Compare)
	})
}

func longestFirstRodsInModel(rod int, lengths, counts []int) [][]int {
	var rods [][]int
	for _, kind := range piecesInModel(counts) {
		i := slices.IndexFunc(rods, func(pattern []int) bool {
			return usedInModel(lengths, pattern)+lengths[kind] <= rod
		})
		if i < 0 {
			i = len(rods)
			rods = append(rods, make([]int, len(lengths)))
		}
		rods[i][kind]++
	}
	return rods
}

// cutsInModel returns all cuts of a rod into pieces of least..most, in lexicographic order.
func cutsInModel(rod, least, most int) [][]int {
	if rod == 0 {
		return [][]int{nil}
	}
	var cuts [][]int
	for piece := least; piece <= min(rod, most); piece++ {
		for _, rest := range cutsInModel(rod-piece, piece, most) {
			cuts = append(cuts, append([]int{piece}, rest...))
		}
	}
	return cuts
}

func worthInModel(prices, pieces []int) int {
	worth := 0
	for _, piece := range pieces {
		worth += prices[piece-1]
	}
	return worth
}

// bestCutsInModel returns the greatest worth of a cut, and all cuts that have it.
func bestCutsInModel(prices []int, rod int) (int, [][]int) {
	best := -1
	var with [][]int
	for _, cut := range cutsInModel(rod, 1, len(prices)) {
		worth := worthInModel(prices, cut)
		if worth > best {
			best, with = worth, nil
		}
		if worth == best {
			with = append(with, cut)
		}
	}
	return best, with
}
