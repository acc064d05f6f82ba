package tests

import (
	"slices"

	"loop.example/g01334/impl"
)

// The model of chapter 2 follows the document word by word and tries all shelvings: it is what the program is compared with.

func thickInModel(books []impl.Book) int {
	total := 0
	for _, b := range books {
		total += b.Thick
	}
	return total
}

func tallInModel(books []impl.Book) int {
	return slices.MaxFunc(books, func(a, b impl.Book) int { return a.Tall - b.Tall }).Tall
}

func thickestInModel(books []impl.Book) int {
	return slices.MaxFunc(books, func(a, b impl.Book) int { return a.Thick - b.Thick }).Thick
}

// shelvesInModel returns the books of each shelf, and whether the list of any numbers is a shelving.
func shelvesInModel(books []impl.Book, width int, firsts []int) ([][]impl.Book, bool) {
	var shelves [][]impl.Book
	told := 0
	for i, b := range books {
		if told < len(firsts) && firsts[told] == i {
			shelves = append(shelves, nil)
			told++
		}
		if told == 0 {
			return nil, false
		}
		shelves[told-1] = append(shelves[told-1], b)
	}
	for _, shelf := range shelves {
		if thickInModel(shelf) > width {
			return nil, false
		}
	}
	// A number that is told out of turn, or that is no book, is never met: then not all of them are.
	return shelves, told > 0 && told == len(firsts)
}

// shelvingsInModel returns all shelvings, in lexicographic order; the width may be any.
func shelvingsInModel(books []impl.Book, width int) [][]int {
	var all [][]int
	for mask := range 1 << (len(books) - 1) {
		firsts := []int{0}
		for k := 1; k < len(books); k++ {
			if mask>>(k-1)&1 == 1 {
				firsts = append(firsts, k)
			}
		}
		if _, ok := shelvesInModel(books, width, firsts); ok {
			all = append(all, firsts)
		}
	}
	slices.SortFunc(all, slices.Compare)
	return all
}

func heightInModel(shelves [][]impl.Book, width int) int {
	total := 0
	for _, shelf := range shelves {
		total += tallInModel(shelf)
	}
	return total
}

func roughnessInModel(shelves [][]impl.Book, width int) int {
	total := 0
	for i, shelf := range shelves {
		if i+1 < len(shelves) {
			total += (width - thickInModel(shelf)) * (width - thickInModel(shelf))
		}
	}
	return total
}

func numberInModel(shelves [][]impl.Book, width int) int { return len(shelves) }

// leastInModel returns the first shelving that costs least, what it costs, and how many cost that.
func leastInModel(books []impl.Book, width int, costOf func(shelves [][]impl.Book, width int) int) ([]int, int, int) {
	var first []int
	least, count := 0, 0
	for _, firsts := range shelvingsInModel(books, width) {
		shelves, _ := shelvesInModel(books, width, firsts)
		cost := costOf(shelves, width)
		if first == nil || cost < least {
			first, least, count = firsts, cost, 0
		}
		if cost == least {
			count++
		}
	}
	return first, least, count
}

// fillShelvesInModel puts each book on the shelf of the one before, if there is room.
func fillShelvesInModel(books []impl.Book, width int) []int {
	firsts := []int{0}
	for i := 1; i < len(books); i++ {
		if thickInModel(books[firsts[len(firsts)-1]:i+1]) > width {
			firsts = append(firsts, i)
		}
	}
	return firsts
}

// leastWidthInModel tries all widths, beginning with that of the thickest book.
func leastWidthInModel(books []impl.Book, shelves int) int {
	width := thickestInModel(books)
	for _, fewest, _ := leastInModel(books, width, numberInModel); fewest > shelves; _, fewest, _ = leastInModel(books, width, numberInModel) {
		width++
	}
	return width
}

// tallestFirstInModel takes the tallest book that is left, the first one of several, until none is left.
func tallestFirstInModel(books []impl.Book) []impl.Book {
	left := slices.Clone(books)
	var ordered []impl.Book
	for len(left) > 0 {
		k := slices.IndexFunc(left, func(b impl.Book) bool { return b.Tall == tallInModel(left) })
		ordered = append(ordered, left[k])
		left = slices.Delete(left, k, k+1)
	}
	return ordered
}

// moveInModel looks for the order in which the moved book is told by to and the others stand as before.
func moveInModel(books []impl.Book, from, to int) []impl.Book {
	var moved []impl.Book
	next := 0
	for i := range books {
		if i == to {
			moved = append(moved, books[from])
			continue
		}
		if next == from {
			next++
		}
		moved = append(moved, books[next])
		next++
	}
	return moved
}
