package tests

import (
	"fmt"
	"math"
	"testing"

	"loop.example/g01334/impl"
)

// Promise 11 for chapter 2: every function accepts all arguments, modifies none of them and shares no memory with them.

func badBooks() [][]impl.Book {
	lists := [][]impl.Book{nil, {}, sameBooks(1, 1, impl.MaxBooks+1), sameBooks(1, 1, 1000)}
	for _, bad := range []int{0, -1, impl.MaxThick + 1, math.MinInt, math.MaxInt} {
		lists = append(lists, sameBooks(bad, 5, 1), sameBooks(5, bad, 1), sameBooks(bad, bad, 2),
			append(exampleBooks(), impl.Book{Thick: bad, Tall: 5}), append(exampleBooks(), impl.Book{Thick: 5, Tall: bad}),
			append(sameBooks(bad, 5, 1), exampleBooks()...), append(sameBooks(5, bad, 1), exampleBooks()...))
	}
	return lists
}

// badWidths are no widths of the books of the example, the thickest of which is 4 thick.
func badWidths() []int {
	return []int{3, 1, 0, -1, -7, impl.MaxShelf + 1, math.MinInt, math.MaxInt}
}

// badShelvings are no shelvings of the books of the example on shelves of 7.
func badShelvings() [][]int {
	return [][]int{
		nil, {}, {0}, {0, 1}, {0, 3}, {1}, {1, 2}, {1, 2, 3}, {2}, {0, 0, 2}, {0, 2, 2}, {0, 2, 1}, {2, 0}, {0, 3, 2}, {0, 1, 1, 3},
		{0, 2, 4}, {0, 2, 3, 4}, {0, 1, 2, 3, 4}, {0, 2, 5}, {0, 2, math.MaxInt}, {0, 2, math.MinInt}, {0, 2, -1}, {-1, 0, 2}, {-1, 2},
		{math.MinInt, 0, 2}, {math.MaxInt}, repeated(0, 1000), repeated(0, impl.MaxBooks+1),
		{0, 1, 2, 3, 4, 5, 6, 7, 8, 9, 10, 11, 12, 13},
	}
}

// widthCalls are all functions of books and a width.
func widthCalls() map[string]func(books []impl.Book, width int) []any {
	return map[string]func(books []impl.Book, width int) []any{
		"FillShelves":    func(books []impl.Book, width int) []any { return results(impl.FillShelves(books, width)) },
		"FewestShelves":  func(books []impl.Book, width int) []any { return results(impl.FewestShelves(books, width)) },
		"LowestCase":     func(books []impl.Book, width int) []any { return results(impl.LowestCase(books, width)) },
		"FirstLowest":    func(books []impl.Book, width int) []any { return results(impl.FirstLowest(books, width)) },
		"CountLowest":    func(books []impl.Book, width int) []any { return results(impl.CountLowest(books, width)) },
		"SmoothestCase":  func(books []impl.Book, width int) []any { return results(impl.SmoothestCase(books, width)) },
		"CountShelvings": func(books []impl.Book, width int) []any { return results(impl.CountShelvings(books, width)) },
	}
}

// booksCalls are all functions of books alone, or of books and numbers that are valid here.
func booksCalls() map[string]func(books []impl.Book) []any {
	return map[string]func(books []impl.Book) []any{
		"LeastWidth":   func(books []impl.Book) []any { return results(impl.LeastWidth(books, 2)) },
		"TallestFirst": func(books []impl.Book) []any { return results(impl.TallestFirst(books)) },
		"MoveBook":     func(books []impl.Book) []any { return results(impl.MoveBook(books, 0, len(books)-1)) },
		"MoveBook back": func(books []impl.Book) []any {
			return results(impl.MoveBook(books, len(books)-1, 0))
		},
		"MoveBook nowhere": func(books []impl.Book) []any { return results(impl.MoveBook(books, 0, 0)) },
		"BooksText":        func(books []impl.Book) []any { return results(impl.BooksText(books)) },
	}
}

// shelfCalls are all functions of chapter 2 with lists as arguments, by which they are called with a width and a list of firsts.
func shelfCalls() map[string]func(books []impl.Book, width int, firsts []int) []any {
	calls := shelvingCalls()
	for name, call := range widthCalls() {
		calls[name] = func(books []impl.Book, width int, firsts []int) []any { return call(books, width) }
	}
	for name, call := range booksCalls() {
		calls[name] = func(books []impl.Book, width int, firsts []int) []any { return call(books) }
	}
	calls["AreBooks"] = func(books []impl.Book, width int, firsts []int) []any { return results(impl.AreBooks(books)) }
	calls["IsShelving"] = func(books []impl.Book, width int, firsts []int) []any {
		return results(impl.IsShelving(books, width, firsts))
	}
	return calls
}

func TestBooksAreRequired(t *testing.T) {
	for name, call := range shelfCalls() {
		for _, books := range badBooks() {
			mustFail(t, fmt.Sprint(name, " of ", books), call(books, impl.MaxShelf, []int{0}))
			mustFail(t, fmt.Sprint(name, " apart of ", books), call(books, 100, []int{0, 1, 2, 3, 4}))
		}
	}
}

func TestWidthsAreRequired(t *testing.T) {
	calls := shelfCalls()
	delete(calls, "AreBooks")
	for name := range booksCalls() {
		delete(calls, name)
	}
	for name, call := range calls {
		for _, width := range badWidths() {
			mustFail(t, fmt.Sprint(name, " on ", width), call(exampleBooks(), width, []int{0, 1, 2, 3}))
			mustFail(t, fmt.Sprint(name, " of no list on ", width), call(exampleBooks(), width, nil))
		}
		for _, width := range []int{4, impl.MaxShelf} {
			if !succeeded(call(exampleBooks(), width, []int{0, 1, 2, 3})) {
				t.Errorf("%s fails on %d", name, width)
			}
		}
	}
}

func TestShelvingsAreRequired(t *testing.T) {
	for name, call := range shelvingCalls() {
		for _, firsts := range badShelvings() {
			mustFail(t, fmt.Sprint(name, " by ", firsts), call(exampleBooks(), 7, firsts))
		}
	}
}

func TestShelfArgumentsAreKept(t *testing.T) {
	inputs := []struct {
		books  []impl.Book
		width  int
		firsts []int
	}{
		{exampleBooks(), 7, []int{0, 1, 3}},
		{exampleBooks(), 7, []int{0, 2}},
		{exampleBooks(), 7, []int{0, 3}},
		{exampleBooks(), 3, []int{0}},
		{sameBooks(5, 8, 1), 5, []int{0}},
		{sameBooks(1, 2, 12), 6, []int{0, 6}},
		{sameBooks(1, 2, 13), 13, []int{0}},
		{sameBooks(0, 2, 3), 13, []int{0}},
	}
	for name, call := range shelfCalls() {
		for _, in := range inputs {
			books, booksKept := guardedBy(in.books, markedBook())
			firsts, firstsKept := guarded(in.firsts)
			mustKeep(t, fmt.Sprint(name, " of ", in.books), func() []any { return call(books, in.width, firsts) }, booksKept, firstsKept)
		}
	}
}

func TestParsedBooksAreNew(t *testing.T) {
	first, _ := impl.ParseBooks("3|5,4|2,2|2,3|6")
	spoil([]any{first})
	mustReturn(t, "ParseBooks again", results(impl.ParseBooks("3|5,4|2,2|2,3|6")), exampleBooks())
}

func TestAnyBooksAreAccepted(t *testing.T) {
	odd := []int{math.MinInt, -1, 0, 1, 2, 3, 11, 12, 99, 100, 101, 1000, 1001, math.MaxInt}
	m := &mixer{state: 18}
	pick := func() int { return odd[m.next(0, len(odd)-1)] }
	for range 400 {
		books := make([]impl.Book, m.next(0, 13))
		for i := range books {
			books[i] = impl.Book{Thick: pick(), Tall: pick()}
		}
		if m.next(0, 1) == 0 {
			books = m.books(m.next(1, 12), 100, 100)
		}
		firsts := make([]int, m.next(0, 13))
		for i := range firsts {
			firsts[i] = pick()
		}
		width, a, b := pick(), pick(), pick()
		calls := shelfCalls()
		calls["LeastWidth"] = func([]impl.Book, int, []int) []any { return results(impl.LeastWidth(books, a)) }
		calls["MoveBook"] = func([]impl.Book, int, []int) []any { return results(impl.MoveBook(books, a, b)) }
		calls["ShelfOfBook"] = func([]impl.Book, int, []int) []any { return results(impl.ShelfOfBook(books, width, firsts, a)) }
		for name, call := range calls {
			if all := call(books, width, firsts); !succeeded(all) {
				mustFail(t, fmt.Sprint(name, " of ", books, width, firsts, a, b), all)
			}
		}
	}
}
