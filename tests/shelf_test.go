package tests

import (
	"fmt"
	"math"
	"regexp"
	"slices"
	"strings"
	"testing"

	"loop.example/g01334/impl"
)

// exampleBooks are 3|5,4|2,2|2,3|6.
func exampleBooks() []impl.Book {
	return []impl.Book{{Thick: 3, Tall: 5}, {Thick: 4, Tall: 2}, {Thick: 2, Tall: 2}, {Thick: 3, Tall: 6}}
}

// sameBooks returns n times the same book.
func sameBooks(thick, tall, n int) []impl.Book {
	return slices.Repeat([]impl.Book{{Thick: thick, Tall: tall}}, n)
}

// books returns n books whose numbers are at most so great.
func (m *mixer) books(n, thick, tall int) []impl.Book {
	list := make([]impl.Book, n)
	for i := range list {
		list[i] = impl.Book{Thick: m.next(1, thick), Tall: m.next(1, tall)}
	}
	return list
}

// eachShelfSample visits small books of all kinds, and some great ones, with widths that hold them.
func eachShelfSample(visit func(books []impl.Book, width int)) {
	for n := 1; n <= 4; n++ {
		eachList(n, 0, 5, func(kinds []int) {
			books := make([]impl.Book, n)
			for i, kind := range kinds {
				books[i] = impl.Book{Thick: 1 + kind%3, Tall: 1 + kind/3}
			}
			for width := thickestInModel(books); width <= thickInModel(books)+1; width++ {
				visit(books, width)
			}
		})
	}
	m := &mixer{state: 11}
	for range 300 {
		books := m.books(m.next(4, 8), m.next(2, 12), m.next(2, 12))
		visit(books, m.next(thickestInModel(books), thickInModel(books)+1))
	}
	for range 20 {
		books := m.books(impl.MaxBooks, impl.MaxThick, impl.MaxThick)
		visit(books, m.next(thickestInModel(books), 500))
	}
}

func TestShelfExample(t *testing.T) {
	books := exampleBooks()
	mustReturn(t, "FillShelves", results(impl.FillShelves(books, 7)), []int{0, 2})
	mustReturn(t, "FewestShelves", results(impl.FewestShelves(books, 7)), 2)
	mustReturn(t, "ShelfHeights", results(impl.ShelfHeights(books, 7, []int{0, 2})), []int{5, 6})
	mustReturn(t, "HeightOfCase", results(impl.HeightOfCase(books, 7, []int{0, 2})), 11)
	mustReturn(t, "ShelfHeights of 3", results(impl.ShelfHeights(books, 7, []int{0, 1, 3})), []int{5, 2, 6})
	mustReturn(t, "HeightOfCase of 3", results(impl.HeightOfCase(books, 7, []int{0, 1, 3})), 13)
	mustReturn(t, "LowestCase", results(impl.LowestCase(books, 7)), 11)
	mustReturn(t, "FirstLowest", results(impl.FirstLowest(books, 7)), []int{0, 2})
	mustReturn(t, "CountLowest", results(impl.CountLowest(books, 7)), 1)
	mustReturn(t, "ShelfWidths", results(impl.ShelfWidths(books, 7, []int{0, 2})), []int{7, 5})
	mustReturn(t, "RoughnessOf", results(impl.RoughnessOf(books, 7, []int{0, 2})), 0)
	mustReturn(t, "SmoothestCase", results(impl.SmoothestCase(books, 7)), []int{0, 2}, 0)
	mustReturn(t, "LeastWidth", results(impl.LeastWidth(books, 3)), 5)
	mustReturn(t, "CountShelvings", results(impl.CountShelvings(books, 7)), 5)
	mustReturn(t, "BooksText", results(impl.BooksText(books)), "3|5,4|2,2|2,3|6")
	mustReturn(t, "ParseBooks", results(impl.ParseBooks("3|5,4|2,2|2,3|6")), books)
}

func TestAreBooks(t *testing.T) {
	good := [][]impl.Book{exampleBooks(), sameBooks(1, 1, 1), sameBooks(100, 100, 1), sameBooks(1, 100, 12), sameBooks(100, 1, 12)}
	mustTellApart(t, "AreBooks", impl.AreBooks, good, badBooks())
}

func TestIsShelving(t *testing.T) {
	for _, firsts := range [][]int{{0, 2}, {0, 1, 3}, {0, 1, 2}, {0, 2, 3}, {0, 1, 2, 3}} {
		mustReturn(t, fmt.Sprint("IsShelving of ", firsts), results(impl.IsShelving(exampleBooks(), 7, firsts)), true)
	}
	for _, firsts := range badShelvings() {
		mustReturn(t, fmt.Sprint("IsShelving of ", firsts), results(impl.IsShelving(exampleBooks(), 7, firsts)), false)
	}
}

// shelvingCalls are all functions of a shelving that fail if the list is none.
func shelvingCalls() map[string]func(books []impl.Book, width int, firsts []int) []any {
	return map[string]func(books []impl.Book, width int, firsts []int) []any{
		"ShelfHeights": func(books []impl.Book, width int, firsts []int) []any {
			return results(impl.ShelfHeights(books, width, firsts))
		},
		"ShelfWidths": func(books []impl.Book, width int, firsts []int) []any {
			return results(impl.ShelfWidths(books, width, firsts))
		},
		"HeightOfCase": func(books []impl.Book, width int, firsts []int) []any {
			return results(impl.HeightOfCase(books, width, firsts))
		},
		"RoughnessOf": func(books []impl.Book, width int, firsts []int) []any {
			return results(impl.RoughnessOf(books, width, firsts))
		},
		"ShelfOfBook": func(books []impl.Book, width int, firsts []int) []any {
			return results(impl.ShelfOfBook(books, width, firsts, 0))
		},
	}
}

func TestShelvingsOfAllLists(t *testing.T) {
	m := &mixer{state: 12}
	for n := 1; n <= 4; n++ {
		books := m.books(n, 3, 9)
		for width := thickestInModel(books); width <= thickInModel(books); width++ {
			for length := 0; length <= n+1; length++ {
				eachList(length, -1, n, func(firsts []int) { checkShelving(t, books, width, firsts) })
			}
		}
	}
}

func TestShelvingsFollowTheModel(t *testing.T) {
	m := &mixer{state: 13}
	for range 40 {
		books := m.books(m.next(5, 9), 20, impl.MaxThick)
		width := m.next(thickestInModel(books), thickInModel(books))
		for _, firsts := range shelvingsInModel(books, width) {
			checkShelving(t, books, width, firsts)
		}
	}
}

// checkShelving compares all functions of one list with the model, whether the list is a shelving or not.
func checkShelving(t *testing.T, books []impl.Book, width int, firsts []int) {
	t.Helper()
	name := fmt.Sprintf(" of %v on %d by %v", books, width, firsts)
	shelves, is := shelvesInModel(books, width, firsts)
	mustReturn(t, "IsShelving"+name, results(impl.IsShelving(books, width, firsts)), is)
	if !is {
		for called, call := range shelvingCalls() {
			mustFail(t, called+name, call(books, width, firsts))
		}
		return
	}
	var heights, widths []int
	told := 0
	for i, shelf := range shelves {
		heights, widths = append(heights, tallInModel(shelf)), append(widths, thickInModel(shelf))
		for range shelf {
			mustReturn(t, fmt.Sprint("ShelfOfBook ", told, name), results(impl.ShelfOfBook(books, width, firsts, told)), i)
			told++
		}
	}
	mustReturn(t, "ShelfHeights"+name, results(impl.ShelfHeights(books, width, firsts)), heights)
	mustReturn(t, "ShelfWidths"+name, results(impl.ShelfWidths(books, width, firsts)), widths)
	mustReturn(t, "HeightOfCase"+name, results(impl.HeightOfCase(books, width, firsts)), heightInModel(shelves, width))
	mustReturn(t, "RoughnessOf"+name, results(impl.RoughnessOf(books, width, firsts)), roughnessInModel(shelves, width))
}

func TestShelvesByHand(t *testing.T) {
	one := sameBooks(5, 8, 1)
	mustReturn(t, "FillShelves of one", results(impl.FillShelves(one, 5)), []int{0})
	mustReturn(t, "FewestShelves of one", results(impl.FewestShelves(one, 5)), 1)
	mustReturn(t, "LowestCase of one", results(impl.LowestCase(one, 1000)), 8)
	mustReturn(t, "FirstLowest of one", results(impl.FirstLowest(one, 1000)), []int{0})
	mustReturn(t, "CountLowest of one", results(impl.CountLowest(one, 5)), 1)
	mustReturn(t, "CountShelvings of one", results(impl.CountShelvings(one, 5)), 1)
	mustReturn(t, "SmoothestCase of one", results(impl.SmoothestCase(one, 1000)), []int{0}, 0)
	mustReturn(t, "RoughnessOf one", results(impl.RoughnessOf(one, 1000, []int{0})), 0)
	mustReturn(t, "ShelfHeights of one", results(impl.ShelfHeights(one, 5, []int{0})), []int{8})
	mustReturn(t, "ShelfWidths of one", results(impl.ShelfWidths(one, 5, []int{0})), []int{5})
	mustReturn(t, "ShelfOfBook of one", results(impl.ShelfOfBook(one, 5, []int{0}, 0)), 0)

	// Filled shelves need be neither the lowest nor the smoothest ones.
	tall := []impl.Book{{Thick: 2, Tall: 1}, {Thick: 2, Tall: 9}, {Thick: 2, Tall: 9}}
	mustReturn(t, "FillShelves", results(impl.FillShelves(tall, 4)), []int{0, 2})
	mustReturn(t, "LowestCase", results(impl.LowestCase(tall, 4)), 10)
	mustReturn(t, "FirstLowest", results(impl.FirstLowest(tall, 4)), []int{0, 1})
	even := []impl.Book{{Thick: 3, Tall: 1}, {Thick: 2, Tall: 1}, {Thick: 2, Tall: 1}, {Thick: 5, Tall: 1}}
	mustReturn(t, "FillShelves", results(impl.FillShelves(even, 6)), []int{0, 2, 3})
	mustReturn(t, "SmoothestCase", results(impl.SmoothestCase(even, 6)), []int{0, 1, 3}, 9+4)
	mustReturn(t, "RoughnessOf filled ones", results(impl.RoughnessOf(even, 6, []int{0, 2, 3})), 1+16)
}

// TestFirstShelvingOfSeveral has shelvings that are equally good: 0, 1 comes before 0, 2.
func TestFirstShelvingOfSeveral(t *testing.T) {
	books := sameBooks(2, 3, 3)
	mustReturn(t, "LowestCase", results(impl.LowestCase(books, 4)), 6)
	mustReturn(t, "FirstLowest", results(impl.FirstLowest(books, 4)), []int{0, 1})
	mustReturn(t, "CountLowest", results(impl.CountLowest(books, 4)), 2)
	mustReturn(t, "FillShelves", results(impl.FillShelves(books, 4)), []int{0, 2})
	mustReturn(t, "SmoothestCase", results(impl.SmoothestCase(books, 4)), []int{0, 2}, 0)

	full := sameBooks(4, 3, 3)
	mustReturn(t, "SmoothestCase of full shelves", results(impl.SmoothestCase(full, 4)), []int{0, 1, 2}, 0)
	// The middle one of three books of 2, 1 and 2 leaves 2 and 1 free with either neighbour; the last book fills its shelf.
	either := []impl.Book{{Thick: 2, Tall: 1}, {Thick: 1, Tall: 1}, {Thick: 2, Tall: 1}, {Thick: 4, Tall: 1}}
	mustReturn(t, "SmoothestCase of two", results(impl.SmoothestCase(either, 4)), []int{0, 1, 3}, 4+1)
	mustReturn(t, "RoughnessOf the other one", results(impl.RoughnessOf(either, 4, []int{0, 2, 3})), 1+4)
}

func TestShelfLimitsAreMet(t *testing.T) {
	most := sameBooks(impl.MaxThick, impl.MaxThick, impl.MaxBooks)
	apart := []int{0, 1, 2, 3, 4, 5, 6, 7, 8, 9, 10, 11}
	mustReturn(t, "FillShelves apart", results(impl.FillShelves(most, 100)), apart)
	mustReturn(t, "FewestShelves apart", results(impl.FewestShelves(most, 199)), 12)
	mustReturn(t, "LowestCase apart", results(impl.LowestCase(most, 100)), 1200)
	mustReturn(t, "FirstLowest apart", results(impl.FirstLowest(most, 199)), apart)
	mustReturn(t, "CountLowest apart", results(impl.CountLowest(most, 199)), 1)
	mustReturn(t, "CountShelvings apart", results(impl.CountShelvings(most, 100)), 1)
	mustReturn(t, "SmoothestCase apart", results(impl.SmoothestCase(most, 199)), apart, 11*99*99)
	mustReturn(t, "ShelfOfBook apart", results(impl.ShelfOfBook(most, 100, apart, 11)), 11)
	mustReturn(t, "RoughnessOf apart", results(impl.RoughnessOf(most, impl.MaxShelf, apart)), 11*900*900)

	mustReturn(t, "FillShelves", results(impl.FillShelves(most, impl.MaxShelf)), []int{0, 10})
	mustReturn(t, "FewestShelves", results(impl.FewestShelves(most, impl.MaxShelf)), 2)
	mustReturn(t, "FirstLowest", results(impl.FirstLowest(most, impl.MaxShelf)), []int{0, 2})
	mustReturn(t, "CountLowest", results(impl.CountLowest(most, impl.MaxShelf)), 9)
	mustReturn(t, "CountShelvings", results(impl.CountShelvings(most, impl.MaxShelf)), 2048-3)
	mustReturn(t, "CountShelvings of thin ones", results(impl.CountShelvings(sameBooks(1, 1, 12), 12)), 2048)
	mustReturn(t, "FillShelves of thin ones", results(impl.FillShelves(sameBooks(1, 100, 12), 12)), []int{0})

	mustReturn(t, "LeastWidth of 1", results(impl.LeastWidth(most, 1)), 1200)
	mustReturn(t, "LeastWidth of 2", results(impl.LeastWidth(most, 2)), 600)
	mustReturn(t, "LeastWidth of 11", results(impl.LeastWidth(most, 11)), 200)
	mustReturn(t, "LeastWidth of 12", results(impl.LeastWidth(most, impl.MaxBooks)), 100)
}

func TestLeastShelvingsFollowTheModel(t *testing.T) {
	eachShelfSample(func(books []impl.Book, width int) {
		name := fmt.Sprintf(" of %v on %d", books, width)
		first, lowest, count := leastInModel(books, width, heightInModel)
		mustReturn(t, "LowestCase"+name, results(impl.LowestCase(books, width)), lowest)
		mustReturn(t, "FirstLowest"+name, results(impl.FirstLowest(books, width)), first)
		mustReturn(t, "CountLowest"+name, results(impl.CountLowest(books, width)), count)
		smoothest, roughness, _ := leastInModel(books, width, roughnessInModel)
		mustReturn(t, "SmoothestCase"+name, results(impl.SmoothestCase(books, width)), smoothest, roughness)
		_, fewest, _ := leastInModel(books, width, numberInModel)
		mustReturn(t, "FewestShelves"+name, results(impl.FewestShelves(books, width)), fewest)
		mustReturn(t, "FillShelves"+name, results(impl.FillShelves(books, width)), fillShelvesInModel(books, width))
		mustReturn(t, "CountShelvings"+name, results(impl.CountShelvings(books, width)), len(shelvingsInModel(books, width)))
	})
}

// TestNoShelvingIsLower is promise 2: shelves have all books in their order, and no shelving is lower than the lowest one.
func TestNoShelvingIsLower(t *testing.T) {
	eachShelfSample(func(books []impl.Book, width int) {
		lowest, ok := impl.LowestCase(books, width)
		if !ok {
			t.Errorf("LowestCase of %v on %d fails", books, width)
		}
		filled, _ := impl.FillShelves(books, width)
		first, _ := impl.FirstLowest(books, width)
		smoothest, _, _ := impl.SmoothestCase(books, width)
		for _, firsts := range [][]int{filled, first, smoothest} {
			if shelves, ok := shelvesInModel(books, width, firsts); !ok || !slices.Equal(slices.Concat(shelves...), books) {
				t.Errorf("%v on %d: %v does not have all books in their order", books, width, firsts)
			}
		}
		for _, firsts := range shelvingsInModel(books, width) {
			if height, ok := impl.HeightOfCase(books, width, firsts); !ok || height < lowest {
				t.Errorf("%v on %d: %v is %d %v high, the lowest one %d", books, width, firsts, height, ok, lowest)
			}
		}
	})
}

func TestLeastWidth(t *testing.T) {
	for i, want := range []int{12, 7, 5, 4, 4, 4, 4, 4, 4, 4, 4, 4} {
		mustReturn(t, fmt.Sprint("LeastWidth of ", i+1), results(impl.LeastWidth(exampleBooks(), i+1)), want)
	}
	mustReturn(t, "LeastWidth of one book", results(impl.LeastWidth(sameBooks(5, 8, 1), 1)), 5)
	m := &mixer{state: 14}
	for range 80 {
		books := m.books(m.next(1, 7), m.next(1, 9), 5)
		for shelves := 1; shelves <= impl.MaxBooks; shelves++ {
			mustReturn(t, fmt.Sprintf("LeastWidth of %v on %d shelves", books, shelves), results(impl.LeastWidth(books, shelves)), leastWidthInModel(books, shelves))
		}
	}
}

func TestLeastWidthRequiresShelves(t *testing.T) {
	for _, shelves := range []int{0, -1, impl.MaxBooks + 1, math.MinInt, math.MaxInt} {
		mustFail(t, fmt.Sprint("LeastWidth of ", shelves), results(impl.LeastWidth(exampleBooks(), shelves)))
	}
}

func TestShelfOfBook(t *testing.T) {
	for k, want := range []int{0, 1, 1, 2} {
		mustReturn(t, fmt.Sprint("ShelfOfBook ", k), results(impl.ShelfOfBook(exampleBooks(), 7, []int{0, 1, 3}, k)), want)
	}
	for _, k := range []int{-1, 4, 5, impl.MaxBooks, math.MinInt, math.MaxInt} {
		mustFail(t, fmt.Sprint("ShelfOfBook ", k), results(impl.ShelfOfBook(exampleBooks(), 7, []int{0, 1, 3}, k)))
	}
}

func TestTallestFirst(t *testing.T) {
	cases := map[string]string{
		"5|8":                         "5|8",
		"3|5,4|2,2|2,3|6":             "3|6,3|5,4|2,2|2",
		"1|2,2|2,3|2,4|2":             "1|2,2|2,3|2,4|2",
		"4|2,3|2,2|2,1|2":             "4|2,3|2,2|2,1|2",
		"9|1,1|9,9|1,1|9,5|5":         "1|9,1|9,5|5,9|1,9|1",
		"1|1,2|1,3|2,4|1,5|2,6|1,7|3": "7|3,3|2,5|2,1|1,2|1,4|1,6|1",
	}
	for text, want := range cases {
		books, _ := impl.ParseBooks(text)
		ordered, _ := impl.ParseBooks(want)
		mustReturn(t, "TallestFirst of "+text, results(impl.TallestFirst(books)), ordered)
	}
	m := &mixer{state: 15}
	for range 300 {
		books := m.books(m.next(1, impl.MaxBooks), impl.MaxThick, m.next(1, 5))
		mustReturn(t, fmt.Sprint("TallestFirst of ", books), results(impl.TallestFirst(books)), tallestFirstInModel(books))
	}
}

func TestMoveBookByHand(t *testing.T) {
	cases := []struct {
		from, to int
		want     string
	}{
		{0, 3, "4|2,2|2,3|6,3|5"}, {3, 0, "3|6,3|5,4|2,2|2"}, {1, 2, "3|5,2|2,4|2,3|6"}, {2, 1, "3|5,2|2,4|2,3|6"},
		{0, 0, "3|5,4|2,2|2,3|6"}, {2, 2, "3|5,4|2,2|2,3|6"}, {3, 3, "3|5,4|2,2|2,3|6"}, {0, 2, "4|2,2|2,3|5,3|6"},
	}
	for _, c := range cases {
		want, _ := impl.ParseBooks(c.want)
		mustReturn(t, fmt.Sprintf("MoveBook %d to %d", c.from, c.to), results(impl.MoveBook(exampleBooks(), c.from, c.to)), want)
	}
	mustReturn(t, "MoveBook of one", results(impl.MoveBook(sameBooks(5, 8, 1), 0, 0)), sameBooks(5, 8, 1))
}

func TestMoveBookFollowsTheModel(t *testing.T) {
	m := &mixer{state: 16}
	for n := 1; n <= impl.MaxBooks; n++ {
		books := m.books(n, impl.MaxThick, impl.MaxThick)
		for from := range n {
			for to := range n {
				mustReturn(t, fmt.Sprintf("MoveBook %d to %d of %v", from, to, books), results(impl.MoveBook(books, from, to)), moveInModel(books, from, to))
			}
		}
	}
}

func TestMoveBookRequiresIndices(t *testing.T) {
	for _, bad := range []int{-1, 4, 5, impl.MaxBooks, math.MinInt, math.MaxInt} {
		mustFail(t, fmt.Sprint("MoveBook from ", bad), results(impl.MoveBook(exampleBooks(), bad, 0)))
		mustFail(t, fmt.Sprint("MoveBook to ", bad), results(impl.MoveBook(exampleBooks(), 0, bad)))
		mustFail(t, fmt.Sprint("MoveBook from and to ", bad), results(impl.MoveBook(exampleBooks(), bad, bad)))
	}
}

func TestBooksTexts(t *testing.T) {
	texts := map[string][]impl.Book{
		"1|1":                                  sameBooks(1, 1, 1),
		"100|100":                              sameBooks(100, 100, 1),
		"10|99":                                sameBooks(10, 99, 1),
		strings.Repeat("1|100,", 11) + "1|100": sameBooks(1, 100, 12),
		strings.Repeat("100|100,", 11) + "100|100": sameBooks(100, 100, 12),
	}
	m := &mixer{state: 17}
	next := func() []impl.Book { return m.books(m.next(1, impl.MaxBooks), impl.MaxThick, impl.MaxThick) }
	mustBeTexts(t, texts, next, impl.ParseBooks, impl.BooksText)
}

func TestTextsThatAreNoBooks(t *testing.T) {
	texts := []string{
		"", ",", "|", "3", "3|", "|5", "3|5,", ",3|5", "3|5,,4|2", "3|5|4", "3||5", "3|5,4", "3|5,4|", "3|5|4|2", "3,5|4,2",
		"0|5", "3|0", "101|5", "3|101", "-3|5", "3|-5", "+3|5", "3|+5", "03|5", "3|05", "00|5", " 3|5", "3|5 ", "3 |5", "3|5, 4|2",
		"3|5;4|2", "3/5", "3.0|5", "0x3|5", "3_0|5", "a|5", "3|b", "3|5\n", "\x00", "\xff", "٣|٥", "3¦5", "3|5,4|2,2|2,3|6,",
		"99999999999999999999|1", "1|18446744073709551617", "-9223372036854775808|1",
		strings.Repeat("1|1,", 12) + "1|1", strings.Repeat("1|1,", 13) + "1|1",
		strings.Repeat("1|1,", 100000) + "1|1", strings.Repeat("1|", 100000) + "1", strings.Repeat("0", 100000) + "1|1",
		strings.Repeat(",", 100000), strings.Repeat("|", 100000), strings.Repeat("9", 100000) + "|1",
	}
	for _, text := range texts {
		mustFail(t, fmt.Sprintf("ParseBooks of %.40q", text), results(impl.ParseBooks(text)))
	}
}

func TestBooksTextsOfShortStrings(t *testing.T) {
	isText := regexp.MustCompile(`^([1-9]\d?|100)\|([1-9]\d?|100)(,([1-9]\d?|100)\|([1-9]\d?|100))*$`)
	mustParseTexts(t, "01|,-+", 7, isText.MatchString, impl.ParseBooks, impl.BooksText)
}
