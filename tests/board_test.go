package tests

import (
	"fmt"
	"math/big"
	"regexp"
	"slices"
	"strings"
	"testing"

	"loop.example/g01334/impl"
)

func pieceOf(wide, high, value int) impl.Piece {
	return impl.Piece{Wide: wide, High: high, Value: value}
}

// examplePieces are 2x1=3,3x3=8.
func examplePieces() []impl.Piece { return []impl.Piece{pieceOf(2, 1, 3), pieceOf(3, 3, 8)} }

// samePieces returns n times the same piece.
func samePieces(wide, high, value, n int) []impl.Piece {
	return slices.Repeat([]impl.Piece{pieceOf(wide, high, value)}, n)
}

// board returns one of at most so many sides.
func (m *mixer) board(most int) boardInModel { return boardInModel{m.next(1, most), m.next(1, most)} }

// pieces returns n pieces with at most such sides and values.
func (m *mixer) pieces(n, most, value int) []impl.Piece {
	pieces := make([]impl.Piece, n)
	for kind := range pieces {
		pieces[kind] = pieceOf(m.next(1, most), m.next(1, most), m.next(0, value))
	}
	return pieces
}

// evenPieces returns n pieces that are worth much the same by their areas, so that many cuts are equally good.
func (m *mixer) evenPieces(n, most int) []impl.Piece {
	pieces := m.pieces(n, most, 0)
	for kind, p := range pieces {
		pieces[kind].Value = max(0, p.Wide*p.High+m.next(-1, 1)*m.next(0, 1))
	}
	return pieces
}

// eachSmallBoard visits boards and pieces that are so small that all heaps of pieces can be tried.
func eachSmallBoard(visit func(b boardInModel, pieces []impl.Piece, turned bool)) {
	visitBoth := func(b boardInModel, pieces []impl.Piece) {
		visit(b, pieces, false)
		visit(b, pieces, true)
	}
	for n := 1; n <= 2; n++ {
		eachList(n, 0, 17, func(kinds []int) {
			pieces := make([]impl.Piece, n)
			for i, kind := range kinds {
				pieces[i] = pieceOf(kind%3+1, kind/3%3+1, kind/9*(kind%3+1)*(kind/3%3+1))
			}
			eachBoard(3, func(b boardInModel) { visitBoth(b, pieces) })
		})
	}
	m := &mixer{state: 54}
	for range 100 {
		visitBoth(m.board(4), m.pieces(m.next(1, 3), 4, 5))
		visitBoth(m.board(4), m.evenPieces(m.next(1, 3), 3))
		visitBoth(m.board(6), m.pieces(1, 5, 5))
		visitBoth(m.board(5), append(m.pieces(2, 3, 9), pieceOf(2, 2, m.next(0, 12)), pieceOf(3, 2, m.next(0, 12))))
	}
}

// eachBoardSample visits boards and pieces of all sizes.
func eachBoardSample(visit func(b boardInModel, pieces []impl.Piece, turned bool)) {
	m := &mixer{state: 55}
	visitBoth := func(pieces []impl.Piece) {
		visit(m.board(impl.MaxBoard), pieces, false)
		visit(m.board(impl.MaxBoard), pieces, true)
	}
	for range 30 {
		visitBoth(m.pieces(m.next(1, impl.MaxPieces), 4, 20))
		visitBoth(m.pieces(m.next(1, impl.MaxPieces), 9, impl.MaxValue))
		visitBoth(m.pieces(m.next(1, impl.MaxPieces), impl.MaxBoard, impl.MaxValue))
		visitBoth(m.evenPieces(m.next(1, impl.MaxPieces), 7))
		visitBoth(m.evenPieces(m.next(1, impl.MaxPieces), 12))
	}
	for _, turned := range []bool{false, true} {
		visit(boardInModel{24, 24}, m.pieces(4, 7, 100), turned)
		visit(boardInModel{24, 24}, m.evenPieces(4, 9), turned)
		visit(boardInModel{24, 24}, samePieces(1, 1, impl.MaxValue, 4), turned)
		visit(boardInModel{24, 24}, samePieces(24, 24, impl.MaxValue, 4), turned)
		visit(boardInModel{24, 24}, samePieces(5, 3, 0, 4), turned)
	}
}

func TestBoardExample(t *testing.T) {
	pieces := examplePieces()
	mustReturn(t, "EuclidSquares", results(impl.EuclidSquares(6, 5)), []int{5, 1, 1, 1, 1, 1})
	mustReturn(t, "FewestSquares", results(impl.FewestSquares(6, 5)), 5)
	mustReturn(t, "SquaresByCuts", results(impl.SquaresByCuts(6, 5)), []int{3, 3, 2, 2, 2})
	mustReturn(t, "CutsToSquares", results(impl.CutsToSquares(6, 5)), 4)
	mustReturn(t, "CountCuttings of 2 and 2", results(impl.CountCuttings(2, 2)), 2)
	mustReturn(t, "CountCuttings of 3 and 1", results(impl.CountCuttings(3, 1)), 2)
	mustReturn(t, "GreatestTiles", results(impl.GreatestTiles(6, 4)), 2, 6)
	mustReturn(t, "ParsePieces", results(impl.ParsePieces("2x1=3,3x3=8")), pieces)
	mustReturn(t, "PiecesText", results(impl.PiecesText(pieces)), "2x1=3,3x3=8")
	mustReturn(t, "BestValue", results(impl.BestValue(5, 3, pieces, false)), 18)
	mustReturn(t, "PiecesCut", results(impl.PiecesCut(5, 3, pieces, false)), []int{6, 0})
	mustReturn(t, "BestValue, turned", results(impl.BestValue(5, 3, pieces, true)), 21)
	mustReturn(t, "MostOfOne", results(impl.MostOfOne(5, 4, pieceOf(3, 2, 0), true)), 3)
}

func TestArePieces(t *testing.T) {
	good := [][]impl.Piece{
		examplePieces(), {pieceOf(1, 1, 0)}, {pieceOf(24, 24, 1000)}, {pieceOf(1, 24, 0)}, {pieceOf(24, 1, 0)}, {pieceOf(1, 1, 1000)},
		samePieces(1, 1, 0, 4), samePieces(24, 24, 1000, 4), samePieces(3, 2, 5, 3), {pieceOf(1, 2, 3), pieceOf(2, 1, 3)},
	}
	mustTellApart(t, "ArePieces", impl.ArePieces, good, badPieces())
}

func TestSquaresByHand(t *testing.T) {
	cases := []struct {
		wide, high   int
		euclid, cuts []int
		side, tiles  int
	}{
		{1, 1, []int{1}, []int{1}, 1, 1},
		{2, 2, []int{2}, []int{2}, 2, 1},
		{24, 24, []int{24}, []int{24}, 24, 1},
		{2, 1, []int{1, 1}, []int{1, 1}, 1, 2},
		{1, 2, []int{1, 1}, []int{1, 1}, 1, 2},
		{24, 1, repeated(1, 24), repeated(1, 24), 1, 24},
		{1, 24, repeated(1, 24), repeated(1, 24), 1, 24},
		{3, 2, []int{2, 1, 1}, []int{2, 1, 1}, 1, 6},
		{6, 4, []int{4, 2, 2}, []int{4, 2, 2}, 2, 6},
		{4, 6, []int{4, 2, 2}, []int{4, 2, 2}, 2, 6},
		{24, 12, []int{12, 12}, []int{12, 12}, 12, 2},
		{24, 18, []int{18, 6, 6, 6}, []int{18, 6, 6, 6}, 6, 12},
		{16, 24, []int{16, 8, 8}, []int{16, 8, 8}, 8, 6},
		// The greatest squares first are not the fewest.
		{6, 5, []int{5, 1, 1, 1, 1, 1}, []int{3, 3, 2, 2, 2}, 1, 30},
		{5, 6, []int{5, 1, 1, 1, 1, 1}, []int{3, 3, 2, 2, 2}, 1, 30},
		{12, 10, []int{10, 2, 2, 2, 2, 2}, []int{6, 6, 4, 4, 4}, 2, 30},
		{7, 6, []int{6, 1, 1, 1, 1, 1, 1}, []int{4, 3, 3, 2, 2}, 1, 42},
		{24, 23, append([]int{23}, repeated(1, 23)...), []int{15, 9, 8, 8, 8, 6, 3, 3}, 1, 552},
		{23, 24, append([]int{23}, repeated(1, 23)...), []int{15, 9, 8, 8, 8, 6, 3, 3}, 1, 552},
		// Six squares fill this board, 7, 6, 5, 4, 4 and 1, but not by cuts alone.
		{13, 11, []int{11, 2, 2, 2, 2, 2, 1, 1}, []int{11, 2, 2, 2, 2, 2, 1, 1}, 1, 143},
		{11, 13, []int{11, 2, 2, 2, 2, 2, 1, 1}, []int{11, 2, 2, 2, 2, 2, 1, 1}, 1, 143},
		// Upright cuts come first: the same board turned is cut otherwise.
		{15, 8, []int{8, 7, 1, 1, 1, 1, 1, 1, 1}, []int{8, 4, 4, 3, 3, 2, 1, 1}, 1, 120},
		{8, 15, []int{8, 7, 1, 1, 1, 1, 1, 1, 1}, []int{5, 5, 5, 3, 3, 3, 3, 3}, 1, 120},
		// Lesser first parts come first: 8, 5, 5, 2, 2, 2, 2 are as few.
		{10, 13, []int{10, 3, 3, 3, 1, 1, 1}, []int{10, 3, 3, 3, 1, 1, 1}, 1, 130},
		{17, 10, []int{10, 7, 3, 3, 1, 1, 1}, []int{6, 6, 5, 5, 4, 4, 4}, 1, 170},
	}
	for _, c := range cases {
		name := fmt.Sprintf(" of %d and %d", c.wide, c.high)
		mustReturn(t, "EuclidSquares"+name, results(impl.EuclidSquares(c.wide, c.high)), c.euclid)
		mustReturn(t, "FewestSquares"+name, results(impl.FewestSquares(c.wide, c.high)), len(c.cuts))
		mustReturn(t, "SquaresByCuts"+name, results(impl.SquaresByCuts(c.wide, c.high)), c.cuts)
		mustReturn(t, "CutsToSquares"+name, results(impl.CutsToSquares(c.wide, c.high)), len(c.cuts)-1)
		mustReturn(t, "GreatestTiles"+name, results(impl.GreatestTiles(c.wide, c.high)), c.side, c.tiles)
	}
}

func TestCuttingsByHand(t *testing.T) {
	ways := map[boardInModel]int{
		{1, 1}: 1, {2, 1}: 1, {1, 2}: 1, {3, 1}: 2, {1, 3}: 2, {4, 1}: 5, {5, 1}: 14, {2, 2}: 2, {3, 2}: 8, {2, 3}: 8, {4, 2}: 45, {3, 3}: 64,
		{24, 1}: 343059613650, {1, 24}: 343059613650, {16, 2}: 116415004485341, {2, 16}: 116415004485341,
		// No boards come nearer to the limit than these and the first of those that are too many.
		{7, 6}: 834902605028992, {6, 7}: 834902605028992,
	}
	for b, want := range ways {
		mustReturn(t, fmt.Sprint("CountCuttings of ", b), results(impl.CountCuttings(b.wide, b.high)), want)
	}
	// The ways to cut 17 and 2 are 1542159446884430.
	for _, b := range []boardInModel{{17, 2}, {2, 17}, {10, 4}, {4, 10}, {7, 7}, {8, 6}, {24, 2}, {2, 24}, {24, 23}, {24, 24}} {
		mustFail(t, fmt.Sprint("CountCuttings of ", b), results(impl.CountCuttings(b.wide, b.high)))
	}
}

func TestSquaresFollowTheModel(t *testing.T) {
	squares := squaresInModel{}
	ways := cuttingsInModel{}
	most := big.NewInt(impl.MaxCuttings)
	eachBoard(impl.MaxBoard, func(b boardInModel) {
		name := fmt.Sprintf(" of %d and %d", b.wide, b.high)
		side, tiles := tilesInModel(b)
		mustReturn(t, "EuclidSquares"+name, results(impl.EuclidSquares(b.wide, b.high)), greatestSquaresInModel(b))
		mustReturn(t, "FewestSquares"+name, results(impl.FewestSquares(b.wide, b.high)), squares.of(b))
		mustReturn(t, "SquaresByCuts"+name, results(impl.SquaresByCuts(b.wide, b.high)), squares.squares(b))
		mustReturn(t, "CutsToSquares"+name, results(impl.CutsToSquares(b.wide, b.high)), squares.of(b)-1)
		mustReturn(t, "GreatestTiles"+name, results(impl.GreatestTiles(b.wide, b.high)), side, tiles)
		if ways.of(b).Cmp(most) > 0 {
			mustFail(t, "CountCuttings"+name, results(impl.CountCuttings(b.wide, b.high)))
		} else {
			mustReturn(t, "CountCuttings"+name, results(impl.CountCuttings(b.wide, b.high)), int(ways.of(b).Int64()))
		}
	})
}

// TestSquaresAreAllOfTheBoard is the first part of promise 7.
func TestSquaresAreAllOfTheBoard(t *testing.T) {
	eachBoard(impl.MaxBoard, func(b boardInModel) {
		name := fmt.Sprintf(" of %d and %d", b.wide, b.high)
		euclid, _ := impl.EuclidSquares(b.wide, b.high)
		byCuts, _ := impl.SquaresByCuts(b.wide, b.high)
		for _, list := range [][]int{euclid, byCuts} {
			area := 0
			for i, side := range list {
				area += side * side
				if side < 1 || i > 0 && list[i-1] < side {
					t.Errorf("squares%s are %v", name, list)
				}
			}
			if area != b.area() {
				t.Errorf("squares%s are %v, together %d", name, list, area)
			}
		}
		if len(byCuts) > len(euclid) {
			t.Errorf("SquaresByCuts%s are %v, and EuclidSquares %v", name, byCuts, euclid)
		}
		mustReturn(t, "FewestSquares"+name, results(impl.FewestSquares(b.wide, b.high)), len(byCuts))
		mustReturn(t, "FewestSquares turned"+name, results(impl.FewestSquares(b.high, b.wide)), len(byCuts))
		side, tiles, ok := impl.GreatestTiles(b.wide, b.high)
		if !ok || side*side*tiles != b.area() || b.wide%side != 0 || b.high%side != 0 {
			t.Errorf("GreatestTiles%s are %d of %d", name, tiles, side)
		}
	})
}

// TestFewestSquaresOfAllPartings tries all ways to part small boards.
func TestFewestSquaresOfAllPartings(t *testing.T) {
	partings := partingsInModel{}
	eachBoard(6, func(b boardInModel) {
		fewest := b.area()
		for counts := range partings.of(b) {
			fewest = min(fewest, sum(counts[:]))
		}
		name := fmt.Sprintf(" of %d and %d", b.wide, b.high)
		mustReturn(t, "FewestSquares"+name, results(impl.FewestSquares(b.wide, b.high)), fewest)
		byCuts, _ := impl.SquaresByCuts(b.wide, b.high)
		counts := heap{}
		for _, side := range byCuts {
			counts[side-1]++
		}
		if !partings.of(b)[counts] {
			t.Errorf("SquaresByCuts%s are %v, into which no cuts part it", name, byCuts)
		}
	})
}

// valueCase tells what the functions of a board and pieces return. A first cut of 0 tells that there is none.
type valueCase struct {
	text       string
	wide, high int
	turned     bool
	value      int
	upright    bool
	part       int
	counts     []int
	waste      int
	all        bool
}

func valueCases() []valueCase {
	return []valueCase{
		{"2x1=3,3x3=8", 5, 3, false, 18, true, 1, []int{6, 0}, 3, true},
		{"2x1=3,3x3=8", 5, 3, true, 21, true, 1, []int{7, 0}, 1, true},
		// The least board: just a piece, one that is worth nothing, or too small for any piece.
		{"1x1=1000", 1, 1, false, 1000, false, 0, []int{1}, 0, true},
		{"1x1=0", 1, 1, false, 0, false, 0, []int{0}, 1, true},
		{"2x1=5", 1, 1, false, 0, false, 0, []int{0}, 1, false},
		{"2x1=5", 1, 1, true, 0, false, 0, []int{0}, 1, false},
		// Pieces that fit only if they are turned.
		{"3x2=7", 2, 3, false, 0, false, 0, []int{0}, 6, false},
		{"3x2=7", 2, 3, true, 7, false, 0, []int{1}, 0, true},
		{"3x2=7", 3, 2, false, 7, false, 0, []int{1}, 0, true},
		{"3x2=7", 3, 2, true, 7, false, 0, []int{1}, 0, true},
		{"1x24=9", 24, 1, false, 0, false, 0, []int{0}, 24, false},
		{"1x24=9", 24, 1, true, 9, false, 0, []int{1}, 0, true},
		{"1x24=9", 24, 3, true, 27, false, 1, []int{3}, 0, true},
		// A board that is a piece with more, with just as much, and with less than what can be cut out of it.
		{"4x2=7,2x2=3", 4, 2, false, 7, false, 0, []int{1, 0}, 0, true},
		{"4x2=6,2x2=3", 4, 2, false, 6, false, 0, []int{1, 0}, 0, true},
		{"4x2=5,2x2=3", 4, 2, false, 6, true, 2, []int{0, 2}, 0, true},
		{"2x4=6,2x2=3", 4, 2, false, 6, true, 2, []int{0, 2}, 0, true},
		{"2x4=6,2x2=3", 4, 2, true, 6, false, 0, []int{1, 0}, 0, true},
		{"4x2=0,2x2=0", 4, 2, false, 0, false, 0, []int{0, 0}, 8, true},
		{"3x3=0,4x4=9", 3, 3, true, 0, false, 0, []int{0, 0}, 9, true},
		// Equal pieces, and some with other Values: the first kind with the value counts.
		{"2x2=4,1x1=1,2x2=4", 2, 2, false, 4, false, 0, []int{1, 0, 0}, 0, true},
		{"1x1=1,2x2=3,2x2=4,2x2=4", 2, 2, false, 4, false, 0, []int{0, 0, 1, 0}, 0, true},
		{"1x1=1,2x2=4,2x2=4,2x2=5", 2, 2, false, 5, false, 0, []int{0, 0, 0, 1}, 0, true},
		{"1x2=3,2x1=3", 2, 1, false, 3, false, 0, []int{0, 1}, 0, true},
		{"1x2=3,2x1=3", 2, 1, true, 3, false, 0, []int{1, 0}, 0, true},
		{"5x5=2,5x5=2,5x5=2,5x5=2", 10, 5, false, 4, true, 5, []int{2, 0, 0, 0}, 0, true},
		// Two cuts are equally good: upright ones come first, then those with a lesser first part.
		{"1x1=1", 2, 2, false, 4, true, 1, []int{4}, 0, true},
		{"1x1=1", 1, 5, false, 5, false, 1, []int{5}, 0, true},
		{"2x2=4,1x1=1", 3, 3, false, 9, true, 1, []int{0, 9}, 0, true},
		{"2x2=4,1x1=1", 4, 4, false, 16, true, 1, []int{0, 16}, 0, true},
		{"2x2=5,1x1=1", 4, 4, false, 20, true, 2, []int{4, 0}, 0, true},
		{"3x1=5,2x1=3", 7, 1, false, 11, true, 2, []int{1, 2}, 0, true},
		{"3x1=5,2x1=3", 1, 7, false, 0, false, 0, []int{0, 0}, 7, false},
		{"3x1=5,2x1=3", 1, 7, true, 11, false, 2, []int{1, 2}, 0, true},
		// A level cut alone is good.
		{"5x2=9,5x3=8", 5, 5, false, 18, false, 1, []int{2, 0}, 5, true},
		{"5x2=9,5x3=10", 5, 5, false, 19, false, 2, []int{1, 1}, 0, true},
		{"2x5=9,3x5=10", 5, 5, false, 19, true, 2, []int{1, 1}, 0, true},
		// Four of these fit into the board, but only three by cuts from side to side.
		{"3x2=1", 5, 5, true, 3, true, 1, []int{3}, 7, false},
		{"3x2=1", 5, 5, false, 2, true, 1, []int{2}, 13, false},
		// The value leaves waste, while pieces that are worth less would leave none.
		{"2x2=9,3x3=1", 3, 3, false, 9, true, 1, []int{1, 0}, 5, true},
		{"2x2=9,1x1=0", 3, 3, false, 9, true, 1, []int{1, 0}, 5, true},
		// The greatest boards.
		{"1x1=1000", 24, 24, false, 576000, true, 1, []int{576}, 0, true},
		{"24x24=1000", 24, 24, true, 1000, false, 0, []int{1}, 0, true},
		{"24x24=1000", 23, 24, true, 0, false, 0, []int{0}, 552, false},
		{"24x24=999,12x12=250,8x8=1,1x1=1", 24, 24, false, 1000, true, 12, []int{0, 4, 0, 0}, 0, true},
		{"24x24=1000,12x12=250,8x8=1,1x1=1", 24, 24, false, 1000, false, 0, []int{1, 0, 0, 0}, 0, true},
		{"5x5=7", 24, 24, false, 112, true, 1, []int{16}, 176, false},
		{"1x1=0", 24, 24, true, 0, false, 0, []int{0}, 576, true},
	}
}

func TestValuesByHand(t *testing.T) {
	for _, c := range valueCases() {
		pieces, ok := impl.ParsePieces(c.text)
		if !ok {
			t.Fatalf("%s are no pieces", c.text)
		}
		name := fmt.Sprintf(" of %d and %d by %s, turned %v", c.wide, c.high, c.text, c.turned)
		mustReturn(t, "BestValue"+name, results(impl.BestValue(c.wide, c.high, pieces, c.turned)), c.value)
		mustReturn(t, "PiecesCut"+name, results(impl.PiecesCut(c.wide, c.high, pieces, c.turned)), c.counts)
		mustReturn(t, "WasteOf"+name, results(impl.WasteOf(c.wide, c.high, pieces, c.turned)), c.waste)
		mustReturn(t, "CanCutAll"+name, results(impl.CanCutAll(c.wide, c.high, pieces, c.turned)), c.all)
		cut := results(impl.FirstCut(c.wide, c.high, pieces, c.turned))
		if c.part == 0 {
			mustFail(t, "FirstCut"+name, cut)
		} else {
			mustReturn(t, "FirstCut"+name, cut, c.upright, c.part)
		}
	}
}

func TestMostOfOneByHand(t *testing.T) {
	cases := []struct {
		wide, high int
		p          impl.Piece
		level      int
		turned     int
	}{
		{5, 4, pieceOf(3, 2, 0), 2, 3},
		{5, 5, pieceOf(3, 2, 0), 2, 3},
		{1, 1, pieceOf(1, 1, 0), 1, 1},
		{1, 1, pieceOf(2, 1, 5), 0, 0},
		{1, 3, pieceOf(2, 1, 5), 0, 1},
		{2, 3, pieceOf(3, 2, 1000), 0, 1},
		{3, 3, pieceOf(2, 1, 1), 3, 4},
		{4, 4, pieceOf(2, 2, 7), 4, 4},
		{5, 5, pieceOf(2, 2, 7), 4, 4},
		{24, 1, pieceOf(1, 24, 7), 0, 1},
		{24, 24, pieceOf(1, 1, 1000), 576, 576},
		{24, 24, pieceOf(24, 24, 1000), 1, 1},
		{24, 23, pieceOf(24, 24, 1000), 0, 0},
		{24, 24, pieceOf(5, 5, 0), 16, 16},
		{24, 24, pieceOf(13, 1, 0), 24, 35},
	}
	for _, c := range cases {
		// The piece may have any Value that a piece can have.
		for _, value := range []int{c.p.Value, 0, 1, 2, 999, impl.MaxValue} {
			p := pieceOf(c.p.Wide, c.p.High, value)
			name := fmt.Sprintf("MostOfOne of %d and %d by %v", c.wide, c.high, p)
			mustReturn(t, name, results(impl.MostOfOne(c.wide, c.high, p, false)), c.level)
			mustReturn(t, name+", turned", results(impl.MostOfOne(c.wide, c.high, p, true)), c.turned)
		}
	}
}

func TestValueTablesByHand(t *testing.T) {
	straight, turned, cubes := make([]int, 24), make([]int, 24), make([]int, 24)
	for i := range 24 {
		// In 5 and so much, two of 2 and 1 side by side, or as many as there is room for if they may be turned.
		straight[i], turned[i], cubes[i] = 6*(i+1), 3*(5*(i+1)/2), 1000*(i+1)
	}
	mustReturn(t, "ValueTable of 5", results(impl.ValueTable(5, examplePieces(), false)), straight)
	mustReturn(t, "ValueTable of 5, turned", results(impl.ValueTable(5, examplePieces(), true)), turned)
	mustReturn(t, "ValueTable of 1", results(impl.ValueTable(1, samePieces(1, 1, 1000, 1), false)), cubes)
	mustReturn(t, "ValueTable of 24", results(impl.ValueTable(24, samePieces(24, 24, 1000, 4), true)), append(repeated(0, 23), 1000))
	mustReturn(t, "ValueTable of 23", results(impl.ValueTable(23, samePieces(24, 24, 1000, 4), true)), repeated(0, 24))
	mustReturn(t, "ValueTable of 2", results(impl.ValueTable(2, []impl.Piece{pieceOf(3, 1, 5), pieceOf(2, 20, 9)}, false)), append(repeated(0, 19), repeated(9, 5)...))
}

func TestTurnedPiecesByHand(t *testing.T) {
	mustReturn(t, "TurnPieces", results(impl.TurnPieces(examplePieces())), []impl.Piece{pieceOf(1, 2, 3), pieceOf(3, 3, 8)})
	four := []impl.Piece{pieceOf(1, 24, 0), pieceOf(24, 1, 1000), pieceOf(7, 7, 7), pieceOf(1, 24, 0)}
	mustReturn(t, "TurnPieces of four", results(impl.TurnPieces(four)), []impl.Piece{pieceOf(24, 1, 0), pieceOf(1, 24, 1000), pieceOf(7, 7, 7), pieceOf(24, 1, 0)})
}

// TestValuesOfAllHeaps tries all heaps of pieces that can be cut out of small boards.
func TestValuesOfAllHeaps(t *testing.T) {
	eachSmallBoard(func(b boardInModel, pieces []impl.Piece, turned bool) {
		name := fmt.Sprintf(" of %v by %v, turned %v", b, pieces, turned)
		heaps := newHeapsInModel(pieces, turned)
		value := heaps.greatest(b, func(counts []int) int { return valueOfPieces(pieces, counts) })
		area := heaps.greatest(b, func(counts []int) int { return areaOfPieces(pieces, counts) })
		mustReturn(t, "BestValue"+name, results(impl.BestValue(b.wide, b.high, pieces, turned)), value)
		mustReturn(t, "CanCutAll"+name, results(impl.CanCutAll(b.wide, b.high, pieces, turned)), area == b.area())
		one := newHeapsInModel(pieces[:1], turned)
		mustReturn(t, "MostOfOne"+name, results(impl.MostOfOne(b.wide, b.high, pieces[0], turned)), one.greatest(b, sum))
		counts, ok := impl.PiecesCut(b.wide, b.high, pieces, turned)
		var cut heap
		copy(cut[:], counts)
		if !ok || !heaps.of(b)[cut] {
			t.Errorf("PiecesCut%s are %v, which no cuts make", name, counts)
		}
		checkValues(t, b, pieces, turned)
	})
}

func TestValuesFollowTheModel(t *testing.T) {
	eachBoardSample(func(b boardInModel, pieces []impl.Piece, turned bool) { checkValues(t, b, pieces, turned) })
}

// checkValues compares the functions of a board and pieces with the model.
func checkValues(t *testing.T, b boardInModel, pieces []impl.Piece, turned bool) {
	t.Helper()
	name := fmt.Sprintf(" of %v by %v, turned %v", b, pieces, turned)
	values := newValueInModel(pieces, turned)
	counts := values.cutOut(b)
	mustReturn(t, "BestValue"+name, results(impl.BestValue(b.wide, b.high, pieces, turned)), values.of(b))
	mustReturn(t, "PiecesCut"+name, results(impl.PiecesCut(b.wide, b.high, pieces, turned)), counts)
	mustReturn(t, "WasteOf"+name, results(impl.WasteOf(b.wide, b.high, pieces, turned)), b.area()-areaOfPieces(pieces, counts))
	if cut, ok := values.firstCut(b); ok {
		mustReturn(t, "FirstCut"+name, results(impl.FirstCut(b.wide, b.high, pieces, turned)), cut.upright, cut.part)
	} else {
		mustFail(t, "FirstCut"+name, results(impl.FirstCut(b.wide, b.high, pieces, turned)))
	}
}

// TestValueTablesFollowTheModel also checks pieces that are turned, and most of one piece.
func TestValueTablesFollowTheModel(t *testing.T) {
	eachBoardSample(func(b boardInModel, pieces []impl.Piece, turned bool) {
		name := fmt.Sprintf(" of %v by %v, turned %v", b, pieces, turned)
		values := newValueInModel(pieces, turned)
		table := make([]int, impl.MaxBoard)
		for i := range table {
			table[i] = values.of(boardInModel{b.wide, i + 1})
		}
		mustReturn(t, "ValueTable"+name, results(impl.ValueTable(b.wide, pieces, turned)), table)
		one := newValueInModel([]impl.Piece{pieceOf(pieces[0].Wide, pieces[0].High, 1)}, turned)
		mustReturn(t, "MostOfOne"+name, results(impl.MostOfOne(b.wide, b.high, pieces[0], turned)), one.of(b))
		other, ok := impl.TurnPieces(pieces)
		if !ok {
			t.Errorf("TurnPieces%s fails", name)
		}
		mustReturn(t, "TurnPieces twice"+name, results(impl.TurnPieces(other)), pieces)
		mustReturn(t, "BestValue of all turned"+name, results(impl.BestValue(b.high, b.wide, other, turned)), values.of(b))
	})
}

// TestAllCanBeCut checks larger boards: pieces worth their areas are worth the board just if nothing is left over.
func TestAllCanBeCut(t *testing.T) {
	m := &mixer{state: 56}
	seen := map[bool]int{}
	for range 60 {
		b, pieces, turned := m.board(impl.MaxBoard), m.pieces(m.next(1, impl.MaxPieces), 8, impl.MaxValue), m.next(0, 1) == 1
		byArea := slices.Clone(pieces)
		for kind, p := range byArea {
			byArea[kind].Value = p.Wide * p.High
		}
		all := newValueInModel(byArea, turned).of(b) == b.area()
		seen[all]++
		mustReturn(t, fmt.Sprintf("CanCutAll of %v by %v, turned %v", b, pieces, turned), results(impl.CanCutAll(b.wide, b.high, pieces, turned)), all)
	}
	if seen[true] < 10 || seen[false] < 10 {
		t.Errorf("the samples are too much alike: %v", seen)
	}
}

// TestValuesAreThoseOfThePiecesCut is the second part of promise 7.
func TestValuesAreThoseOfThePiecesCut(t *testing.T) {
	check := func(b boardInModel, pieces []impl.Piece, turned bool) {
		name := fmt.Sprintf(" of %v by %v, turned %v", b, pieces, turned)
		counts, _ := impl.PiecesCut(b.wide, b.high, pieces, turned)
		mustReturn(t, "BestValue"+name, results(impl.BestValue(b.wide, b.high, pieces, turned)), valueOfPieces(pieces, counts))
		mustReturn(t, "WasteOf"+name, results(impl.WasteOf(b.wide, b.high, pieces, turned)), b.area()-areaOfPieces(pieces, counts))
		upright, part, ok := impl.FirstCut(b.wide, b.high, pieces, turned)
		if !ok {
			return
		}
		first, rest := boardInModel{b.wide, part}, boardInModel{b.wide, b.high - part}
		if upright {
			first, rest = boardInModel{part, b.high}, boardInModel{b.wide - part, b.high}
		}
		inFirst, _ := impl.PiecesCut(first.wide, first.high, pieces, turned)
		inRest, _ := impl.PiecesCut(rest.wide, rest.high, pieces, turned)
		for kind := range pieces {
			inFirst[kind] += inRest[kind]
		}
		if part < 1 || first.area() > rest.area() || !slices.Equal(inFirst, counts) {
			t.Errorf("the first cut%s, upright %v at %d, makes %v and %v, and %v are cut", name, upright, part, inFirst, inRest, counts)
		}
	}
	eachSmallBoard(check)
	eachBoardSample(check)
}

func TestPiecesTexts(t *testing.T) {
	texts := map[string][]impl.Piece{
		"1x1=0":                       {pieceOf(1, 1, 0)},
		"24x24=1000":                  {pieceOf(24, 24, 1000)},
		"1x2=3":                       {pieceOf(1, 2, 3)},
		"10x20=100,3x1=0,3x1=0,9x9=9": {pieceOf(10, 20, 100), pieceOf(3, 1, 0), pieceOf(3, 1, 0), pieceOf(9, 9, 9)},
		"24x24=1000,24x24=1000,24x24=1000,24x24=1000": samePieces(24, 24, 1000, 4),
		"1x1=0,1x1=0,1x1=0,1x1=0":                     samePieces(1, 1, 0, 4),
	}
	m := &mixer{state: 57}
	next := func() []impl.Piece {
		return m.pieces(m.next(1, impl.MaxPieces), impl.MaxBoard, impl.MaxValue)
	}
	mustBeTexts(t, texts, next, impl.ParsePieces, impl.PiecesText)
}

func TestTextsThatAreNoPieces(t *testing.T) {
	texts := []string{
		"", ",", "x", "=", "x=", "1", "1x", "1x1", "1x1=", "x1=1", "1x=1", "=1", "1=1", "1x1=1,", ",1x1=1", "1x1=1,,2x2=2", "1x1=1,2x2", "1x1,2x2=2", "1,1,1",
		// The signs between the numbers are exchanged, or there is one more.
		"1x1x1", "1=1=1", "1=1x1", "1x1=1,1x1x1", "1x1=1,1=1x1", "1x1=1=1", "1x1x1=1", "1xx1=1", "1x1==1", "1x1=x1", "1x1x=1", "x1x1=1", "=1x1=1", "1x1=1x", "1x1=1=", "1x1=1x1",
		"0x1=1", "1x0=1", "25x1=1", "1x25=1", "100x1=1", "1x1=1001", "1x1=10000", "-1x1=1", "1x-1=1", "1x1=-1", "-0x1=1", "1x1=-0", "+1x1=1", "1x+1=1", "1x1=+1", "01x1=1", "1x01=1", "1x1=01", "1x1=00",
		" 1x1=1", "1x1=1 ", "1 x1=1", "1x1 =1", "1x1= 1", "1x1=1, 2x2=2", "1x1=1;2x2=2", "1X1=1", "1*1=1", "1×1=1", "1.1=1", "1x1:1", "1e0x1=1", "0x1x1=1", "1_0x1=1", "axb=c", "1x1=c", "1x1=1\n", "\x00", "\xff", "١x١=١",
		"99999999999999999999x1=1", "1x18446744073709551617=1", "1x1=18446744073709551616", "1x1=-9223372036854775808",
		"1x1=1,1x1=1,1x1=1,1x1=1,1x1=1", strings.Repeat("1x1=1,", 100000) + "1x1=1",
		strings.Repeat("1x", 100000) + "1=1", "1x1" + strings.Repeat("=1", 100000), strings.Repeat("0", 100000) + "1x1=1",
		strings.Repeat(",", 100000), strings.Repeat("x", 100000), strings.Repeat("=", 100000), strings.Repeat("9", 100000) + "x1=1",
	}
	for _, text := range texts {
		mustFail(t, fmt.Sprintf("ParsePieces of %.40q", text), results(impl.ParsePieces(text)))
	}
}

func TestPiecesTextsOfShortStrings(t *testing.T) {
	// A text of two pieces has eleven bytes at least.
	isText := regexp.MustCompile(`^([1-9]|1\d|2[0-4])x([1-9]|1\d|2[0-4])=(0|[1-9]\d{0,2}|1000)$`)
	mustParseTexts(t, "024x=,", 7, isText.MatchString, impl.ParsePieces, impl.PiecesText)
}
