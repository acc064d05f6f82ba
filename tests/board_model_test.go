package tests

import (
	"math/big"
	"slices"

	"loop.example/g01334/impl"
)

// The model of chapter 7 follows the document word by word and tries all cuts: it is what the program is compared with.

type boardInModel struct{ wide, high int }

func (b boardInModel) area() int { return b.wide * b.high }

// cutInModel is a cut, and the two boards of it.
type cutInModel struct {
	upright     bool
	part        int
	first, rest boardInModel
}

// boardCutsInModel returns all cuts of a board: upright ones first, then those with a lesser first part.
func boardCutsInModel(b boardInModel) []cutInModel {
	var cuts []cutInModel
	for part := 1; part < b.wide; part++ {
		cuts = append(cuts, cutInModel{true, part, boardInModel{part, b.high}, boardInModel{b.wide - part, b.high}})
	}
	for part := 1; part < b.high; part++ {
		cuts = append(cuts, cutInModel{false, part, boardInModel{b.wide, part}, boardInModel{b.wide, b.high - part}})
	}
	return cuts
}

// eachBoard calls visit with all boards that are at most so wide and so high.
func eachBoard(most int, visit func(b boardInModel)) {
	for wide := 1; wide <= most; wide++ {
		for high := 1; high <= most; high++ {
			visit(boardInModel{wide, high})
		}
	}
}

// greatestSquaresInModel cuts off a square from that end from which it can be.
func greatestSquaresInModel(b boardInModel) []int {
	switch {
	case b.wide == b.high:
		return []int{b.wide}
	case b.wide > b.high:
		return append([]int{b.high}, greatestSquaresInModel(boardInModel{b.wide - b.high, b.high})...)
	default:
		return append([]int{b.wide}, greatestSquaresInModel(boardInModel{b.wide, b.high - b.wide})...)
	}
}

// squaresInModel tells the fewest squares of boards, each one looked for once.
type squaresInModel map[boardInModel]int

func (m squaresInModel) of(b boardInModel) int {
	if b.wide == b.high {
		return 1
	}
	if m[b] == 0 {
		fewest := b.area()
		for _, cut := range boardCutsInModel(b) {
			fewest = min(fewest, m.of(cut.first)+m.of(cut.rest))
		}
		m[b] = fewest
	}
	return m[b]
}

// squares returns the sides of the fewest squares, greatest first.
func (m squaresInModel) squares(b boardInModel) []int {
	if b.wide == b.high {
		return []int{b.wide}
	}
	for _, cut := range boardCutsInModel(b) {
		if m.of(cut.first)+m.of(cut.rest) == m.of(b) {
			squares := append(m.squares(cut.first), m.squares(cut.rest)...)
			slices.SortFunc(squares, func(a, b int) int { return b - a })
			return squares
		}
	}
	return nil
}

// heap tells how many there are of each kind: of pieces, or of squares by their sides, 1 to 6.
type heap [6]int

// addHeaps adds to all heaps what a heap of each of two boards is together.
func addHeaps(all, firsts, rests map[heap]bool) {
	for first := range firsts {
		for rest := range rests {
			both := first
			for kind := range rest {
				both[kind] += rest[kind]
			}
			all[both] = true
		}
	}
}

// partingsInModel tells all squares into which boards of at most 6 and 6 can be parted.
type partingsInModel map[boardInModel]map[heap]bool

func (m partingsInModel) of(b boardInModel) map[heap]bool {
	if m[b] == nil {
		all := map[heap]bool{}
		if b.wide == b.high {
			one := heap{}
			one[b.wide-1] = 1
			all[one] = true
		}
		for _, cut := range boardCutsInModel(b) {
			addHeaps(all, m.of(cut.first), m.of(cut.rest))
		}
		m[b] = all
	}
	return m[b]
}

// cuttingsInModel tells how many ways there are to cut boards, however many.
type cuttingsInModel map[boardInModel]*big.Int

func (m cuttingsInModel) of(b boardInModel) *big.Int {
	if m[b] == nil {
		ways := big.NewInt(0)
		if b == (boardInModel{1, 1}) {
			ways.SetInt64(1)
		}
		for _, cut := range boardCutsInModel(b) {
			ways.Add(ways, new(big.Int).Mul(m.of(cut.first), m.of(cut.rest)))
		}
		m[b] = ways
	}
	return m[b]
}

// tilesInModel tries all sides.
func tilesInModel(b boardInModel) (int, int) {
	greatest := 1
	for side := 1; side <= impl.MaxBoard; side++ {
		if b.wide%side == 0 && b.high%side == 0 {
			greatest = side
		}
	}
	return greatest, (b.wide / greatest) * (b.high / greatest)
}

func isPieceInModel(b boardInModel, p impl.Piece, turned bool) bool {
	return b == boardInModel{p.Wide, p.High} || turned && b == boardInModel{p.High, p.Wide}
}

// valueInModel tells the values of boards, each one looked for once.
type valueInModel struct {
	pieces []impl.Piece
	turned bool
	values map[boardInModel]int
}

func newValueInModel(pieces []impl.Piece, turned bool) valueInModel {
	return valueInModel{pieces: pieces, turned: turned, values: map[boardInModel]int{}}
}

func (m valueInModel) of(b boardInModel) int {
	if value, known := m.values[b]; known {
		return value
	}
	greatest := 0
	for _, p := range m.pieces {
		if isPieceInModel(b, p, m.turned) && p.Value > greatest {
			greatest = p.Value
		}
	}
	for _, cut := range boardCutsInModel(b) {
		greatest = max(greatest, m.of(cut.first)+m.of(cut.rest))
	}
	m.values[b] = greatest
	return greatest
}

// firstKind returns the first kind that a board is with just its value.
func (m valueInModel) firstKind(b boardInModel) (int, bool) {
	for kind, p := range m.pieces {
		if isPieceInModel(b, p, m.turned) && p.Value == m.of(b) {
			return kind, true
		}
	}
	return 0, false
}

// firstCut fails if the value is come to without any cut.
func (m valueInModel) firstCut(b boardInModel) (cutInModel, bool) {
	if _, isPiece := m.firstKind(b); isPiece || m.of(b) == 0 {
		return cutInModel{}, false
	}
	for _, cut := range boardCutsInModel(b) {
		isLesser := 2*cut.part <= b.wide
		if !cut.upright {
			isLesser = 2*cut.part <= b.high
		}
		if isLesser && m.of(cut.first)+m.of(cut.rest) == m.of(b) {
			return cut, true
		}
	}
	panic("a value that is come to by nothing")
}

// cutOut returns how many pieces of each kind are cut out by always the first cut.
func (m valueInModel) cutOut(b boardInModel) []int {
	counts := make([]int, len(m.pieces))
	if cut, ok := m.firstCut(b); ok {
		rest := m.cutOut(cut.rest)
		for kind, count := range m.cutOut(cut.first) {
			counts[kind] = count + rest[kind]
		}
	} else if kind, isPiece := m.firstKind(b); isPiece && m.of(b) > 0 {
		counts[kind] = 1
	}
	return counts
}

// areaOfPieces returns how much of a board so many pieces of each kind are.
func areaOfPieces(pieces []impl.Piece, counts []int) int {
	area := 0
	for kind, count := range counts {
		area += count * pieces[kind].Wide * pieces[kind].High
	}
	return area
}

func valueOfPieces(pieces []impl.Piece, counts []int) int {
	value := 0
	for kind, count := range counts {
		value += count * pieces[kind].Value
	}
	return value
}

// heapsInModel tells all heaps that can be cut out of boards, that of nothing as well. It is for small boards.
type heapsInModel struct {
	pieces []impl.Piece
	turned bool
	heaps  map[boardInModel]map[heap]bool
}

func newHeapsInModel(pieces []impl.Piece, turned bool) heapsInModel {
	return heapsInModel{pieces: pieces, turned: turned, heaps: map[boardInModel]map[heap]bool{}}
}

func (m heapsInModel) of(b boardInModel) map[heap]bool {
	if m.heaps[b] == nil {
		all := map[heap]bool{{}: true}
		for kind, p := range m.pieces {
			if isPieceInModel(b, p, m.turned) {
				one := heap{}
				one[kind] = 1
				all[one] = true
			}
		}
		for _, cut := range boardCutsInModel(b) {
			addHeaps(all, m.of(cut.first), m.of(cut.rest))
		}
		m.heaps[b] = all
	}
	return m.heaps[b]
}

// greatest returns the greatest number that sizeOf tells of a heap.
func (m heapsInModel) greatest(b boardInModel, sizeOf func(counts []int) int) int {
	greatest := 0
	for all := range m.of(b) {
		greatest = max(greatest, sizeOf(all[:len(m.pieces)]))
	}
	return greatest
}
