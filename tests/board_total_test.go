package tests

import (
	"fmt"
	"math"
	"testing"

	"loop.example/g01334/impl"
)

// Promise 11 for chapter 7: every function accepts all arguments, modifies none of them and shares no memory with them.

func badBoardSides() []int {
	return []int{0, -1, -2, -24, impl.MaxBoard + 1, impl.MaxBoard + 2, 2 * impl.MaxBoard, 1000, math.MinInt, math.MaxInt}
}

func badBoards() []boardInModel {
	var boards []boardInModel
	for _, bad := range badBoardSides() {
		boards = append(boards, boardInModel{bad, 3}, boardInModel{5, bad}, boardInModel{bad, 24}, boardInModel{24, bad}, boardInModel{bad, bad}, boardInModel{bad, -bad})
	}
	return boards
}

// noPieces are each beyond a limit of a piece.
func noPieces() []impl.Piece {
	var pieces []impl.Piece
	for _, bad := range badBoardSides() {
		pieces = append(pieces, pieceOf(bad, 2, 3), pieceOf(1, bad, 3), pieceOf(bad, bad, 3), pieceOf(bad, 1, 0))
	}
	for _, bad := range []int{-1, -2, impl.MaxValue + 1, impl.MaxValue + 2, 10000, math.MinInt, math.MaxInt} {
		pieces = append(pieces, pieceOf(1, 2, bad), pieceOf(3, 3, bad), pieceOf(24, 24, bad), pieceOf(bad, bad, bad))
	}
	return pieces
}

func badPieces() [][]impl.Piece {
	lists := [][]impl.Piece{nil, {}, samePieces(1, 1, 1, 5), samePieces(24, 24, 0, 5), samePieces(1, 1, 1, 1000)}
	for _, bad := range noPieces() {
		lists = append(lists, []impl.Piece{bad}, append(examplePieces(), bad), append([]impl.Piece{bad}, examplePieces()...))
	}
	return lists
}

// boardArguments are all that the functions of chapter 7 are called with.
type boardArguments struct {
	boardInModel
	pieces []impl.Piece
	turned bool
	p      impl.Piece
}

// exampleBoard are valid arguments for all functions.
func exampleBoard() boardArguments {
	return boardArguments{boardInModel: boardInModel{5, 3}, pieces: examplePieces(), p: pieceOf(3, 2, 0)}
}

// pieceCalls are all functions that need pieces.
func pieceCalls() map[string]func(a boardArguments) []any {
	return map[string]func(a boardArguments) []any{
		"BestValue":  func(a boardArguments) []any { return results(impl.BestValue(a.wide, a.high, a.pieces, a.turned)) },
		"FirstCut":   func(a boardArguments) []any { return results(impl.FirstCut(a.wide, a.high, a.pieces, a.turned)) },
		"PiecesCut":  func(a boardArguments) []any { return results(impl.PiecesCut(a.wide, a.high, a.pieces, a.turned)) },
		"WasteOf":    func(a boardArguments) []any { return results(impl.WasteOf(a.wide, a.high, a.pieces, a.turned)) },
		"CanCutAll":  func(a boardArguments) []any { return results(impl.CanCutAll(a.wide, a.high, a.pieces, a.turned)) },
		"ValueTable": func(a boardArguments) []any { return results(impl.ValueTable(a.wide, a.pieces, a.turned)) },
		"TurnPieces": func(a boardArguments) []any { return results(impl.TurnPieces(a.pieces)) },
		"PiecesText": func(a boardArguments) []any { return results(impl.PiecesText(a.pieces)) },
		"ArePieces":  func(a boardArguments) []any { return results(impl.ArePieces(a.pieces)) },
	}
}

// boardCalls are all functions of chapter 7 but ParsePieces.
func boardCalls() map[string]func(a boardArguments) []any {
	calls := pieceCalls()
	calls["EuclidSquares"] = func(a boardArguments) []any { return results(impl.EuclidSquares(a.wide, a.high)) }
	calls["FewestSquares"] = func(a boardArguments) []any { return results(impl.FewestSquares(a.wide, a.high)) }
	calls["SquaresByCuts"] = func(a boardArguments) []any { return results(impl.SquaresByCuts(a.wide, a.high)) }
	calls["CutsToSquares"] = func(a boardArguments) []any { return results(impl.CutsToSquares(a.wide, a.high)) }
	calls["CountCuttings"] = func(a boardArguments) []any { return results(impl.CountCuttings(a.wide, a.high)) }
	calls["GreatestTiles"] = func(a boardArguments) []any { return results(impl.GreatestTiles(a.wide, a.high)) }
	calls["MostOfOne"] = func(a boardArguments) []any { return results(impl.MostOfOne(a.wide, a.high, a.p, a.turned)) }
	return calls
}

// TestExampleBoardIsValid makes sure that calls with one argument exchanged fail because of that one.
func TestExampleBoardIsValid(t *testing.T) {
	for name, call := range boardCalls() {
		if all := call(exampleBoard()); !succeeded(all) {
			t.Errorf("%s fails", name)
		}
	}
}

func TestBoardsAreRequired(t *testing.T) {
	needsNone := map[string]bool{"TurnPieces": true, "PiecesText": true, "ArePieces": true, "ValueTable": true}
	for name, call := range boardCalls() {
		for _, b := range badBoards() {
			for _, turned := range []bool{false, true} {
				a := exampleBoard()
				a.boardInModel, a.turned = b, turned
				if !needsNone[name] {
					mustFail(t, fmt.Sprint(name, " of ", b), call(a))
				}
			}
		}
	}
	for _, wide := range badBoardSides() {
		mustFail(t, fmt.Sprint("ValueTable of ", wide), results(impl.ValueTable(wide, examplePieces(), false)))
		mustFail(t, fmt.Sprint("ValueTable of ", wide, ", turned"), results(impl.ValueTable(wide, examplePieces(), true)))
	}
}

func TestPiecesAreRequired(t *testing.T) {
	for name, call := range pieceCalls() {
		for _, pieces := range badPieces() {
			for _, b := range []boardInModel{{5, 3}, {1, 1}, {1, 2}, {24, 24}} {
				for _, turned := range []bool{false, true} {
					a := exampleBoard()
					a.boardInModel, a.pieces, a.turned = b, pieces, turned
					mustFail(t, fmt.Sprint(name, " of ", b, " by ", pieces), call(a))
				}
			}
		}
	}
}

func TestOnePieceIsRequired(t *testing.T) {
	for _, p := range noPieces() {
		for _, b := range []boardInModel{{5, 3}, {1, 1}, {1, 2}, {24, 24}} {
			mustFail(t, fmt.Sprint("MostOfOne of ", b, " by ", p), results(impl.MostOfOne(b.wide, b.high, p, false)))
			mustFail(t, fmt.Sprint("MostOfOne of ", b, " by turned ", p), results(impl.MostOfOne(b.wide, b.high, p, true)))
		}
	}
}

func TestBoardArgumentsAreKept(t *testing.T) {
	changes := []func(a *boardArguments){
		func(a *boardArguments) {},
		func(a *boardArguments) { a.turned = true },
		func(a *boardArguments) { a.boardInModel = boardInModel{1, 1} },
		func(a *boardArguments) { a.boardInModel = boardInModel{24, 24} },
		func(a *boardArguments) { a.boardInModel = boardInModel{3, 3} },
		func(a *boardArguments) { a.boardInModel = boardInModel{0, 3} },
		func(a *boardArguments) { a.boardInModel = boardInModel{5, 25} },
		func(a *boardArguments) { a.pieces, a.turned = samePieces(1, 2, 0, 4), true },
		func(a *boardArguments) { a.pieces = samePieces(1, 1, 1000, 1) },
		func(a *boardArguments) { a.pieces, a.boardInModel = samePieces(5, 3, 9, 3), boardInModel{15, 9} },
		func(a *boardArguments) { a.pieces = samePieces(1, 1, 1, 5) },
		func(a *boardArguments) { a.pieces = append(examplePieces(), pieceOf(1, 1, -1)) },
		func(a *boardArguments) { a.pieces = nil },
	}
	for name, call := range boardCalls() {
		for _, change := range changes {
			a := exampleBoard()
			change(&a)
			title := fmt.Sprint(name, " of ", a)
			pieces, kept := guardedBy(a.pieces, markedPiece())
			a.pieces = pieces
			mustKeep(t, title, func() []any { return call(a) }, kept)
		}
	}
}

func TestParsedPiecesAreNew(t *testing.T) {
	first, _ := impl.ParsePieces("2x1=3,3x3=8")
	spoil([]any{first})
	mustReturn(t, "ParsePieces again", results(impl.ParsePieces("2x1=3,3x3=8")), examplePieces())
}

func TestAnyBoardsAreAccepted(t *testing.T) {
	odd := []int{math.MinInt, -2, -1, 0, 1, 2, 3, 5, 23, 24, 25, 999, 1000, 1001, math.MaxInt}
	m := &mixer{state: 58}
	pick := func() int { return odd[m.next(0, len(odd)-1)] }
	for range 500 {
		a := boardArguments{boardInModel: boardInModel{pick(), pick()}, pieces: make([]impl.Piece, m.next(0, 5)), turned: m.next(0, 1) == 1, p: pieceOf(pick(), pick(), pick())}
		for kind := range a.pieces {
			a.pieces[kind] = pieceOf(pick(), pick(), pick())
		}
		if m.next(0, 1) == 0 {
			a.pieces = m.evenPieces(m.next(1, 4), 5)
		}
		if m.next(0, 1) == 0 {
			a.boardInModel = m.board(impl.MaxBoard)
		}
		for name, call := range boardCalls() {
			if all := call(a); !succeeded(all) {
				mustFail(t, fmt.Sprint(name, " of ", a), all)
			}
		}
	}
}
