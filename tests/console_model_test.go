package tests

import (
	"fmt"
	"regexp"
	"slices"
	"strconv"
	"strings"

	"loop.example/g01334/impl"
)

// The model of chapter 10 keeps a desk as three texts, knows each line of the document's table by one pattern of the whole line, and makes the call that the table names.

// The texts of numbers, sizes, sides and the like.
const (
	wholeTextInModel     = `(0|[1-9][0-9]{0,5})`
	sizeTextInModel      = `(?:[1-9][0-9]?|100)`
	sideTextInModel      = `(?:[1-9]|[1-4][0-9]|50)`
	heavyTextInModel     = `(?:[1-9][0-9]{0,2}|1000)`
	boardSideTextInModel = `(?:[1-9]|1[0-9]|2[0-4])`
	boxTextInModel       = sideTextInModel + `x` + sideTextInModel + `x` + sideTextInModel
	thingTextInModel     = heavyTextInModel + `/(?:0|` + heavyTextInModel + `)/` + heavyTextInModel
	pieceTextInModel     = boardSideTextInModel + `x` + boardSideTextInModel + `=(?:0|` + heavyTextInModel + `)`
)

// severalInModel is the pattern of a list of 1 up to so many.
func severalInModel(one, separator string, most int) string {
	return fmt.Sprintf(`(%s(?:%s%s){0,%d})`, one, separator, one, most-1)
}

// patternInModel takes a line as the table has it: great letters stand for numbers and for texts.
func patternInModel(form string) *regexp.Regexp {
	return regexp.MustCompile(`\A` + strings.NewReplacer(
		"N", wholeTextInModel, "K", wholeTextInModel,
		"T", severalInModel(sizeTextInModel, "-", 9),
		"B", severalInModel(boxTextInModel, ",", 7),
		"S", severalInModel(thingTextInModel, ",", 7),
		"P", severalInModel(pieceTextInModel, ",", 4),
	).Replace(form) + `\z`)
}

type deskInModel struct{ things, boxes, stack string }

func firstDeskInModel() deskInModel {
	return deskInModel{"4-7-3-6", "1x1x1,2x2x2,2x3x3,4x4x4", "3/5/2,2/4/3,4/1/1"}
}

// asDesk requires texts of things, boxes and things that are stacked.
func (d deskInModel) asDesk() impl.Desk {
	things, ok := impl.ParseThings(d.things)
	boxes, okBoxes := impl.ParseBoxes(d.boxes)
	stack, okStack := impl.ParseStackables(d.stack)
	if !ok || !okBoxes || !okStack {
		panic(fmt.Sprint(d, " is no desk"))
	}
	return impl.Desk{Things: things, Boxes: boxes, Stack: stack}
}

// drop takes a thing out of the Things, if it is there and another one as well.
func (d *deskInModel) drop(number int) bool {
	sizes := strings.Split(d.things, "-")
	if len(sizes) == 1 || number >= len(sizes) {
		return false
	}
	d.things = strings.Join(slices.Delete(sizes, number, number+1), "-")
	return true
}

// askedInModel is what a line asks about.
type askedInModel struct {
	impl.Desk
	n, k   int
	pieces []impl.Piece
}

type lineInModel struct {
	form    string
	pattern *regexp.Regexp
	call    func(a askedInModel) []any
}

// askingInModel are all lines that ask something.
var askingInModel = compiledInModel(map[string]func(a askedInModel) []any{
	"show":         func(a askedInModel) []any { return results(impl.ThingsText(a.Things)) },
	"tell":         func(a askedInModel) []any { return results(impl.BoxesText(a.Boxes)) },
	"list":         func(a askedInModel) []any { return results(impl.StackablesText(a.Stack)) },
	"next N":       func(a askedInModel) []any { return results(impl.NextFit(a.Things, a.n)) },
	"first N":      func(a askedInModel) []any { return results(impl.FirstFit(a.Things, a.n)) },
	"best N":       func(a askedInModel) []any { return results(impl.BestFit(a.Things, a.n)) },
	"worst N":      func(a askedInModel) []any { return results(impl.WorstFit(a.Things, a.n)) },
	"great N":      func(a askedInModel) []any { return results(impl.GreatestFirst(a.Things, a.n)) },
	"few N":        func(a askedInModel) []any { return results(impl.FewestBoxes(a.Things, a.n)) },
	"plan N":       func(a askedInModel) []any { return results(impl.FirstPacking(a.Things, a.n)) },
	"ways N":       func(a askedInModel) []any { return results(impl.CountPackings(a.Things, a.n)) },
	"room N":       func(a askedInModel) []any { return results(impl.LeastRoom(a.Things, a.n)) },
	"fill N":       func(a askedInModel) []any { return results(impl.ExactFill(a.Things, a.n)) },
	"nest":         func(a askedInModel) []any { return results(impl.LongestNest(a.Boxes)) },
	"outer":        func(a askedInModel) []any { return results(impl.FewestOuter(a.Boxes)) },
	"put":          func(a askedInModel) []any { return results(impl.FirstNesting(a.Boxes)) },
	"apart":        func(a askedInModel) []any { return results(impl.ApartBoxes(a.Boxes)) },
	"pairs":        func(a askedInModel) []any { return results(impl.PairsFitting(a.Boxes)) },
	"safe":         func(a askedInModel) []any { return results(impl.SafeOrder(a.Stack)) },
	"orders":       func(a askedInModel) []any { return results(impl.CountSafeOrders(a.Stack)) },
	"most":         func(a askedInModel) []any { return results(impl.MostStacked(a.Stack)) },
	"tall":         func(a askedInModel) []any { return results(impl.TallestStack(a.Stack)) },
	"strong":       func(a askedInModel) []any { return results(impl.StrongestFirst(a.Stack)) },
	"squares N K":  func(a askedInModel) []any { return results(impl.SquaresByCuts(a.n, a.k)) },
	"euclid N K":   func(a askedInModel) []any { return results(impl.EuclidSquares(a.n, a.k)) },
	"value N K P":  func(a askedInModel) []any { return results(impl.BestValue(a.n, a.k, a.pieces, false)) },
	"turned N K P": func(a askedInModel) []any { return results(impl.BestValue(a.n, a.k, a.pieces, true)) },
})

// The lines that change something.
var (
	thingsInModel = patternInModel("things T")
	boxesInModel  = patternInModel("boxes B")
	stackInModel  = patternInModel("stack S")
	dropInModel   = patternInModel("drop N")
)

func compiledInModel(calls map[string]func(a askedInModel) []any) []lineInModel {
	var lines []lineInModel
	for form, call := range calls {
		lines = append(lines, lineInModel{form, patternInModel(form), call})
	}
	slices.SortFunc(lines, func(a, b lineInModel) int { return strings.Compare(a.form, b.form) })
	return lines
}

// formsInModel returns all lines as the table has them.
func formsInModel() []string {
	forms := []string{"things T", "boxes B", "stack S", "drop N"}
	for _, line := range askingInModel {
		forms = append(forms, line.form)
	}
	return forms
}

// answerInModel returns the desk behind a line and the reply.
func answerInModel(d deskInModel, line string) (deskInModel, string) {
	if found := thingsInModel.FindStringSubmatch(line); found != nil {
		d.things = found[1]
		return d, d.things
	}
	if found := boxesInModel.FindStringSubmatch(line); found != nil {
		d.boxes = found[1]
		return d, d.boxes
	}
	if found := stackInModel.FindStringSubmatch(line); found != nil {
		d.stack = found[1]
		return d, d.stack
	}
	if found := dropInModel.FindStringSubmatch(line); found != nil {
		if !d.drop(wholeInModel(found[1])) {
			return d, "no"
		}
		return d, d.things
	}
	return d, askedReplyInModel(d, line)
}

func askedReplyInModel(d deskInModel, line string) string {
	for _, asking := range askingInModel {
		found := asking.pattern.FindStringSubmatch(line)
		if found == nil {
			continue
		}
		a := askedInModel{Desk: d.asDesk()}
		if len(found) > 1 {
			a.n = wholeInModel(found[1])
		}
		if len(found) > 2 {
			a.k = wholeInModel(found[2])
		}
		if len(found) > 3 {
			a.pieces, _ = impl.ParsePieces(found[3])
		}
		return replyInModel(asking.call(a))
	}
	return "what"
}

// wholeInModel requires digits.
func wholeInModel(word string) int {
	number, err := strconv.Atoi(word)
	if err != nil {
		panic(err)
	}
	return number
}

// replyInModel tells the first result of a call.
func replyInModel(all []any) string {
	if !succeeded(all) {
		return "no"
	}
	reply := ""
	switch result := all[0].(type) {
	case []int:
		for i, number := range result {
			if i > 0 {
				reply += ","
			}
			reply += fmt.Sprint(number)
		}
	case [][]int:
		for i, list := range result {
			if i > 0 {
				reply += " "
			}
			reply += replyInModel(results(list, true))
		}
	default:
		return fmt.Sprint(result)
	}
	if reply == "" {
		return "-"
	}
	return reply
}

// runInModel takes a list of lines, and returns the desk behind each of them and the replies.
func runInModel(d deskInModel, lines []string) ([]deskInModel, []string) {
	var desks []deskInModel
	var replies []string
	for _, line := range lines {
		var reply string
		d, reply = answerInModel(d, line)
		desks, replies = append(desks, d), append(replies, reply)
	}
	return desks, replies
}

// isScriptInModel takes any text.
func isScriptInModel(s string) bool {
	newlines := 0
	for _, b := range []byte(s) {
		if b == 10 {
			newlines++
		}
	}
	return len(s) <= 3000 && newlines <= 50 && (s == "" || s[len(s)-1] == 10)
}
