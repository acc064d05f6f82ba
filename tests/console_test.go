package tests

import (
	"fmt"
	"slices"
	"strings"
	"testing"

	"loop.example/g01334/impl"
)

// scriptOf returns the script of lines.
func scriptOf(lines ...string) string {
	script := ""
	for _, line := range lines {
		script += line + "\n"
	}
	return script
}

func exampleLines() []string {
	return []string{
		"next 10", "first 10", "best 10", "worst 10", "great 10", "few 10", "ways 10", "room 3", "fill 10", "fill 12", "few 6", "drop 1", "few 7",
		"nest", "outer", "put", "apart", "pairs", "safe", "orders", "most", "strong", "squares 6 5", "euclid 6 5", "value 5 3 2x1=3,3x3=8", "turned 5 3 2x1=3,3x3=8", "squares 0 5", "things 0", "fly",
	}
}

func exampleReplies() []string {
	return []string{
		"0,1,1,2", "0,1,0,2", "0,1,1,0", "0,1,0,2", "0,1,1,0", "2", "1", "7", "0,3", "no", "no", "4-3-6", "2",
		"0,1,3", "2", "1,-1,3,-1", "1,2", "0,1 0,2 0,3 1,3 2,3", "no", "0", "0,1", "0,1,2", "3,3,2,2,2", "5,1,1,1,1,1", "18", "21", "no", "what", "what",
	}
}

func TestConsoleExample(t *testing.T) {
	script := scriptOf(exampleLines()...)
	mustReturn(t, "RunScript", results(impl.RunScript(script)), exampleReplies())
	mustReturn(t, "FailedLines", results(impl.FailedLines(script)), []int{10, 11, 19, 27, 28, 29})
	desk := exampleDesk()
	desk.Things = []int{4, 3, 6}
	mustReturn(t, "DeskAfter", results(impl.DeskAfter(script)), desk)
}

// exampleDesk is the first desk.
func exampleDesk() impl.Desk {
	return impl.Desk{Things: []int{4, 7, 3, 6}, Boxes: exampleNest(), Stack: exampleStackables()}
}

func TestFirstDesk(t *testing.T) {
	mustReturn(t, "FirstDesk", results(impl.FirstDesk(), true), exampleDesk())
	mustReturn(t, "show, tell and list", results(impl.RunScript("show\ntell\nlist\n")), []string{"4-7-3-6", "1x1x1,2x2x2,2x3x3,4x4x4", "3/5/2,2/4/3,4/1/1"})
}

// lineCase is a line, the lines before it, and the reply.
type lineCase struct{ before, line, reply string }

// casesOf takes a line and a reply by turns.
func casesOf(before string, linesAndReplies ...string) []lineCase {
	var cases []lineCase
	for pair := range slices.Chunk(linesAndReplies, 2) {
		cases = append(cases, lineCase{before, pair[0], pair[1]})
	}
	return cases
}

// sevenTimes returns a text of seven boxes, or things, that are the same.
func sevenTimes(text string) string { return strings.Repeat(text+",", 6) + text }

func firstDeskCases() []lineCase {
	return casesOf("",
		"show", "4-7-3-6", "tell", "1x1x1,2x2x2,2x3x3,4x4x4", "list", "3/5/2,2/4/3,4/1/1",
		"next 7", "0,1,2,3", "next 13", "0,0,1,1", "next 20", "0,0,0,0", "next 1000", "0,0,0,0",
		"first 7", "0,1,0,2", "first 13", "0,0,1,1", "best 7", "0,1,0,2", "worst 7", "0,1,0,2", "worst 13", "0,0,1,1", "great 7", "0,1,0,2", "great 13", "0,1,0,1",
		"few 7", "3", "few 19", "2", "few 20", "1", "plan 7", "0,1,0,2", "plan 10", "0,1,1,0", "plan 13", "0,0,1,1", "plan 20", "0,0,0,0", "ways 7", "1", "ways 20", "1",
		"room 1", "20", "room 2", "10", "room 4", "7", "room 9", "7", "fill 1", "no", "fill 3", "2", "fill 7", "0,2", "fill 11", "0,1", "fill 20", "0,1,2,3",
		"tall", "0,1",
		"drop 0", "7-3-6", "drop 1", "4-3-6", "drop 2", "4-7-6", "drop 3", "4-7-3",
	)
}

// thingsCases are those of Things, worked by hand.
func thingsCases() []lineCase {
	return slices.Concat(
		// One thing, which fills a box just so, or does not.
		casesOf("things 10\n", "show", "10", "next 10", "0", "first 10", "0", "best 11", "0", "worst 1000", "0", "great 10", "0", "few 10", "1", "plan 10", "0", "ways 10", "1", "room 1", "10", "room 9", "10", "fill 10", "0", "fill 9", "no", "fill 11", "no", "next 9", "no", "few 9", "no"),
		casesOf("things 100\n", "next 100", "0", "few 99", "no", "room 3", "100", "fill 100", "0"),
		casesOf("things 1\n", "next 1", "0", "fill 1", "0", "room 5", "1"),
		// All rules differ.
		casesOf("things 2-5-4-7-1-3-8\n",
			"next 10", "0,0,1,2,2,3,4", "first 10", "0,0,1,2,0,1,3", "best 10", "0,0,1,2,0,2,3", "worst 10", "0,0,1,2,1,1,3", "great 10", "0,1,1,2,1,2,0",
			"few 10", "3", "plan 10", "0,1,1,2,1,2,0", "ways 10", "1", "room 1", "30", "room 2", "15", "room 3", "10", "room 9", "8", "fill 10", "0,1,5", "fill 30", "0,1,2,3,4,5,6", "fill 31", "no"),
		// As many things as there may be.
		casesOf("things 1-1-1-1-1-1-1-1-1\n", "show", "1-1-1-1-1-1-1-1-1", "next 4", "0,0,0,0,1,1,1,1,2", "few 1", "9", "ways 1", "1", "ways 5", "126", "few 9", "1", "room 4", "3", "fill 3", "0,1,2", "drop 8", "1-1-1-1-1-1-1-1"),
		casesOf("things 100-100-100-100-100-100-100-100-100\n", "few 1000", "1", "few 199", "9", "next 200", "0,0,1,1,2,2,3,3,4", "room 1", "900", "fill 900", "0,1,2,3,4,5,6,7,8"),
		// Some plans need as few boxes, and the first one of these counts.
		casesOf("things 3-3-3\n", "few 6", "2", "plan 6", "0,0,1", "ways 6", "3", "best 6", "0,0,1"),
		// Lines that change something.
		casesOf("", "things 5", "5", "things 9-8-7", "9-8-7", "things 100-1", "100-1", "boxes 50x50x50", "50x50x50", "boxes 3x2x1,1x2x3", "3x2x1,1x2x3", "boxes "+sevenTimes("9x1x50"), sevenTimes("9x1x50"), "stack 1/0/1", "1/0/1", "stack 1000/1000/1000,1/0/1", "1000/1000/1000,1/0/1", "stack "+sevenTimes("9/1/50"), sevenTimes("9/1/50")),
		casesOf("things 5-6\n", "drop 0", "6", "drop 1", "5", "drop 2", "no"),
		casesOf("drop 3\ndrop 0\n", "show", "7-3", "drop 0", "3", "drop 1", "7", "few 10", "1", "next 9", "0,1"),
	)
}

func nestLineCases() []lineCase {
	return slices.Concat(
		// One box: no two fit into each other.
		casesOf("boxes 5x6x7\n", "tell", "5x6x7", "nest", "0", "outer", "1", "put", "-1", "apart", "0", "pairs", "-"),
		// Boxes none of which fits into another one.
		casesOf("boxes 1x9x9,1x8x8,1x7x7\n", "nest", "0", "outer", "3", "put", "-1,-1,-1", "apart", "0,1,2", "pairs", "-"),
		casesOf("boxes 2x2x2,2x2x2\n", "nest", "0", "outer", "2", "put", "-1,-1", "apart", "0,1", "pairs", "-"),
		// Boxes that fit if they are turned.
		casesOf("boxes 1x2x5,3x6x2\n", "nest", "0,1", "outer", "1", "put", "1,-1", "apart", "0", "pairs", "0,1"),
		casesOf("boxes 1x1x1,1x1x1,2x2x2,2x2x2\n", "nest", "0,2", "outer", "2", "put", "2,3,-1,-1", "apart", "0,1", "pairs", "0,2 0,3 1,2 1,3"),
		// Seven boxes.
		casesOf("boxes 7x7x7,6x6x6,5x5x5,4x4x4,3x3x3,2x2x2,1x1x1\n", "nest", "6,5,4,3,2,1,0", "outer", "1", "put", "-1,0,1,2,3,4,5", "apart", "0",
			"pairs", "1,0 2,0 2,1 3,0 3,1 3,2 4,0 4,1 4,2 4,3 5,0 5,1 5,2 5,3 5,4 6,0 6,1 6,2 6,3 6,4 6,5"),
		casesOf("boxes "+sevenTimes("50x50x50")+"\n", "tell", sevenTimes("50x50x50"), "nest", "0", "outer", "7", "put", "-1,-1,-1,-1,-1,-1,-1", "apart", "0,1,2,3,4,5,6", "pairs", "-"),
	)
}

func stackLineCases() []lineCase {
	return slices.Concat(
		// One thing.
		casesOf("stack 5/0/3\n", "list", "5/0/3", "safe", "0", "orders", "1", "most", "0", "tall", "0", "strong", "0"),
		casesOf("stack 2/4/1,2/4/1,2/4/1\n", "safe", "0,1,2", "orders", "6", "most", "0,1,2", "tall", "0,1,2", "strong", "0,1,2"),
		// The first safe order is another one than the strongest first.
		casesOf("stack 1/9/2,1/10/3\n", "safe", "0,1", "orders", "2", "most", "0,1", "tall", "0,1", "strong", "1,0"),
		casesOf("stack 4/0/1,2/4/1,1/6/1\n", "safe", "2,1,0", "orders", "1", "most", "2,1,0", "strong", "2,1,0"),
		// The tallest stack has fewer things than another one.
		casesOf("stack 1/2/1,1/2/1,1/2/1,9/0/10\n", "safe", "no", "orders", "0", "most", "0,1,2", "tall", "3", "strong", "3,0,1,2"),
		// Seven things.
		casesOf("stack "+sevenTimes("1/1000/1000")+"\n", "safe", "0,1,2,3,4,5,6", "orders", "5040", "most", "0,1,2,3,4,5,6", "tall", "0,1,2,3,4,5,6", "strong", "0,1,2,3,4,5,6"),
		casesOf("stack "+sevenTimes("1000/0/1000")+"\n", "list", sevenTimes("1000/0/1000"), "safe", "no", "orders", "0", "most", "0", "tall", "0", "strong", "0,1,2,3,4,5,6"),
	)
}

func boardLineCases() []lineCase {
	return casesOf("",
		// Squares are not cut.
		"squares 1 1", "1", "squares 5 5", "5", "squares 24 24", "24", "euclid 1 1", "1", "euclid 5 5", "5", "euclid 24 24", "24",
		"squares 6 5", "3,3,2,2,2", "squares 5 6", "3,3,2,2,2", "squares 2 1", "1,1", "squares 1 3", "1,1,1", "euclid 6 4", "4,2,2", "euclid 4 6", "4,2,2", "euclid 1 3", "1,1,1",
		// Boards are wide first, then high, and pieces as well.
		"value 3 2 3x2=7", "7", "value 2 3 3x2=7", "0", "turned 2 3 3x2=7", "7", "turned 3 2 3x2=7", "7", "value 24 1 1x24=9", "0", "turned 24 1 1x24=9", "9",
		"value 1 1 2x1=5", "0", "turned 24 24 24x24=1000", "1000", "value 24 24 1x1=1000", "576000", "value 4 2 4x2=5,2x2=3", "6",
		// Pieces that are worth nothing.
		"value 1 1 1x1=0", "0", "turned 3 3 3x3=0,4x4=9", "0", "value 3 3 2x2=9,1x1=0", "9",
		"value 2 2 1x1=1,2x2=3,2x2=4,2x2=4", "4", "value 10 5 5x5=2,5x5=2,5x5=2,5x5=2", "4",
	)
}

// allLineCases are all lines with replies that are worked by hand.
func allLineCases() []lineCase {
	return slices.Concat(firstDeskCases(), thingsCases(), nestLineCases(), stackLineCases(), boardLineCases())
}

func TestLinesByHand(t *testing.T) {
	for _, c := range allLineCases() {
		name := fmt.Sprintf(" of %q behind %q", c.line, c.before)
		replies, ok := impl.RunScript(c.before + c.line + "\n")
		if !ok || replies[len(replies)-1] != c.reply {
			t.Errorf("RunScript%s: want %q, got %q %v", name, c.reply, replies, ok)
		}
		before, ok := impl.DeskAfter(c.before)
		if _, reply, okLine := impl.DeskLine(before, c.line); !ok || !okLine || reply != c.reply {
			t.Errorf("DeskLine%s: want %q, got %q %v", name, c.reply, reply, okLine)
		}
	}
}

// TestAllLinesAreTriedByHand makes sure that no line of the table is forgotten.
func TestAllLinesAreTriedByHand(t *testing.T) {
	tried := map[string]int{}
	for _, c := range allLineCases() {
		if c.reply != "no" {
			word, _, _ := strings.Cut(c.line, " ")
			tried[word]++
		}
	}
	for _, form := range formsInModel() {
		if word, _, _ := strings.Cut(form, " "); tried[word] < 3 {
			t.Errorf("%s is tried %d times", word, tried[word])
		}
	}
}

func TestLinesThatChangeTheDesk(t *testing.T) {
	cases := []struct {
		line   string
		change func(d *impl.Desk)
	}{
		{"things 5", func(d *impl.Desk) { d.Things = []int{5} }},
		{"things 100-1-100", func(d *impl.Desk) { d.Things = []int{100, 1, 100} }},
		{"boxes 3x2x1", func(d *impl.Desk) { d.Boxes = []impl.Box{boxOf(3, 2, 1)} }},
		{"boxes 50x1x1,1x50x2", func(d *impl.Desk) { d.Boxes = []impl.Box{boxOf(50, 1, 1), boxOf(1, 50, 2)} }},
		{"stack 3/2/1", func(d *impl.Desk) { d.Stack = []impl.Thing{thingOf(3, 2, 1)} }},
		{"stack 1/0/1000,1000/1000/1", func(d *impl.Desk) { d.Stack = []impl.Thing{thingOf(1, 0, 1000), thingOf(1000, 1000, 1)} }},
		{"drop 0", func(d *impl.Desk) { d.Things = []int{7, 3, 6} }},
		{"drop 1", func(d *impl.Desk) { d.Things = []int{4, 3, 6} }},
		{"drop 3", func(d *impl.Desk) { d.Things = []int{4, 7, 3} }},
	}
	for _, c := range cases {
		want := exampleDesk()
		c.change(&want)
		desk, _, ok := impl.DeskLine(exampleDesk(), c.line)
		mustReturn(t, "DeskLine of "+c.line, results(desk, ok), want)
		mustReturn(t, "DeskAfter "+c.line, results(impl.DeskAfter(c.line+"\n")), want)
	}
	mustReturn(t, "DeskAfter several", results(impl.DeskAfter("things 5-6-7\nstack 1/2/3\ndrop 1\nboxes 1x2x3\nfly\ndrop 1\ndrop 0\n")),
		impl.Desk{Things: []int{5}, Boxes: []impl.Box{boxOf(1, 2, 3)}, Stack: []impl.Thing{thingOf(1, 2, 3)}})
}

// mustKeepTheDesk checks the reply to a line, and that the desk is behind it as it was before.
func mustKeepTheDesk(t *testing.T, d impl.Desk, line, reply string) {
	t.Helper()
	mustReturn(t, fmt.Sprintf("DeskLine of %v and %.100q", d, line), results(impl.DeskLine(d, line)), d, reply)
}

// otherDesk is a desk with little room.
func otherDesk() impl.Desk {
	return impl.Desk{Things: []int{100}, Boxes: cubes(50), Stack: sameThings(1000, 0, 1, 7)}
}

func TestLinesThatAskKeepTheDesk(t *testing.T) {
	for _, c := range allLineCases() {
		word, _, _ := strings.Cut(c.line, " ")
		before, ok := impl.DeskAfter(c.before)
		if !ok {
			t.Fatalf("%q is no script", c.before)
		}
		if !slices.Contains([]string{"things", "boxes", "stack", "drop"}, word) {
			mustKeepTheDesk(t, before, c.line, c.reply)
		}
	}
}

// roomLines are all lines that ask about the Things and a room or a number of boxes.
func roomLines() []string {
	return []string{"next", "first", "best", "worst", "great", "few", "plan", "ways", "room", "fill"}
}

func linesThatAreNo() []string {
	lines := []string{
		// Things that there are not.
		"drop 4", "drop 5", "drop 9", "drop 999999",
		// No safe order.
		"safe",
		// Nothing fills the room just so.
		"fill 2", "fill 5", "fill 12", "fill 15", "fill 21", "fill 1000",
		// More boxes than things may be.
		"room 10",
		// A room in which the greatest thing is not.
		"next 6", "first 6", "best 6", "worst 6", "great 6", "few 6", "plan 6", "ways 6", "few 1",
		// Boards that are none, with pieces that are worth nothing.
		"value 0 0 1x1=0", "turned 25 25 1x1=0",
	}
	for _, word := range roomLines() {
		lines = append(lines, word+" 0", word+" 1001", word+" 999999")
	}
	for _, sides := range []string{"0 0", "0 5", "5 0", "25 5", "5 25", "25 25", "24 999999", "999999 24", "999999 999999"} {
		lines = append(lines, "squares "+sides, "euclid "+sides, "value "+sides+" 2x1=3,3x3=8", "turned "+sides+" 2x1=3,3x3=8")
	}
	return lines
}

func TestRepliesThatAreNo(t *testing.T) {
	for _, line := range linesThatAreNo() {
		mustKeepTheDesk(t, exampleDesk(), line, "no")
		mustReturn(t, fmt.Sprintf("FailedLines of %q", line), results(impl.FailedLines(scriptOf("show", line))), []int{2})
	}
}

// TestTheOnlyThingIsNotDropped drops things until one is left.
func TestTheOnlyThingIsNotDropped(t *testing.T) {
	for _, line := range []string{"drop 0", "drop 1", "drop 2", "drop 999999"} {
		mustKeepTheDesk(t, otherDesk(), line, "no")
	}
	script := scriptOf("drop 3", "drop 1", "drop 1", "drop 0", "drop 1", "drop 0", "show")
	mustReturn(t, "RunScript of drops", results(impl.RunScript(script)), []string{"4-7-3", "4-3", "4", "no", "no", "no", "4"})
	mustReturn(t, "FailedLines of drops", results(impl.FailedLines(script)), []int{4, 5, 6})
}

// badWords are none of a number, and none of the texts.
func badWords() []string {
	return []string{
		"", "-", "+", "+5", "-5", "-0", "+0", "00", "01", "007", "0000005", "1000000", "9999999", "10000000", "99999999999999999999", "18446744073709551626", "5.0", "5,", "5e0", "0x5", "1_0", "ten", "N", "K", "\x00", "5\x00", "\t5", "5\t", "5\r", "٥", "\xff",
		"=", "x", "/", ",", "1x1", "1x1x", "1/1", "1/1/", "1x1=", "1x1x1,", ",1x1x1", "2x1=3,", ",2x1=3", "3/5/2,", "4-7-", "-4-7", "4--7", "1x1/1",
	}
}

// wordsByKind are words of each kind, the kind being the letter by which the table tells it.
func wordsByKind() map[string][]string {
	return map[string][]string{
		"N": {"0", "1", "5", "10", "24", "999999"},
		"K": {"0", "1", "5", "10", "24", "999999"},
		"T": {"5", "4-7-3-6", "100", "1-1-1-1-1-1-1-1-1"},
		"B": {"1x1x1", "50x50x50", "1x1x1,2x2x2", sevenTimes("1x2x3")},
		"S": {"1/0/1", "1000/1000/1000", "3/5/2,2/4/3", sevenTimes("3/2/1")},
		"P": {"1x1=0", "2x1=3,3x3=8", "24x24=1000,1x24=0,24x1=1,2x2=2"},
	}
}

// noTexts are texts of things, boxes, stacks and pieces that are none, by their kinds.
func noTexts() map[string][]string {
	return map[string][]string{
		"T": {"0", "101", "4-0", "0-4", "4-101", "04-7", "4-07", "4,7", "4 7", "4-7-3-6-", "1-1-1-1-1-1-1-1-1-1", "1x1x1", "3/5/2", "2x1=3", "+4-7", "4-+7", "1000"},
		"B": {"0x1x1", "1x0x1", "1x1x0", "51x1x1", "1x51x1", "1x1x51", "1x1", "1x1x1x1", "01x1x1", "1x1x1,1x1", "1x1x1;2x2x2", "1X1X1", "1/1/1", "1-1-1", "5", "1x1=1", sevenTimes("1x1x1") + ",1x1x1"},
		"S": {"0/1/1", "1/-1/1", "1/1/0", "1001/1/1", "1/1001/1", "1/1/1001", "1/1", "1/1/1/1", "01/1/1", "1/00/1", "1/1/1,1/1", "1x1x1", "5", "1-1-1", sevenTimes("1/1/1") + ",1/1/1"},
		"P": {"0x1=1", "1x0=1", "25x1=1", "1x25=1", "1x1=1001", "1x1=-1", "1x1", "1x1=", "=1", "1=1x1", "1x1x1", "01x1=1", "1x1=00", "1x1=1,1x1", "1x1=1,1x1=1,1x1=1,1x1=1,1x1=1", "5", "4-7", "1/1/1"},
	}
}

// filled returns all lines that come of a line as the table has it if its letters are exchanged for words.
func filled(form string, words map[string][]string) []string {
	lines := []string{""}
	for i, word := range strings.Split(form, " ") {
		choices := words[word]
		if choices == nil {
			choices = []string{word}
		}
		if i > 0 {
			choices = slices.Clone(choices)
			for k := range choices {
				choices[k] = " " + choices[k]
			}
		}
		var longer []string
		for _, line := range lines {
			for _, choice := range choices {
				longer = append(longer, line+choice)
			}
		}
		lines = longer
	}
	return lines
}

// sampleLines are lines of all kinds that are known.
func sampleLines() []string {
	var lines []string
	for _, form := range formsInModel() {
		lines = append(lines, filled(form, wordsByKind())...)
	}
	return lines
}

func linesThatAreWhat() []string {
	lines := []string{
		"", " ", "  ", "\t", "\r", "\x00", "\xff", "-", "0", "5", "4-7-3-6", "fly", "no", "what", "help", "N", "things", "boxes", "stack", "drop", "dropp 1", "dro 1", "thing 5", "box 1x1x1", "stacks 1/1/1", "nex 10", "next10", "next,10", "next\t10", "next-10",
		"Things 5", "THINGS 5", "SHOW", "Show", "sHow", "Next 10", "NEXT 10", "Nest", "Value 5 3 2x1=3", "squareS 6 5",
		"load 312", "solve 2t", "case 4.2.5", "rods 10", "shelf 7", "quit", "show;tell", "show\r", "tallest", "strongest", "squares 6x5", "euclid 6,5", "things 4 7 3 6", "boxes 1 1 1", "value 5 3 2x1=3 3x3=8",
		strings.Repeat("x", 3000), strings.Repeat(" ", 3000), "show" + strings.Repeat(" ", 2996), "few " + strings.Repeat("1", 2996), "few " + strings.Repeat("0", 2995) + "7", "things " + strings.Repeat("1-", 1496) + "1",
	}
	for _, line := range sampleLines() {
		lines = append(lines, line+" ", " "+line, line+" 5", line+"  ", "5 "+line, line+" "+line)
		words := strings.Split(line, " ")
		if len(words) > 1 {
			// A word too few, two blanks, and capital letters.
			lines = append(lines, strings.Join(words[:len(words)-1], " "), strings.Replace(line, " ", "  ", 1), strings.ToUpper(words[0])+" "+strings.Join(words[1:], " "))
		}
	}
	return slices.DeleteFunc(lines, func(line string) bool { return len(line) > impl.MaxScript })
}

func TestRepliesThatAreWhat(t *testing.T) {
	for _, line := range linesThatAreWhat() {
		mustKeepTheDesk(t, exampleDesk(), line, "what")
		mustKeepTheDesk(t, otherDesk(), line, "what")
	}
}

// TestWordsOfNoKind puts a bad word in the place of each word of a line. It does not matter what the other words are, and whether the function would fail.
func TestWordsOfNoKind(t *testing.T) {
	for _, line := range sampleLines() {
		words := strings.Split(line, " ")
		for i := range words {
			for _, bad := range badWords() {
				exchanged := slices.Clone(words)
				exchanged[i] = bad
				mustKeepTheDesk(t, exampleDesk(), strings.Join(exchanged, " "), "what")
			}
		}
	}
}

func TestTextsOfNoKind(t *testing.T) {
	words := wordsByKind()
	for kind, texts := range noTexts() {
		words[kind] = texts
	}
	for _, form := range []string{"things T", "boxes B", "stack S", "value N K P", "turned N K P"} {
		for _, line := range filled(form, words) {
			mustKeepTheDesk(t, exampleDesk(), line, "what")
		}
	}
}

func TestNumbersOfLines(t *testing.T) {
	for number, reply := range map[string]string{"0": "no", "1": "no", "6": "no", "7": "3", "10": "2", "20": "1", "999": "1", "1000": "1", "1001": "no", "100000": "no", "999999": "no", "1000000": "what", "1000007": "what", "0000007": "what", "07": "what", "+7": "what", "-7": "what", "": "what", "7.": "what"} {
		mustKeepTheDesk(t, exampleDesk(), "few "+number, reply)
	}
	eachString("059+- .", 5, func(word string) {
		mustFollowLine(t, firstDeskInModel(), "few "+word)
	})
}

// mustFollowLine checks that DeskLine does what the model does, and returns the desk of the model behind the line.
func mustFollowLine(t *testing.T, d deskInModel, line string) deskInModel {
	t.Helper()
	behind, reply := answerInModel(d, line)
	mustReturn(t, fmt.Sprintf("DeskLine of %v and %.200q", d, line), results(impl.DeskLine(d.asDesk(), line)), behind.asDesk(), reply)
	return behind
}

// mustFollowScript checks that all that is told of a script is what the model tells, also of a text that is none.
func mustFollowScript(t *testing.T, script string) {
	t.Helper()
	name := fmt.Sprintf(" of %.400q", script)
	if !isScriptInModel(script) {
		mustFail(t, "RunScript"+name, results(impl.RunScript(script)))
		mustFail(t, "DeskAfter"+name, results(impl.DeskAfter(script)))
		mustFail(t, "FailedLines"+name, results(impl.FailedLines(script)))
		return
	}
	var lines []string
	for line := range strings.Lines(script) {
		lines = append(lines, line[:len(line)-1])
	}
	desks, replies := runInModel(firstDeskInModel(), lines)
	after := firstDeskInModel()
	var failed []int
	for i, reply := range replies {
		after = desks[i]
		if reply == "no" || reply == "what" {
			failed = append(failed, i+1)
		}
	}
	mustReturn(t, "RunScript"+name, results(impl.RunScript(script)), replies)
	mustReturn(t, "DeskAfter"+name, results(impl.DeskAfter(script)), after.asDesk())
	mustReturn(t, "FailedLines"+name, results(impl.FailedLines(script)), failed)
}

func TestSampleLinesFollowTheModel(t *testing.T) {
	desks := []deskInModel{
		firstDeskInModel(),
		{"10", "5x6x7", "5/0/3"},
		{"1-1-1-1-1-1-1-1-1", sevenTimes("1x1x1"), sevenTimes("1/0/1")},
		{"100-99-98", "7x7x7,6x6x6,5x5x5", "1/9/2,1/10/3"},
	}
	for _, d := range desks {
		for _, line := range sampleLines() {
			mustFollowLine(t, d, line)
		}
	}
	for _, line := range slices.Concat(linesThatAreNo(), linesThatAreWhat()) {
		mustFollowLine(t, firstDeskInModel(), line)
	}
}

// TestLinesWithAByteChanged takes a byte out of lines, puts one in, or exchanges one.
func TestLinesWithAByteChanged(t *testing.T) {
	for _, line := range []string{"show", "things 4-7", "boxes 1x2x3", "stack 3/5/2", "drop 1", "next 10", "pairs", "squares 6 5", "turned 5 3 2x1=3"} {
		check := func(line string) { mustFollowLine(t, firstDeskInModel(), line) }
		for i := range len(line) + 1 {
			for _, b := range strings.Split("0129-x/=, +sN\x00", "") {
				check(line[:i] + b + line[i:])
				if i < len(line) {
					check(line[:i] + b + line[i+1:])
				}
			}
			if i < len(line) {
				check(line[:i] + line[i+1:])
			}
		}
	}
}

func TestScripts(t *testing.T) {
	first := exampleDesk()
	mustReturn(t, "RunScript of nothing", results(impl.RunScript("")), []string{})
	mustReturn(t, "DeskAfter nothing", results(impl.DeskAfter("")), first)
	mustReturn(t, "FailedLines of nothing", results(impl.FailedLines("")), []int{})
	mustReturn(t, "RunScript of an empty line", results(impl.RunScript("\n")), []string{"what"})
	mustReturn(t, "DeskAfter an empty line", results(impl.DeskAfter("\n")), first)
	mustReturn(t, "FailedLines of an empty line", results(impl.FailedLines("\n")), []int{1})
	mustReturn(t, "RunScript of one line", results(impl.RunScript("few 10\n")), []string{"2"})
	mustReturn(t, "FailedLines of one line", results(impl.FailedLines("few 10\n")), []int{})
	mustReturn(t, "RunScript with empty lines", results(impl.RunScript("\nshow\n\n")), []string{"what", "4-7-3-6", "what"})
	// The first line and the last one fail, by no and by what.
	mustReturn(t, "FailedLines at both ends", results(impl.FailedLines("fly\nshow\nfew 10\nsafe\n")), []int{1, 4})
	mustReturn(t, "FailedLines at both ends, exchanged", results(impl.FailedLines("safe\nshow\nfew 10\nfly\n")), []int{1, 4})
}

// longLine has 59 bytes, so that a script of 50 of them has 3000.
func longLine() string {
	return "boxes 10x10x10,11x11x11,12x12x12,13x13x13,14x14x14,15x15x15"
}

func TestLongScripts(t *testing.T) {
	numbers := make([]int, 50)
	for i := range numbers {
		numbers[i] = i + 1
	}
	mustReturn(t, "FailedLines of 50", results(impl.FailedLines(strings.Repeat("\n", 50))), numbers)
	mustReturn(t, "RunScript of 50", results(impl.RunScript(strings.Repeat("few 10\n", 50))), slices.Repeat([]string{"2"}, 50))
	full := strings.Repeat(longLine()+"\n", 50)
	if len(full) != 3000 {
		t.Fatalf("the script has %d bytes", len(full))
	}
	boxes := longLine()[len("boxes "):]
	mustReturn(t, "RunScript of 50 and 3000", results(impl.RunScript(full)), slices.Repeat([]string{boxes}, 50))
	mustReturn(t, "FailedLines of 50 and 3000", results(impl.FailedLines(full)), []int{})
	mustReturn(t, "RunScript of 3000", results(impl.RunScript(strings.Repeat("x", 2999)+"\n")), []string{"what"})
	for _, script := range []string{full, strings.Repeat("\n", 49), strings.Repeat("\n", 50), strings.Repeat("show\n", 49) + "drop 0\n", strings.Repeat(" ", 2999) + "\n", strings.Repeat("drop 0\n", 50)} {
		mustFollowScript(t, script)
	}
}

// noScripts are texts that are no scripts.
func noScripts() []string {
	full := strings.Repeat(longLine()+"\n", 50)
	return []string{
		// Without the last newline.
		"show", " ", "x", "\x00", "\r", "show\ntell", "\nshow", "\n ", "\n\r", "few 10\nfew 10\nfew 10", strings.Repeat("\n", 50) + "x", strings.Repeat("\n", 49) + "x", strings.Repeat("x", 3000),
		// 51 lines and more.
		strings.Repeat("\n", 51), strings.Repeat("\n", 52), strings.Repeat("show\n", 51), strings.Repeat("\n", 3000), strings.Repeat("\n", 100000),
		// 3001 bytes and more.
		strings.Repeat("x", 3000) + "\n", full[:2999] + " \n", "x" + full, full + "x", full + "\n", strings.Repeat("x", 100000) + "\n", strings.Repeat("x", 1<<20),
	}
}

func TestTextsThatAreNoScripts(t *testing.T) {
	for _, text := range noScripts() {
		name := fmt.Sprintf(" of %d bytes, %.40q", len(text), text)
		mustFail(t, "RunScript"+name, results(impl.RunScript(text)))
		mustFail(t, "DeskAfter"+name, results(impl.DeskAfter(text)))
		mustFail(t, "FailedLines"+name, results(impl.FailedLines(text)))
	}
}

func TestScriptsOfShortStrings(t *testing.T) {
	eachString("put\n ", 5, func(script string) { mustFollowScript(t, script) })
}

// consoleWord returns a word of a kind, most often a valid one.
func (m *mixer) consoleWord(kind string) string {
	text := ""
	switch kind {
	case "N", "K":
		text = fmt.Sprint(m.next(0, []int{3, 12, 30, 1001}[m.next(0, 3)]))
	case "T":
		text, _ = impl.ThingsText(m.list(m.next(1, impl.MaxThings), 1, []int{4, 12, impl.MaxSize}[m.next(0, 2)]))
	case "B":
		text, _ = impl.BoxesText(m.nested(m.next(1, impl.MaxNested), m.next(2, 9)))
	case "S":
		text, _ = impl.StackablesText(m.stackables(m.next(1, 5), 5, 15, 4))
	case "P":
		text, _ = impl.PiecesText(m.pieces(m.next(1, impl.MaxPieces), 5, 9))
	default:
		text = kind
	}
	if m.next(0, 40) == 0 {
		text = badWords()[m.next(0, len(badWords())-1)]
	}
	return text
}

// consoleLine returns a line, most often one that is known.
func (m *mixer) consoleLine() string {
	forms := formsInModel()
	words := strings.Split(forms[m.next(0, len(forms)-1)], " ")
	for i, word := range words {
		words[i] = m.consoleWord(word)
	}
	if m.next(0, 40) == 0 {
		words = append(words, "")
	}
	return strings.Join(words, " ")
}

func TestScriptsFollowTheModel(t *testing.T) {
	m := &mixer{state: 81}
	for lines := range impl.MaxLines + 1 {
		for range 8 {
			script := ""
			for range lines {
				script += m.consoleLine() + "\n"
			}
			mustFollowScript(t, script)
		}
	}
}

// TestScriptsAreLines checks that a script does what its lines do, one after the other, by DeskLine.
func TestScriptsAreLines(t *testing.T) {
	m := &mixer{state: 82}
	for range 100 {
		desk, script := impl.FirstDesk(), ""
		var replies []string
		var failed []int
		for i := range m.next(1, impl.MaxLines) {
			line := m.consoleLine()
			next, reply, ok := impl.DeskLine(desk, line)
			if !ok || !impl.IsDesk(next) {
				t.Fatalf("DeskLine of %v and %q: %v %q %v", desk, line, next, reply, ok)
			}
			if reply == "no" || reply == "what" {
				failed = append(failed, i+1)
			}
			desk, script, replies = next, script+line+"\n", append(replies, reply)
		}
		if len(script) > impl.MaxScript {
			continue
		}
		name := fmt.Sprintf(" of %q", script)
		mustReturn(t, "RunScript"+name, results(impl.RunScript(script)), replies)
		mustReturn(t, "DeskAfter"+name, results(impl.DeskAfter(script)), desk)
		mustReturn(t, "FailedLines"+name, results(impl.FailedLines(script)), failed)
	}
}
