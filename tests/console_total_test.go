package tests

import (
	"fmt"
	"math"
	"slices"
	"strings"
	"testing"

	"loop.example/g01334/impl"
)

// Promise 11 for chapter 10: every function accepts all arguments, modifies none of them and shares no memory with them.

// badDesks are desks with things, boxes or a stack that are none, the others being valid or not.
func badDesks() []impl.Desk {
	var desks []impl.Desk
	exchange := func(change func(d *impl.Desk)) {
		d := exampleDesk()
		change(&d)
		desks = append(desks, d)
	}
	for _, things := range badThings() {
		exchange(func(d *impl.Desk) { d.Things = things })
	}
	for _, boxes := range badNests() {
		exchange(func(d *impl.Desk) { d.Boxes = boxes })
	}
	for _, stack := range badStackables() {
		exchange(func(d *impl.Desk) { d.Stack = stack })
	}
	return append(desks, impl.Desk{}, impl.Desk{Things: []int{5}}, impl.Desk{Boxes: cubes(5)}, impl.Desk{Stack: exampleStackables()}, impl.Desk{Things: []int{0}, Boxes: cubes(0), Stack: sameThings(0, 0, 0, 1)})
}

func goodDesks() []impl.Desk {
	return []impl.Desk{
		exampleDesk(), otherDesk(),
		{Things: []int{1}, Boxes: cubes(1), Stack: sameThings(1, 0, 1, 1)},
		{Things: repeated(100, 9), Boxes: sameNested(1, 50, 25, 7), Stack: sameThings(1000, 1000, 1000, 7)},
	}
}

func TestIsDesk(t *testing.T) {
	for _, d := range goodDesks() {
		if !impl.IsDesk(d) {
			t.Errorf("IsDesk is false of %v", d)
		}
	}
	for _, d := range badDesks() {
		if impl.IsDesk(d) {
			t.Errorf("IsDesk is true of %v", d)
		}
	}
}

// oneOfEach are lines, one of each kind, and some that fail.
func oneOfEach() []string {
	words := map[string][]string{"N": {"3"}, "K": {"4"}, "T": {"5-6"}, "B": {"1x2x3"}, "S": {"1/2/3"}, "P": {"2x1=3"}}
	lines := []string{"", "fly", "fill 13", "next 1001", "drop 9", "things 0", "things 3-3-3-3", "drop 0", "few 100", "fill 10"}
	for _, form := range formsInModel() {
		lines = append(lines, filled(form, words)...)
	}
	return lines
}

func TestDesksAreRequired(t *testing.T) {
	for _, d := range badDesks() {
		for _, line := range oneOfEach() {
			mustFail(t, fmt.Sprintf("DeskLine of %.200s and %q", fmt.Sprint(d), line), results(impl.DeskLine(d, line)))
		}
	}
}

func TestLinesAreRequired(t *testing.T) {
	lines := []string{
		"\n", "\n\n", "show\n", "\nshow", "sh\now", "show\ntell", "show \n", "few 1\n0", "things 4\n-7", "fly\n", " \n ", strings.Repeat("x", 2999) + "\n", strings.Repeat("\n", 3000),
		strings.Repeat("x", 3001), strings.Repeat(" ", 3001), "show" + strings.Repeat(" ", 2997), strings.Repeat("x", 3000) + "\n", strings.Repeat("x", 1<<20), "few " + strings.Repeat("1", 2997), strings.Repeat("\x00", 3001),
	}
	for _, d := range goodDesks() {
		for _, line := range lines {
			mustFail(t, fmt.Sprintf("DeskLine of %v and %d bytes, %.40q", d, len(line), line), results(impl.DeskLine(d, line)))
		}
		// A line may be as long as a script.
		line := strings.Repeat("x", impl.MaxScript)
		mustReturn(t, "DeskLine of 3000 bytes", results(impl.DeskLine(d, line)), d, "what")
	}
}

// guardedDesk returns a desk with spare capacity behind all parts, and a check that nothing was written.
func guardedDesk(d impl.Desk) (impl.Desk, func(t *testing.T, name string)) {
	things, thingsKept := guarded(d.Things)
	boxes, boxesKept := guardedBy(d.Boxes, markedBox())
	stack, stackKept := guardedBy(d.Stack, markedThing())
	return impl.Desk{Things: things, Boxes: boxes, Stack: stack}, func(t *testing.T, name string) {
		t.Helper()
		thingsKept(t, name)
		boxesKept(t, name)
		stackKept(t, name)
	}
}

func TestDesksAreKept(t *testing.T) {
	for _, desk := range slices.Concat(goodDesks(), badDesks()) {
		d, kept := guardedDesk(desk)
		mustKeep(t, fmt.Sprintf("IsDesk of %v", desk), func() []any { return results(impl.IsDesk(d)) }, kept)
		for _, line := range oneOfEach() {
			name := fmt.Sprintf("DeskLine of %v and %q", desk, line)
			mustKeep(t, name, func() []any { return results(impl.DeskLine(d, line)) }, kept)
		}
	}
}

// TestReturnedDesksAreTheCallersOwn writes into a desk that came in, and looks whether one that was returned changes.
func TestReturnedDesksAreTheCallersOwn(t *testing.T) {
	for _, line := range oneOfEach() {
		for _, desk := range goodDesks() {
			d, _ := guardedDesk(desk)
			behind, reply, ok := impl.DeskLine(d, line)
			want := fmt.Sprint(behind, reply, ok)
			spoil(results(d))
			if got := fmt.Sprint(behind, reply, ok); got != want || !ok {
				t.Errorf("DeskLine of %v and %q: %s, and %s when the desk that came in is changed", desk, line, want, got)
			}
		}
	}
}

func TestNewDesks(t *testing.T) {
	mustKeep(t, "FirstDesk", func() []any { return results(impl.FirstDesk()) })
	scripts := []string{"", "\n", "show\n", "drop 0\n", "drop 3\ndrop 0\n", "things 5-6\n", "boxes 1x2x3\nstack 1/2/3\n", "fly\nsafe\n", "x"}
	for _, script := range scripts {
		mustKeep(t, fmt.Sprintf("DeskAfter %q", script), func() []any { return results(impl.DeskAfter(script)) })
		mustKeep(t, fmt.Sprintf("FailedLines of %q", script), func() []any { return results(impl.FailedLines(script)) })
		mustKeep(t, fmt.Sprintf("RunScript of %q", script), func() []any { return results(impl.RunScript(script)) })
	}
}

// TestScriptsKeepNothing runs a script that changes everything, and looks whether the next one begins with the first desk.
func TestScriptsKeepNothing(t *testing.T) {
	change := scriptOf("things 5", "boxes 1x2x3", "stack 1/2/3")
	mustReturn(t, "RunScript that changes", results(impl.RunScript(change)), []string{"5", "1x2x3", "1/2/3"})
	mustReturn(t, "FirstDesk behind it", results(impl.FirstDesk(), true), exampleDesk())
	mustReturn(t, "RunScript behind it", results(impl.RunScript(scriptOf("show", "tell", "list"))), []string{"4-7-3-6", "1x1x1,2x2x2,2x3x3,4x4x4", "3/5/2,2/4/3,4/1/1"})
	mustReturn(t, "DeskAfter nothing behind it", results(impl.DeskAfter("")), exampleDesk())
}

func TestScriptsAtTheSameTime(t *testing.T) {
	script := scriptOf(exampleLines()...)
	calls := map[string]func() []any{
		"FirstDesk":   func() []any { return results(impl.FirstDesk()) },
		"IsDesk":      func() []any { return results(impl.IsDesk(exampleDesk())) },
		"RunScript":   func() []any { return results(impl.RunScript(script)) },
		"DeskAfter":   func() []any { return results(impl.DeskAfter(script)) },
		"FailedLines": func() []any { return results(impl.FailedLines(script)) },
	}
	d := exampleDesk()
	for _, line := range oneOfEach() {
		// The same desk comes to all calls.
		calls["DeskLine of "+line] = func() []any { return results(impl.DeskLine(d, line)) }
	}
	for name, call := range calls {
		mustAgreeAtTheSameTime(t, name, call)
	}
}

// TestAnyLinesAreAccepted makes lines of odd words for desks of odd numbers.
func TestAnyLinesAreAccepted(t *testing.T) {
	odd := []int{math.MinInt, -1, 0, 1, 2, 50, 51, 100, 101, 1000, 1001, math.MaxInt}
	m := &mixer{state: 83}
	pick := func() int { return odd[m.next(0, len(odd)-1)] }
	words := slices.Concat(badWords(), []string{"\n", "things", "boxes", "stack", "drop", "few", "value", "turned", "squares", "tall", "5", "24", "4-7", "1x2x3", "1/2/3", "2x1=3"})
	for range 3000 {
		d := exampleDesk()
		if m.next(0, 1) == 0 {
			d = impl.Desk{Things: []int{pick(), pick()}, Boxes: []impl.Box{boxOf(pick(), pick(), pick())}, Stack: []impl.Thing{thingOf(pick(), pick(), pick())}}
		}
		var line []string
		for range m.next(0, 5) {
			line = append(line, words[m.next(0, len(words)-1)])
		}
		text := strings.Join(line, " ")
		all := results(impl.DeskLine(d, text))
		if want := impl.IsDesk(d) && !strings.Contains(text, "\n"); succeeded(all) != want {
			t.Errorf("DeskLine of %v and %q: want %v, got %v", d, text, want, all)
		} else if !want {
			mustFail(t, fmt.Sprintf("DeskLine of %v and %q", d, text), all)
		}
		mustFollowScript(t, text)
		mustFollowScript(t, text+"\n")
	}
}
