package tests

import (
	"fmt"
	"strings"
	"testing"

	"loop.example/g00052/impl"
)

// waitingLines let so many callers wait, whom nobody can take: calls 100, 101 and
// so on, at tick 3.
func waitingLines(n int) string {
	var lines []string
	for i := range n {
		lines = append(lines, fmt.Sprintf("call %d 4 0 3", 100+i))
	}
	return strings.Join(lines, "; ")
}

// waitingWords are those callers in the notation of desks.
func waitingWords(n int) string {
	words := ""
	for i := range n {
		words += fmt.Sprintf(" %d/4!0@3", 100+i)
	}
	return words
}

// P20: calls that are given to agents, or wait.
func TestCallLines(t *testing.T) {
	checkLineCases(t, deskPart, []lineCase{
		{"", "call 5 1 0 1", "ok 5", "1 1: 1=5@1 2@0 3@0 |"},
		{"", "call 5 2 0 0", "ok 5", "0 1: 1@0 2=5@0 3@0 |"},
		{"", "call 0 1 9 0", "ok 0", "0 1: 1=0@0 2@0 3@0 |"},
		{"", "call 9999999 1 0 9999999", "ok 9999999", "9999999 1: 1=9999999@9999999 2@0 3@0 |"},
		{"", "call 5 4 3 7", "ok", "7 0: 1@0 2@0 3@0 | 5/4!3@7"},
		{"", "call 5 128 0 0", "ok", "0 0: 1@0 2@0 3@0 | 5/128!0@0"},
		{"", "call 0 64 9 1", "ok", "1 0: 1@0 2@0 3@0 | 0/64!9@1"},
		{"call 5 1 0 1", "call 6 1 0 1", "ok 6", "1 2: 1=5@1 2@0 3=6@1 |"},
		{"call 5 1 0 1; call 6 1 0 2", "call 7 1 0 3", "ok", "3 2: 1=5@1 2@0 3=6@2 | 7/1!0@3"},
		{"call 5 1 0 1; call 6 1 0 2; call 7 1 0 3", "call 8 2 0 4", "ok 8", "4 3: 1=5@1 2=8@4 3=6@2 | 7/1!0@3"},
		{"call 5 1 0 1; end 0 4", "call 5 1 0 4", "ok 5", "4 2: 1=5@4 2@0 3@0 |"},
		{"call 5 4 0 1; gone 5 4", "call 5 4 0 4", "ok", "4 0: 1@0 2@0 3@0 | 5/4!0@4"},
		{waitingLines(39), "call 9 4 0 3", "ok", "3 0: 1@0 2@0 3@0 |" + waitingWords(39) + " 9/4!0@3"},
		{waitingLines(40), "call 9 1 0 3", "ok 9", "3 1: 1=9@3 2@0 3@0 |" + waitingWords(40)},
		{waitingLines(40), "call 9 2 5 4", "ok 9", "4 1: 1@0 2=9@4 3@0 |" + waitingWords(40)},
	})
}

// P20: calls that can't come: DeskBad and DeskFull.
func TestRefusedCallLines(t *testing.T) {
	var skills []string
	for skill := range 300 {
		if !strings.Contains(" 1 2 4 8 16 32 64 128 ", fmt.Sprintf(" %d ", skill)) {
			skills = append(skills, fmt.Sprintf("call 5 %d 0 9", skill))
		}
	}
	checkLineCases(t, deskPart, refusedLines("", skills...))
	wrong := []string{"call 7 256 0 9", "call 7 9999999 0 9", "call 7 1 10 9", "call 7 1 9999999 9", "call 7 0 10 9"}
	checkLineCases(t, deskPart, refusedLines("", append(wrong, "call 10000000 1 0 9", "call 7 1 0 10000000")...))
	talks := "call 5 1 0 3; call 6 4 0 3"
	checkLineCases(t, deskPart, refusedLines(talks, append(wrong, "call 5 1 0 3", "call 5 2 0 9", "call 6 4 0 3", "call 6 1 0 9", "call 9 1 0 2", "call 9 4 0 0")...))
	checkLineCases(t, deskPart, refusedLines(waitingLines(40), "call 9 4 0 3", "call 9 8 9 9", "call 100 4 0 3", "call 139 1 0 3", "call 9 1 0 2"))
}

// P20: agents that end, and callers who give up.
func TestEndAndGoneLines(t *testing.T) {
	busy := "call 5 1 0 1; call 6 2 0 1; call 7 1 0 2"
	checkLineCases(t, deskPart, []lineCase{
		{"call 5 1 0 1", "end 0 1", "ok", "1 1: 1@1 2@0 3@0 |"},
		{"call 5 1 0 1", "end 0 9999999", "ok", "9999999 1: 1@9999999 2@0 3@0 |"},
		{busy, "end 2 5", "ok", "5 3: 1=5@1 2=6@1 3@5 |"},
		{busy + "; call 8 1 0 3", "end 0 5", "ok 8", "5 4: 1=8@5 2=6@1 3=7@2 |"},
		{busy + "; call 8 1 0 3", "end 1 5", "ok", "5 3: 1=5@1 2@5 3=7@2 | 8/1!0@3"},
		{busy + "; call 8 1 0 3; call 9 1 4 4", "end 0 5", "ok 9", "5 4: 1=9@5 2=6@1 3=7@2 | 8/1!0@3"},
		{busy + "; call 8 1 0 3; call 9 2 0 4", "end 2 5", "ok 8", "5 4: 1=5@1 2=6@1 3=8@5 | 9/2!0@4"},
		{busy + "; call 8 2 0 3; call 9 1 0 3; call 10 1 0 3", "end 0 5", "ok 9", "5 4: 1=9@5 2=6@1 3=7@2 | 8/2!0@3 10/1!0@3"},
		{busy + "; call 9999999 1 0 3", "end 0 5", "ok 9999999", "5 4: 1=9999999@5 2=6@1 3=7@2 |"},
		{"call 5 4 0 3", "gone 5 3", "ok", "3 0: 1@0 2@0 3@0 |"},
		{"call 5 4 0 3", "gone 5 9999999", "ok", "9999999 0: 1@0 2@0 3@0 |"},
		{"call 0 4 0 3; call 1 4 0 3; call 2 4 0 3", "gone 1 4", "ok", "4 0: 1@0 2@0 3@0 | 0/4!0@3 2/4!0@3"},
		{busy + "; call 8 1 0 3; call 9 2 0 4", "gone 8 4", "ok", "4 3: 1=5@1 2=6@1 3=7@2 | 9/2!0@4"},
	})
	// DeskNone and DeskBad.
	none := []string{"end 3 9", "end 4 9", "end 12 9", "end 9999999 9", "gone 50 9", "gone 9999999 9", "end 0 10000000", "gone 5 10000000", "end 10000000 9"}
	checkLineCases(t, deskPart, refusedLines("", append(none, "end 0 0", "end 1 9", "end 2 9", "gone 5 9", "gone 0 0")...))
	checkLineCases(t, deskPart, refusedLines(busy+"; call 8 1 0 3", append(none, "end 0 2", "end 0 0", "gone 8 2", "gone 5 3", "gone 6 9", "gone 7 9", "gone 9 9")...))
	checkLineCases(t, deskPart, refusedLines("call 5 1 0 1; end 0 4", append(none, "end 0 4", "end 1 4", "end 0 3", "gone 5 4")...))
	checkLineCases(t, deskPart, refusedLines("call 5 4 0 1; gone 5 4", append(none, "gone 5 4", "gone 5 9", "call 6 1 0 3")...))
}

// P20: ticks that fall are refused, whatever was refused in between; the desk goes
// on from the tick of the last line that was done.
func TestFallingTicks(t *testing.T) {
	checkTalk(t, "call 5 1 0 10: ok 5; call 6 1 0 9: no; end 0 9: no; gone 6 9: no; end 1 20: no; call 6 1 0 10: ok 6; end 0 12: ok; end 2 11: no; gone 6 30: no; end 2 12: ok; call 7 3 0 40: no; call 7 1 0 12: ok 7")
}

// P20: what is given is told behind ok, by whoever it comes: no line of the console
// gives more than one, as each frees one agent or lets one caller come.
func TestCallsGiven(t *testing.T) {
	checkTalk(t, "call 1 1 0 1: ok 1; call 2 2 0 1: ok 2; call 3 1 0 1: ok 3; call 4 1 0 1: ok; call 5 2 0 1: ok; call 6 1 1 1: ok; end 2 2: ok 6; end 2 2: ok 4; end 2 2: ok 5; end 2 2: ok; end 2 2: no; gone 4 2: no")
	r := drawn(2021)
	told := map[int]int{}
	for range 300 {
		text, tick := "", 0
		for range 100 {
			tick += r.below(2)
			switch r.below(5) {
			case 0, 1, 2:
				text += fmt.Sprintf("call %d %d %d %d\n", r.below(60), 1<<r.below(2), r.below(3), tick)
			case 3:
				text += fmt.Sprintf("end %d %d\n", r.below(3), tick)
			case 4:
				text += fmt.Sprintf("gone %d %d\n", r.below(60), tick)
			}
		}
		for line := range strings.Lines(checkSecondConsole(t, text)) {
			told[len(strings.Fields(line))]++
		}
	}
	if told[1] == 0 || told[2] == 0 || len(told) != 2 {
		t.Error(told)
	}
}

// P20: the desk of the console and RunDesk by the same ops are one.
func TestDeskByRunDesk(t *testing.T) {
	desk, given, _ := impl.RunDesk(deskOf(firstParts[deskPart]), deskOpsOf("call 5/1!2@1, call 6/1@1, call 7/1@2, call 8/1!9@2, end 0@3, gone 7@3, end 2@4"))
	text := linesOf("call 5 1 2 1; call 6 1 0 1; call 7 1 0 2; call 8 1 9 2; end 0 3; gone 7 3; end 2 4")
	if s := standingBehind(text); !sameDesk(s.desk, desk) || fmt.Sprint(given) != "[5 6 8]" || impl.Console(text) != "ok 5\nok 6\nok\nok\nok 8\nok\nok\n" {
		t.Errorf("%s %s %v %q", s, textOfDesk(desk), given, impl.Console(text))
	}
}
