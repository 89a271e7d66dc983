package tests

import (
	"fmt"
	"math"
	"slices"
	"strings"
	"testing"

	"loop.example/g00052/impl"
)

// pressesOf writes a press as its digit, an @ and its tick: "1@100 2@105".
func pressesOf(text string) []impl.Press {
	var presses []impl.Press
	for _, word := range strings.Fields(text) {
		var digit rune
		var tick int
		mustScan(word, "%c@%d", &digit, &tick)
		presses = append(presses, impl.Press{Tick: tick, Digit: string(digit)})
	}
	return presses
}

// inStep presses each of the digits so many ticks behind the one ahead.
func inStep(digits string, from int, gap int) []impl.Press {
	var presses []impl.Press
	for i, digit := range digits {
		presses = append(presses, impl.Press{Tick: from + i*gap, Digit: string(digit)})
	}
	return presses
}

// overlapCase is rules, presses, how long each is waited for, and what is told when.
type overlapCase struct {
	why     string
	rules   string
	presses string
	wait    int
	want    impl.Dialled
	end     int
}

func checkOverlapCases(t *testing.T, cases []overlapCase) {
	t.Helper()
	for _, c := range cases {
		got, end := impl.Overlap(rulesOf(c.rules), pressesOf(c.presses), c.wait)
		if got != c.want || end != c.end {
			t.Errorf("%s: %q of %q in %d: %+v at %d, want %+v at %d", c.why, c.presses, c.rules, c.wait, got, end, c.want, c.end)
		}
	}
}

// The rules of the next tests: 1 is waited for behind each of 2 to 4 digits.
const waiting = "1 2-5 7 1 0; 2 3-3 8 0 -; 11 2-2 0 0 -"

func TestOverlapOfTheFirstThatIsTold(t *testing.T) {
	checkOverlapCases(t, []overlapCase{
		{"done at the last press", waiting, "2@100 3@105 4@107", 10, done(8, "234", 1), 107},
		{"done ahead of others", waiting, "2@100 3@105 4@107 5@107 6@108", 10, done(8, "234", 1), 107},
		{"done ahead of one that would be late", waiting, "2@100 3@105 4@107 5@999", 10, done(8, "234", 1), 107},
		{"done at Most", waiting, "1@0 2@1 3@2 4@3 5@4", 10, done(7, "02345", 0), 4},
		{"none at the first press", waiting, "3@100", 10, wantNone, 100},
		{"none ahead of others", waiting, "3@100 2@101 3@102 4@103", 10, wantNone, 100},
		{"an emergency ahead of all", waiting, "1@100 1@105 2@106", 10, done(0, "11", 2), 105},
		{"none behind what may be", "1 1-1 7 0 -; 123 3-3 8 0 -", "1@5 2@6 4@7", 10, wantNone, 7},
		{"done behind what may be", "1 1-1 7 0 -; 123 3-3 8 0 -", "1@5 2@6 3@7", 10, done(8, "123", 1), 7},
		{"all at one tick", waiting, "2@100 3@100 4@100", 1, done(8, "234", 1), 100},
		{"at tick 0", "1 1-1 7 0 -", "1@0", 1, done(7, "1", 0), 0},
		{"at MaxTick", "1 1-1 7 0 -", "1@1000000000", 1, done(7, "1", 0), 1000000000},
		{"no rules", "", "1@30", 5, wantNone, 30},
		{"star and hash", "*# 2-2 7 1 -", "*@3 #@4", 5, done(7, "#", 0), 4},
	})
}

func TestOverlapOfTheTimer(t *testing.T) {
	checkOverlapCases(t, []overlapCase{
		{"may be, none left", waiting, "1@100 2@105", 10, done(7, "02", 0), 115},
		{"may be, between", waiting, "1@100 2@105 3@110 4@112", 10, done(7, "0234", 0), 122},
		{"more, none left", waiting, "2@100 3@105", 10, wantLate, 115},
		{"more, one press alone", waiting, "2@100", 10, wantLate, 110},
		{"the next just in time", waiting, "1@100 2@105 3@115", 10, done(7, "023", 0), 125},
		{"the next one tick too late", waiting, "1@100 2@105 3@116", 10, done(7, "02", 0), 115},
		{"more, the next just in time", waiting, "2@100 3@110 4@120", 10, done(8, "234", 1), 120},
		{"more, the next one tick too late", waiting, "2@100 3@110 4@121", 10, wantLate, 120},
		{"the second one too late", waiting, "2@100 3@111", 10, wantLate, 110},
		{"far too late", waiting, "1@0 2@1 3@1000000000", 1000, done(7, "02", 0), 1001},
		{"those behind a late one do not count", waiting, "1@100 2@105 3@116 4@117 5@118", 10, done(7, "02", 0), 115},
		{"a late one that would be none", waiting, "2@100 3@105 4@116", 10, wantLate, 115},
		{"a late one that would be an emergency", waiting, "1@100 1@111", 10, wantLate, 110},
		{"the first is never late", waiting, "2@5000 3@5001 4@5002", 1, done(8, "234", 1), 5002},
		{"may be by what is open", "1 1-1 7 0 -; 123 3-3 8 0 -", "1@5", 10, done(7, "1", 0), 15},
		{"over and open", "1 1-1 7 0 -; 123 3-3 8 0 -", "1@5 2@6", 10, wantLate, 16},
		{"over and open, too late", "1 1-1 7 0 -; 123 3-3 8 0 -", "1@5 2@6 3@17", 10, wantLate, 16},
		{"no press", waiting, "", 10, wantLate, 10},
		{"no press, no rules", "", "", 7, wantLate, 7},
		{"no press, the least wait", waiting, "", 1, wantLate, 1},
		{"no press, the greatest wait", waiting, "", 1000, wantLate, 1000},
		{"wait 1, in time", waiting, "1@100 2@101 3@102", 1, done(7, "023", 0), 103},
		{"wait 1, too late", waiting, "1@100 2@101 3@103", 1, done(7, "02", 0), 102},
		{"wait 1000, in time", waiting, "2@0 3@1000 4@2000", 1000, done(8, "234", 1), 2000},
		{"wait 1000, too late", waiting, "2@0 3@1000 4@2001", 1000, wantLate, 2000},
		{"beyond MaxTick", waiting, "1@999999999 2@1000000000", 1000, done(7, "02", 0), 1000001000},
		{"late beyond MaxTick", waiting, "2@1000000000", 1, wantLate, 1000000001},
		{"all at one tick", waiting, "1@5 2@5 3@5", 2, done(7, "023", 0), 7},
	})
}

func TestOverlapOfMaxDigits(t *testing.T) {
	rules := rulesOf("1 20-20 7 0 -; 2 1-20 8 0 -")
	if got, end := impl.Overlap(rules, inStep(ones(20), 10, 3), 3); got != done(7, ones(20), 0) || end != 67 {
		t.Error(got, end)
	}
	if got, end := impl.Overlap(rules, inStep(ones(19), 10, 3), 3); got != wantLate || end != 67 {
		t.Error(got, end)
	}
	if got, end := impl.Overlap(rules, inStep(ones(21), 10, 3), 3); got != wantBad || end != -1 {
		t.Error(got, end)
	}
	if got, end := impl.Overlap(rules, inStep(strings.Repeat("2", 19), 10, 3), 3); got != done(8, strings.Repeat("2", 19), 1) || end != 67 {
		t.Error(got, end)
	}
	// One too many is refused even where the first press tells all.
	if got, end := impl.Overlap(rules, inStep(strings.Repeat("3", 21), 10, 0), 3); got != wantBad || end != -1 {
		t.Error(got, end)
	}
	if got, end := impl.Overlap(rules, inStep(strings.Repeat("3", 20), 10, 0), 3); got != wantNone || end != 10 {
		t.Error(got, end)
	}
}

// wrongPresses have one fault each, by what it is.
func wrongPresses() map[string][]impl.Press {
	wrong := map[string][]impl.Press{
		"a tick below 0":          pressesOf("1@-1 2@5"),
		"a tick far below 0":      {{Tick: math.MinInt, Digit: "1"}},
		"a tick above MaxTick":    pressesOf("1@5 2@1000000001"),
		"a tick far above":        {{Tick: math.MaxInt, Digit: "1"}},
		"ticks that fall":         pressesOf("1@5 2@4"),
		"that fall at the end":    pressesOf("1@5 2@5 3@6 4@5"),
		"that fall below 0":       pressesOf("1@5 2@-1"),
		"no digit":                {{Tick: 5, Digit: ""}},
		"no digit at the end":     {{Tick: 5, Digit: "1"}, {Tick: 6, Digit: ""}},
		"two digits":              {{Tick: 5, Digit: "12"}},
		"two digits at the end":   {{Tick: 5, Digit: "1"}, {Tick: 6, Digit: "23"}},
		"one too many":            inStep(ones(21), 5, 1),
		"many too many":           inStep(ones(5000), 5, 1),
		"wrong behind a done one": pressesOf("2@5 3@6 4@7 x@8"),
		"wrong behind a none":     pressesOf("3@5 1@1000000001"),
		"wrong behind a late one": pressesOf("1@5 2@6 3@500 4@400"),
	}
	for b := range 256 {
		if one := string([]byte{byte(b)}); !strings.Contains("0123456789*#", one) {
			wrong[fmt.Sprintf("digit %q", one)] = []impl.Press{{Tick: 5, Digit: one}}
		}
	}
	for _, text := range strangeDigits() {
		wrong[fmt.Sprintf("digits %q", text)] = []impl.Press{{Tick: 5, Digit: "2"}, {Tick: 6, Digit: text}}
	}
	return wrong
}

func TestOverlapRefuses(t *testing.T) {
	check := func(why string, rules []impl.Rule, presses []impl.Press, wait int) {
		t.Helper()
		if got, end := impl.Overlap(rules, presses, wait); got != wantBad || end != -1 {
			t.Errorf("%s: %+v at %d", why, got, end)
		}
	}
	for why, presses := range wrongPresses() {
		for _, rules := range []string{"", waiting, "1 1-1 7 0 -"} {
			check(why, rulesOf(rules), presses, 10)
		}
	}
	for why, rules := range wrongRules() {
		check(why, rules, nil, 10)
		check(why, rules, pressesOf("1@5 2@6"), 10)
	}
	for _, wait := range []int{math.MinInt, -1000, -1, 0, 1001, 1002, 5000, math.MaxInt} {
		check("wait", rulesOf(waiting), nil, wait)
		check("wait", rulesOf(waiting), pressesOf("2@5 3@6 4@7"), wait)
	}
}

func TestOverlapOfAllWaits(t *testing.T) {
	presses := pressesOf("1@100 2@100 3@600")
	for wait := 1; wait <= 1000; wait++ {
		want, wantEnd := done(7, "02", 0), 100+wait
		if wait >= 500 {
			want, wantEnd = done(7, "023", 0), 600+wait
		}
		if got, end := impl.Overlap(rulesOf(waiting), presses, wait); got != want || end != wantEnd {
			t.Fatal(wait, got, end)
		}
		if got, end := impl.Overlap(rulesOf(waiting), nil, wait); got != wantLate || end != wait {
			t.Fatal(wait, got, end)
		}
	}
}

// overlapByClock tells a second time what Overlap answers, of what is right:
// a clock goes on tick by tick, and a timer runs from each press on, without
// any from tick 0.
func overlapByClock(rules []impl.Rule, presses []impl.Press, wait int) (impl.Dialled, int) {
	digits, left, timer := "", presses, wait
	for tick := 0; ; tick++ {
		for len(left) > 0 && left[0].Tick == tick {
			digits, left, timer = digits+left[0].Digit, left[1:], wait
			if told := dialBySorting(rules, digits); told.Code == impl.DialDone || told.Code == impl.DialNone {
				return told, tick
			}
		}
		if timer == 0 && (digits != "" || len(presses) == 0) {
			told := dialBySorting(rules, digits)
			if digits != "" && told.Code == impl.DialMay {
				told.Code = impl.DialDone
				return told, tick
			}
			return wantLate, tick
		}
		timer--
	}
}

func drawPresses(d *drawn, few string, most int, wait int) []impl.Press {
	var presses []impl.Press
	tick := d.below(2 * wait)
	for _, digit := range drawDigits(d, few, most) {
		presses = append(presses, impl.Press{Tick: tick, Digit: string(digit)})
		tick += slices.Max([]int{0, d.below(wait+4) - 2})
	}
	return presses
}

func TestOverlapOfDrawnPresses(t *testing.T) {
	d := drawn(44)
	count := map[string]int{}
	for range 30000 {
		rules := drawRules(&d, "12", 1+d.below(8))
		wait := 1 + d.below(12)
		presses := drawPresses(&d, "12", 9, wait)
		got, end := impl.Overlap(rules, presses, wait)
		want, wantEnd := overlapByClock(rules, presses, wait)
		if got != want || end != wantEnd {
			t.Fatalf("%v of %v in %d: %+v at %d, want %+v at %d", presses, rules, wait, got, end, want, wantEnd)
		}
		checkTimer(t, rules, presses, wait, got, end, count)
	}
	for _, why := range []string{"told by a press", "late with presses left", "late with none left", "done with presses left", "done with none left", "no press"} {
		if count[why] < 300 {
			t.Error("hardly tried:", why, count)
		}
	}
}

// checkTimer holds what was told to what follows: at the tick of the press
// that tells it, or just wait behind the last one that counts, while none came.
func checkTimer(t *testing.T, rules []impl.Rule, presses []impl.Press, wait int, got impl.Dialled, end int, count map[string]int) {
	t.Helper()
	digits, last := "", 0
	for i, press := range presses {
		if i > 0 && press.Tick-last > wait {
			break
		}
		digits, last = digits+press.Digit, press.Tick
		if told := impl.Dial(rules, digits); told.Code == impl.DialDone || told.Code == impl.DialNone {
			count["told by a press"]++
			if got != told || end != press.Tick {
				t.Fatal("not the first that is told", rules, presses, got, end)
			}
			return
		}
	}
	if end-last != wait {
		t.Fatal("not just wait behind the last one", rules, presses, wait, got, end)
	}
	left := " with none left"
	if len(digits) < len(presses) {
		left = " with presses left"
		if presses[len(digits)].Tick <= end {
			t.Fatal("ended ahead of a press", rules, presses, wait, got, end)
		}
	}
	switch {
	case len(presses) == 0:
		count["no press"]++
	case got.Code == impl.DialDone:
		count["done"+left]++
	default:
		count["late"+left]++
	}
}
