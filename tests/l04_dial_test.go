package tests

import (
	"slices"
	"strings"
	"testing"

	"loop.example/g00052/impl"
)

func done(route int, number string, place int) impl.Dialled {
	return impl.Dialled{Code: impl.DialDone, Route: route, Number: number, Rule: place}
}

func may(route int, number string, place int) impl.Dialled {
	return impl.Dialled{Code: impl.DialMay, Route: route, Number: number, Rule: place}
}

func without(code int) impl.Dialled { return impl.Dialled{Code: code, Route: -1, Rule: -1} }

var (
	wantMore = without(impl.DialMore)
	wantNone = without(impl.DialNone)
	wantLate = without(impl.DialLate)
	wantBad  = without(impl.DialBad)
)

// dialCase is rules, digits, and what they are so far.
type dialCase struct {
	why    string
	rules  string
	digits string
	want   impl.Dialled
}

func checkDialCases(t *testing.T, cases []dialCase) {
	t.Helper()
	for _, c := range cases {
		rules := rulesOf(c.rules)
		if !fineByForm(rules) {
			t.Error(c.why, "begins with wrong rules", c.rules)
		}
		if got := impl.Dial(rules, c.digits); got != c.want {
			t.Errorf("%s: %q of %q: %+v, want %+v", c.why, c.digits, c.rules, got, c.want)
		}
	}
}

func TestDialOfOneRule(t *testing.T) {
	long := "12 4-6 7 0 -"
	checkDialCases(t, []dialCase{
		{"no rules, no digits", "", "", wantNone},
		{"no rules", "", "1", wantNone},
		{"no digits", long, "", wantMore},
		{"the beginning of the Prefix", long, "1", wantMore},
		{"another digit", long, "2", wantNone},
		{"a Prefix within", long, "212", wantNone},
		{"another second digit", long, "11", wantNone},
		{"the Prefix, below Least", long, "12", wantMore},
		{"one below Least", long, "123", wantMore},
		{"Least", long, "1234", may(7, "1234", 0)},
		{"between", long, "12345", may(7, "12345", 0)},
		{"Most", long, "123456", done(7, "123456", 0)},
		{"one more than Most", long, "1234567", wantNone},
		{"far more", long, "12" + ones(18), wantNone},
		{"Least and Most as the Prefix", "12 2-2 7 0 -", "12", done(7, "12", 0)},
		{"and one more", "12 2-2 7 0 -", "123", wantNone},
		{"Least as the Prefix", "12 2-3 7 0 -", "12", may(7, "12", 0)},
		{"Least as Most", "12 4-4 7 0 -", "1234", done(7, "1234", 0)},
		{"star and hash", "*# 3-4 7 0 -", "*#*", may(7, "*#*", 0)},
		{"star is no hash", "*# 3-4 7 0 -", "**", wantNone},
		{"the greatest Route", "1 1-1 1000 0 -", "1", done(1000, "1", 0)},
		{"MaxDigits, below Least", "1 20-20 9 0 -", ones(19), wantMore},
		{"MaxDigits", "1 20-20 9 0 -", ones(20), done(9, ones(20), 0)},
		{"a Prefix of MaxDigits", ones(20) + " 20-20 9 0 -", ones(20), done(9, ones(20), 0)},
		{"its beginning", ones(20) + " 20-20 9 0 -", ones(19), wantMore},
	})
}

// Digits are open as long as another, longer Prefix begins with them.
func TestDialOfWhatIsOpen(t *testing.T) {
	checkDialCases(t, []dialCase{
		{"Most and open", "12 2-2 7 0 -; 123 5-5 8 0 -", "12", may(7, "12", 0)},
		{"Most and not open", "12 2-2 7 0 -; 13 5-5 8 0 -", "12", done(7, "12", 0)},
		{"the Prefix of r itself is not longer", "12 2-2 7 0 -; 1 5-5 8 0 -", "12", done(7, "12", 0)},
		{"open by a far longer one", "1 1-1 7 0 -; 123456 6-6 8 0 -", "1", may(7, "1", 0)},
		{"more than Most and open", "1 1-1 7 0 -; 1234 4-4 8 0 -", "12", wantMore},
		{"still open", "1 1-1 7 0 -; 1234 4-4 8 0 -", "123", wantMore},
		{"the longer one itself", "1 1-1 7 0 -; 1234 4-4 8 0 -", "1234", done(8, "1234", 1)},
		{"beside the longer one", "1 1-1 7 0 -; 1234 4-4 8 0 -", "124", wantNone},
		{"more than Most, not open", "1 1-1 7 0 -; 2345 4-4 8 0 -", "12", wantNone},
		{"Least and open", "1 2-4 7 0 -; 123 5-5 8 0 -", "12", may(7, "12", 0)},
		{"below Least and open", "1 3-3 7 0 -; 123 5-5 8 0 -", "12", wantMore},
		{"Most and open by an emergency", "1 2-2 7 0 -; 123 3-3 0 0 -", "12", may(7, "12", 0)},
		{"no r and open by the last", "2 1-1 7 0 -; 3 1-1 7 0 -; 14 2-2 7 0 -", "1", wantMore},
		{"no r and not open", "2 1-1 7 0 -; 3 1-1 7 0 -; 14 2-2 7 0 -", "4", wantNone},
		{"open by one that is also fitted", "1 1-1 7 0 -; 12 2-2 8 0 -; 123 3-3 9 0 -", "12", may(8, "12", 1)},
		{"longer than any Prefix", "1 1-1 7 0 -; 12 2-2 8 0 -; 123 3-3 9 0 -", "1234", wantNone},
	})
}

func TestDialOfTheLongestPrefix(t *testing.T) {
	checkDialCases(t, []dialCase{
		{"the longer one behind", "1 3-3 7 0 -; 12 3-3 8 0 -", "123", done(8, "123", 1)},
		{"the longer one ahead", "12 3-3 8 0 -; 1 3-3 7 0 -", "123", done(8, "123", 0)},
		{"the longest between", "1 4-4 7 0 -; 123 4-4 9 0 -; 12 4-4 8 0 -", "1234", done(9, "1234", 1)},
		{"the longest that fits", "1 4-4 7 0 -; 124 4-4 9 0 -; 12 4-4 8 0 -", "1234", done(8, "1234", 2)},
		{"more than its Most, not the shorter one's", "1 1-9 3 0 -; 12 2-3 4 0 -", "1234", wantNone},
		{"fewer than its Least, enough of the shorter one", "1 1-9 3 0 -; 12 5-6 4 0 -", "123", wantMore},
		{"the shorter one ahead of it", "1 1-9 3 0 -; 12 5-6 4 0 -", "1", may(3, "1", 0)},
		{"the shorter one beside it", "1 1-9 3 0 -; 12 5-6 4 0 -", "13", may(3, "13", 0)},
		{"greater digits play no part", "9 2-2 7 0 -; 0 2-2 8 0 -", "01", done(8, "01", 1)},
	})
}

func TestDialOfEmergencies(t *testing.T) {
	beside := "11 2-5 0 0 -; 112 3-3 5 0 -"
	late := "1 5-6 0 0 -; 12 2-3 4 0 -"
	checkDialCases(t, []dialCase{
		{"done though open", "11 2-2 0 0 -; 112 3-3 5 0 -", "11", done(0, "11", 0)},
		{"beyond its Most the other one", "11 2-2 0 0 -; 112 3-3 5 0 -", "112", done(5, "112", 1)},
		{"ahead of a longer Prefix that is none", beside, "112", done(0, "112", 0)},
		{"the same, in the other order", "112 3-3 5 0 -; 11 2-5 0 0 -", "112", done(0, "112", 1)},
		{"at its Most", beside, "11234", done(0, "11234", 0)},
		{"beyond its Most", beside, "112345", wantNone},
		{"ahead of its Prefix", beside, "1", wantMore},
		{"Least, though fewer than Most", "1 3-5 0 0 -", "123", done(0, "123", 0)},
		{"between", "1 3-5 0 0 -", "1234", done(0, "1234", 0)},
		{"Most", "1 3-5 0 0 -", "12345", done(0, "12345", 0)},
		{"below Least", "1 3-5 0 0 -", "12", wantMore},
		{"above Most", "1 3-5 0 0 -", "123456", wantNone},
		{"of several the longest Prefix", "1 1-5 0 0 -; 112 3-5 0 0 -; 11 2-5 0 0 -", "112", done(0, "112", 1)},
		{"of several the longest that fits", "1 1-5 0 0 -; 112 3-5 0 0 -; 11 2-5 0 0 -", "113", done(0, "113", 2)},
		{"of several the one with its Least", "1 1-5 0 0 -; 11 4-5 0 0 -", "112", done(0, "112", 0)},
		{"of several the one not beyond its Most", "1 1-5 0 0 -; 11 2-2 0 0 -", "112", done(0, "112", 0)},
		{"none of several", "1 4-5 0 0 -; 11 2-2 0 0 -", "112", wantNone},
		{"an r below its Least", "1 1-9 4 0 -; 11 4-4 0 0 -", "112", wantMore},
		{"an r beyond its Most", "1 1-9 4 0 -; 11 2-2 0 0 -", "112", wantNone},
		{"an r beyond its Most, open", "1 1-9 4 0 -; 11 2-2 0 0 -; 1129 4-4 7 0 -", "112", wantMore},
		{"not there yet, the longer one may be", late, "12", may(4, "12", 1)},
		{"not there yet, the longer one is done", late, "123", done(4, "123", 1)},
		{"not there yet, the longer one is over", late, "1234", wantNone},
		{"there at last", late, "12345", done(0, "12345", 0)},
		{"over as well", late, "1234567", wantNone},
		{"with Strip and Add", "110 3-4 0 2 99", "1101", done(0, "9901", 0)},
		{"Route 1 is none", "11 2-5 1 0 -; 112 3-3 5 0 -", "112", done(5, "112", 1)},
	})
}

func TestDialOfStripAndAdd(t *testing.T) {
	checkDialCases(t, []dialCase{
		{"Strip of the first", "12 4-4 7 2 -", "1234", done(7, "34", 0)},
		{"Strip more than the Prefix", "12 4-4 7 3 -", "1234", done(7, "4", 0)},
		{"Add ahead", "12 4-4 7 0 00", "1234", done(7, "001234", 0)},
		{"both", "12 4-4 7 1 *0#", "1234", done(7, "*0#234", 0)},
		{"all taken off", "12 2-2 7 2 -", "12", done(7, "", 0)},
		{"all taken off, Add alone", "12 2-2 7 2 345", "12", done(7, "345", 0)},
		{"of a number that may be", "12 3-5 7 2 9", "1234", may(7, "934", 0)},
		{"Strip at Least, may be", "1 3-5 7 3 -", "123", may(7, "", 0)},
		{"up to MaxDigits", "1 2-10 7 0 " + ones(10), "1234567890", done(7, ones(10)+"1234567890", 0)},
		{"MaxDigits off and on", "1 20-20 7 20 " + strings.Repeat("#", 20), ones(20), done(7, strings.Repeat("#", 20), 0)},
		{"by the rule that counts", "1 4-4 7 0 5; 12 4-4 8 1 6", "1234", done(8, "6234", 1)},
	})
}

// wrongDigits are no digits.
func wrongDigits() []string {
	list := []string{ones(21), ones(20) + "a", strings.Repeat("1", 5000), "a", "1a", "a1", " ", "1 ", " 1", "1 2", "-", "-1", "+1", "1.5", "1\n", "A", "D", "/", ":", ")", "+", "\"", "$"}
	return append(list, strangeDigits()...)
}

func TestDialRefuses(t *testing.T) {
	for _, digits := range wrongDigits() {
		for _, text := range []string{"", "1 1-20 5 0 -", "1 1-20 0 0 -; 11 2-3 4 0 -"} {
			if got := impl.Dial(rulesOf(text), digits); got != wantBad {
				t.Errorf("%q of %q: %+v", digits, text, got)
			}
		}
	}
	for why, rules := range wrongRules() {
		for _, digits := range []string{"", "1", "12", "1234", "100", ones(20), "x"} {
			if got := impl.Dial(rules, digits); got != wantBad {
				t.Errorf("%s: %q: %+v", why, digits, got)
			}
		}
	}
}

func TestDialOfManyRules(t *testing.T) {
	rules := manyRules(impl.MaxRules)
	for i, r := range rules {
		if got := impl.Dial(rules, r.Prefix); got != done(i, r.Prefix, i) {
			t.Error(r, got)
		}
	}
	for digits, want := range map[string]impl.Dialled{"": wantMore, "1": wantMore, "15": wantMore, "16": wantNone, "160": wantNone, "2": wantNone} {
		if got := impl.Dial(rules, digits); got != want {
			t.Error(digits, got)
		}
	}
}

// dialBySorting tells a second time what Dial answers, of rules and digits
// that are right: the places of the rules that fit stand in one list, the
// longest Prefix first.
func dialBySorting(rules []impl.Rule, digits string) impl.Dialled {
	var fitting []int
	open := false
	for i, r := range rules {
		n := min(len(r.Prefix), len(digits))
		if r.Prefix[:n] != digits[:n] {
			continue
		}
		if n == len(r.Prefix) {
			fitting = append(fitting, i)
		} else {
			open = true
		}
	}
	slices.SortFunc(fitting, func(i, j int) int { return len(rules[j].Prefix) - len(rules[i].Prefix) })
	tell := func(code int, i int) impl.Dialled {
		r := rules[i]
		return impl.Dialled{Code: code, Route: r.Route, Number: r.Add + digits[r.Strip:], Rule: i}
	}
	for _, i := range fitting {
		if r := rules[i]; r.Route == 0 && r.Least <= len(digits) && len(digits) <= r.Most {
			return tell(impl.DialDone, i)
		}
	}
	short := len(fitting) > 0 && len(digits) < rules[fitting[0]].Least
	over := len(fitting) == 0 || len(digits) > rules[fitting[0]].Most
	switch {
	case short, over && open:
		return wantMore
	case over:
		return wantNone
	case open, len(digits) < rules[fitting[0]].Most:
		return tell(impl.DialMay, fitting[0])
	}
	return tell(impl.DialDone, fitting[0])
}

// digitTexts are all texts of a few digits of at most that many bytes.
func digitTexts(few string, most int) []string {
	texts := []string{""}
	for at := 0; len(texts[at]) < most; at++ {
		for _, digit := range few {
			texts = append(texts, texts[at]+string(digit))
		}
	}
	return texts
}

func TestDialOfDrawnRules(t *testing.T) {
	d := drawn(42)
	count := map[int]int{}
	emergencies := 0
	texts := digitTexts("12", 8)
	for range 400 {
		rules := drawRules(&d, "12", 1+d.below(12))
		for _, digits := range texts {
			got, want := impl.Dial(rules, digits), dialBySorting(rules, digits)
			if got != want {
				t.Fatalf("%q of %v: %+v, want %+v", digits, rules, got, want)
			}
			count[got.Code]++
			if got.Code == impl.DialDone && got.Route == 0 {
				emergencies++
			}
		}
	}
	for _, code := range []int{impl.DialMore, impl.DialMay, impl.DialDone, impl.DialNone} {
		if count[code] < 1000 {
			t.Error("hardly told", code, count)
		}
	}
	if emergencies < 1000 || count[impl.DialDone]-emergencies < 1000 {
		t.Error("one kind of done was hardly told", emergencies, count)
	}
}

// What is done by a rule that is no emergency is none, or an emergency, with
// one digit more.
func TestDialDoneIsDone(t *testing.T) {
	d := drawn(43)
	count := map[int]int{}
	texts := digitTexts("12", 7)
	for range 2500 {
		rules := drawRules(&d, "12", 1+d.below(14))
		for _, digits := range texts {
			if got := impl.Dial(rules, digits); got.Code != impl.DialDone || got.Route == 0 {
				continue
			}
			for _, more := range "0123456789*#" {
				next := impl.Dial(rules, digits+string(more))
				if next != wantNone && (next.Code != impl.DialDone || next.Route != 0) {
					t.Fatalf("%q of %v, and %q: %+v", digits, rules, more, next)
				}
				count[next.Code]++
			}
		}
	}
	if count[impl.DialNone] < 1000 || count[impl.DialDone] < 100 {
		t.Error("hardly tried", count)
	}
}
