package tests

import (
	"fmt"
	"math"
	"regexp"
	"slices"
	"strings"
	"testing"

	"loop.example/g00052/impl"
)

// The tests of numbers write rules as the document's lines, with "; " between
// them in place of a line end: "11 2-2 0 0 -; 1 3-4 5 1 0" are two.

func rulesOf(text string) []impl.Rule {
	var rules []impl.Rule
	for _, line := range strings.Split(text, "; ") {
		if line == "" {
			continue
		}
		var r impl.Rule
		mustScan(line, "%s %d-%d %d %d %s", &r.Prefix, &r.Least, &r.Most, &r.Route, &r.Strip, &r.Add)
		if r.Add == "-" {
			r.Add = ""
		}
		rules = append(rules, r)
	}
	return rules
}

// ones are so many digits 1.
func ones(n int) string { return strings.Repeat("1", n) }

// manyRules have three digits each, all of them other ones.
func manyRules(n int) []impl.Rule {
	var rules []impl.Rule
	for i := range n {
		rules = append(rules, impl.Rule{Prefix: fmt.Sprint(100 + i), Least: 3, Most: 3, Route: i, Strip: 0})
	}
	return rules
}

// plainRule has no field at an end of what is taken.
var plainRule = impl.Rule{Prefix: "12", Least: 4, Most: 8, Route: 5, Strip: 1, Add: "00"}

// changed is plainRule as change leaves it.
func changed(change func(r *impl.Rule)) impl.Rule {
	r := plainRule
	change(&r)
	return r
}

func rightRules() map[string][]impl.Rule {
	return map[string][]impl.Rule{
		"none at all":                    nil,
		"an empty list":                  {},
		"a plain one":                    {plainRule},
		"one digit":                      {{Prefix: "0", Least: 1, Most: 1}},
		"all that are digits":            {{Prefix: "0123456789*#", Least: 12, Most: 12, Strip: 12, Add: "#*9876543210"}},
		"a Prefix of MaxDigits":          {{Prefix: ones(20), Least: 20, Most: 20}},
		"Least as long as the Prefix":    {changed(func(r *impl.Rule) { r.Least = 2 })},
		"Least as Most":                  {changed(func(r *impl.Rule) { r.Least = 8 })},
		"Most at MaxDigits":              {{Prefix: "1", Least: 1, Most: 20}},
		"Least and Most at MaxDigits":    {{Prefix: "1", Least: 20, Most: 20}},
		"an emergency":                   {changed(func(r *impl.Rule) { r.Route = 0 })},
		"Route 1":                        {changed(func(r *impl.Rule) { r.Route = 1 })},
		"Route 1000":                     {changed(func(r *impl.Rule) { r.Route = 1000 })},
		"Strip 0":                        {changed(func(r *impl.Rule) { r.Strip = 0 })},
		"Strip as Least":                 {changed(func(r *impl.Rule) { r.Strip = 4 })},
		"Strip beyond the Prefix":        {changed(func(r *impl.Rule) { r.Strip = 3 })},
		"Add empty":                      {changed(func(r *impl.Rule) { r.Add = "" })},
		"Add and Most just MaxDigits":    {{Prefix: "1", Least: 1, Most: 8, Add: ones(12)}},
		"Add and the rest of MaxDigits":  {{Prefix: "1", Least: 5, Most: 20, Strip: 5, Add: ones(5)}},
		"Add alone just MaxDigits":       {{Prefix: "1", Least: 1, Most: 1, Strip: 1, Add: ones(20)}},
		"all taken off and all put back": {{Prefix: "1", Least: 20, Most: 20, Strip: 20, Add: ones(20)}},
		"MaxRules":                       manyRules(60),
		"a Prefix that begins another":   {{Prefix: "1", Least: 1, Most: 1}, {Prefix: "11", Least: 2, Most: 2}, {Prefix: "111", Least: 3, Most: 3}},
		"alike but for the Prefix":       {{Prefix: "1", Least: 2, Most: 2, Route: 3}, {Prefix: "2", Least: 2, Most: 2, Route: 3}},
		"several emergencies":            {{Prefix: "1", Least: 2, Most: 2}, {Prefix: "2", Least: 2, Most: 2}},
		"one that could never be dialled": {
			{Prefix: "1", Least: 1, Most: 9, Route: 0}, {Prefix: "12", Least: 2, Most: 9, Route: 4}},
	}
}

// wrongRules have one fault each, by what it is.
func wrongRules() map[string][]impl.Rule {
	wrong := map[string][]impl.Rule{
		"no Prefix":                         {changed(func(r *impl.Rule) { r.Prefix = "" })},
		"no Prefix, nothing at all":         {{}},
		"a Prefix of one digit too many":    {{Prefix: ones(21), Least: 20, Most: 20}},
		"and as long numbers":               {{Prefix: ones(21), Least: 21, Most: 21}},
		"a letter in the Prefix":            {changed(func(r *impl.Rule) { r.Prefix = "1a" })},
		"a blank in the Prefix":             {changed(func(r *impl.Rule) { r.Prefix = "1 " })},
		"a line end in the Prefix":          {changed(func(r *impl.Rule) { r.Prefix = "1\n" })},
		"a sign in the Prefix":              {changed(func(r *impl.Rule) { r.Prefix = "-1" })},
		"Least below the Prefix's length":   {changed(func(r *impl.Rule) { r.Least = 1 })},
		"Least 0":                           {{Prefix: "1", Least: 0, Most: 1}},
		"Least below 0":                     {changed(func(r *impl.Rule) { r.Least, r.Strip = -1, 0 })},
		"Least far below 0":                 {changed(func(r *impl.Rule) { r.Least, r.Strip = math.MinInt, 0 })},
		"Least above Most":                  {changed(func(r *impl.Rule) { r.Least = 9 })},
		"Most below the Prefix's length":    {changed(func(r *impl.Rule) { r.Least, r.Most = 1, 1 })},
		"Most below 0":                      {changed(func(r *impl.Rule) { r.Most = -1 })},
		"Most one more than MaxDigits":      {{Prefix: "1", Least: 1, Most: 21}},
		"the same with enough taken off":    {{Prefix: "1", Least: 5, Most: 21, Strip: 5}},
		"Least and Most above MaxDigits":    {{Prefix: "1", Least: 21, Most: 21}},
		"Most far above":                    {changed(func(r *impl.Rule) { r.Most = math.MaxInt })},
		"Route below 0":                     {changed(func(r *impl.Rule) { r.Route = -1 })},
		"Route far below 0":                 {changed(func(r *impl.Rule) { r.Route = math.MinInt })},
		"Route above 1000":                  {changed(func(r *impl.Rule) { r.Route = 1001 })},
		"Route far above":                   {changed(func(r *impl.Rule) { r.Route = math.MaxInt })},
		"Strip below 0":                     {changed(func(r *impl.Rule) { r.Strip = -1 })},
		"Strip far below 0":                 {changed(func(r *impl.Rule) { r.Strip = math.MinInt })},
		"Strip so that the sum wraps round": {changed(func(r *impl.Rule) { r.Strip = math.MinInt + 9 })},
		"Strip above Least":                 {changed(func(r *impl.Rule) { r.Strip = 5 })},
		"Strip as Most":                     {changed(func(r *impl.Rule) { r.Strip = 8 })},
		"Strip far above":                   {changed(func(r *impl.Rule) { r.Strip = math.MaxInt })},
		"a letter in Add":                   {changed(func(r *impl.Rule) { r.Add = "0a" })},
		"Add as it is told when empty":      {changed(func(r *impl.Rule) { r.Add = "-" })},
		"a blank in Add":                    {changed(func(r *impl.Rule) { r.Add = " " })},
		"Add and Most one more":             {{Prefix: "1", Least: 1, Most: 8, Add: ones(13)}},
		"Add and the rest one more":         {{Prefix: "1", Least: 5, Most: 20, Strip: 5, Add: ones(6)}},
		"the rest counted by Most":          {{Prefix: "1", Least: 5, Most: 6, Strip: 5, Add: ones(20)}},
		"Add alone one more":                {{Prefix: "1", Least: 1, Most: 1, Strip: 1, Add: ones(21)}},
		"one rule more than MaxRules":       manyRules(61),
		"many more":                         slices.Repeat([]impl.Rule{plainRule}, 10000),
		"a rule twice":                      {plainRule, plainRule},
		"a Prefix twice, else other":        {plainRule, {Prefix: "12", Least: 2, Most: 2, Route: 9}},
		"the first Prefix again at the end": append(manyRules(59), impl.Rule{Prefix: "100", Least: 9, Most: 9, Route: 9}),
		"wrong behind right ones":           append(manyRules(59), impl.Rule{Prefix: "1", Least: 1, Most: 1, Route: 1001}),
		"wrong ahead of right ones":         append([]impl.Rule{{Prefix: "1", Least: 1, Most: 1, Route: -1}}, manyRules(59)...),
	}
	for _, text := range strangeDigits() {
		wrong[fmt.Sprintf("Prefix %q", text)] = []impl.Rule{{Prefix: text, Least: 10, Most: 10}}
		wrong[fmt.Sprintf("Add %q", text)] = []impl.Rule{{Prefix: "1", Least: 1, Most: 1, Add: text}}
	}
	return wrong
}

// strangeDigits have digits that are none of the document's, bytes that are no
// text at all, and, in the last line, runes that would be digits as bytes.
func strangeDigits() []string {
	return []string{
		"é", "٣", "１２", "1٣", "٣1", "\x00", "\xff", "1\xff", "\xb1", "\ufffd", "\u2460",
		"\u0131", "1\u0132", "\u0123", "\u022a2",
	}
}

func TestRulesOk(t *testing.T) {
	for why, rules := range rightRules() {
		if !impl.RulesOk(rules) {
			t.Error("not taken:", why, rules)
		}
	}
	for why, rules := range wrongRules() {
		if impl.RulesOk(rules) {
			t.Error("taken:", why, rules)
		}
	}
}

// Each byte by itself, and between two digits.
func TestRulesOkOfEachByte(t *testing.T) {
	for b := range 256 {
		one := string([]byte{byte(b)})
		want := strings.Contains("0123456789*#", one)
		for _, text := range []string{one, "1" + one, one + "1", "1" + one + "1"} {
			if impl.RulesOk([]impl.Rule{{Prefix: text, Least: 9, Most: 9}}) != want {
				t.Errorf("Prefix %q, want %v", text, want)
			}
			if impl.RulesOk([]impl.Rule{{Prefix: "1", Least: 1, Most: 1, Add: text}}) != want {
				t.Errorf("Add %q, want %v", text, want)
			}
		}
	}
}

// Least, Most, Strip and the length of Add in all ways about their ends.
func TestRulesOkOfAllSums(t *testing.T) {
	for _, least := range []int{-1, 0, 1, 2, 3, 10, 19, 20, 21} {
		for most := -1; most <= 21; most++ {
			for strip := -1; strip <= 21; strip++ {
				for add := 0; add <= 21; add++ {
					want := 2 <= least && least <= most && most <= 20 && 0 <= strip && strip <= least && add+most-strip <= 20
					r := impl.Rule{Prefix: "12", Least: least, Most: most, Route: 7, Strip: strip, Add: ones(add)}
					if impl.RulesOk([]impl.Rule{r}) != want {
						t.Fatal(r, "want", want)
					}
				}
			}
		}
	}
}

func TestRulesOkOfAllRoutes(t *testing.T) {
	for route := -5; route <= 1005; route++ {
		r := changed(func(r *impl.Rule) { r.Route = route })
		if impl.RulesOk([]impl.Rule{r}) != (route >= 0 && route <= 1000) {
			t.Error(route)
		}
	}
}

// The same Prefix at any two of sixty places.
func TestRulesOkOfAPrefixTwice(t *testing.T) {
	for i := range impl.MaxRules {
		for j := range i {
			rules := manyRules(impl.MaxRules)
			rules[i].Prefix = rules[j].Prefix
			if impl.RulesOk(rules) {
				t.Fatal("taken", i, j)
			}
		}
	}
}

var digitsForm = regexp.MustCompile(`^[0-9*#]{0,20}$`)

// fineByForm tells a second time what RulesOk answers.
func fineByForm(rules []impl.Rule) bool {
	prefixes := map[string]bool{}
	for _, r := range rules {
		fine := digitsForm.MatchString(r.Prefix) && digitsForm.MatchString(r.Add) && r.Prefix != "" && !prefixes[r.Prefix]
		fine = fine && slices.IsSorted([]int{len(r.Prefix), r.Least, r.Most, 20}) && slices.IsSorted([]int{0, r.Route, 1000})
		if !fine || !slices.IsSorted([]int{0, r.Strip, r.Least}) || len(r.Add)+r.Most-r.Strip > 20 {
			return false
		}
		prefixes[r.Prefix] = true
	}
	return len(rules) <= 60
}

// drawDigits are at most so many of a few digits.
func drawDigits(d *drawn, few string, most int) string {
	var b strings.Builder
	for range d.below(most + 1) {
		b.WriteByte(few[d.below(len(few))])
	}
	return b.String()
}

// drawRules are right ones, of a few digits, so that many fit at once.
func drawRules(d *drawn, few string, tries int) []impl.Rule {
	var rules []impl.Rule
	for range tries {
		var r impl.Rule
		r.Prefix = drawDigits(d, few, 4)
		r.Least = max(1, len(r.Prefix)) + d.below(3)
		r.Most = r.Least + d.below(3)
		r.Route = max(0, d.below(12)-3) * 100
		r.Strip = d.below(r.Least + 1)
		r.Add = drawDigits(d, few, 3)
		if r.Prefix != "" && !slices.ContainsFunc(rules, func(q impl.Rule) bool { return q.Prefix == r.Prefix }) {
			rules = append(rules, r)
		}
	}
	return rules
}

// Right ones, and the same with one field of one rule changed.
func TestRulesOkOfDrawnRules(t *testing.T) {
	d := drawn(41)
	count := map[bool]int{}
	for range 3000 {
		rules := drawRules(&d, "12#", 1+d.below(9))
		if !impl.RulesOk(rules) || !fineByForm(rules) {
			t.Fatal("not taken", rules)
		}
		if len(rules) == 0 {
			continue
		}
		r := &rules[d.below(len(rules))]
		switch d.below(6) {
		case 0:
			r.Prefix = drawDigits(&d, "12#x", 4)
		case 1:
			r.Least = d.below(23) - 1
		case 2:
			r.Most = d.below(23) - 1
		case 3:
			r.Route = d.below(2000) - 500
		case 4:
			r.Strip = d.below(12) - 2
		default:
			r.Add = drawDigits(&d, "12*", 22)
		}
		want := fineByForm(rules)
		count[want]++
		if impl.RulesOk(rules) != want {
			t.Fatal(rules, "want", want)
		}
	}
	if count[true] < 300 || count[false] < 300 {
		t.Error("one side was hardly tried", count)
	}
}
