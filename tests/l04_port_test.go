package tests

import (
	"fmt"
	"strings"
	"testing"

	"loop.example/g00052/impl"
)

// tableOf writes each Ported as its Number, a > and its To: "1>2 2>33".
func tableOf(text string) []impl.Ported {
	var table []impl.Ported
	for _, word := range strings.Fields(text) {
		number, to, _ := strings.Cut(word, ">")
		table = append(table, impl.Ported{Number: number, To: to})
	}
	return table
}

// longChain leads from 100 on to so many others, one behind the other.
func longChain(n int) []impl.Ported {
	var table []impl.Ported
	for i := range n {
		table = append(table, impl.Ported{Number: fmt.Sprint(100 + i), To: fmt.Sprint(101 + i)})
	}
	return table
}

func TestPort(t *testing.T) {
	for _, c := range []struct {
		why    string
		table  string
		number string
		want   string
		ok     bool
	}{
		{"no table", "", "1", "1", true},
		{"no step", "2>3", "1", "1", true},
		{"a To is no Number", "2>3", "3", "3", true},
		{"one step", "2>3", "2", "3", true},
		{"two steps", "1>2 2>33", "1", "33", true},
		{"two steps, in the other order", "2>33 1>2", "1", "33", true},
		{"from between", "1>2 2>33", "2", "33", true},
		{"many steps", "5>6 1>2 4>5 2>3 3>4", "1", "6", true},
		{"a beginning is not followed", "1>2 12>3", "123", "123", true},
		{"nor what it begins", "123>4", "12", "12", true},
		{"noughts ahead count", "01>2 1>3", "001", "001", true},
		{"star and hash", "*#>#* #*>*", "*#", "*", true},
		{"several lead to one", "1>9 2>9 3>1", "3", "9", true},
		{"beside a circle", "1>2 2>1 3>4", "3", "4", true},
		{"outside a circle", "1>2 2>1", "3", "3", true},
		{"a circle of one", "1>1", "1", "1", false},
		{"a circle of two", "1>2 2>1", "1", "1", false},
		{"the other of two", "1>2 2>1", "2", "2", false},
		{"a circle of three", "1>2 2>3 3>1", "2", "2", false},
		{"into a circle of one", "1>2 2>2", "1", "1", false},
		{"into a circle of two", "1>2 2>3 3>2", "1", "1", false},
		{"far into a circle", "7>8 8>9 9>1 1>2 2>3 3>1", "7", "7", false},
		{"MaxDigits", ones(20) + ">2", ones(20), "2", true},
		{"to MaxDigits", "2>" + ones(20), "2", ones(20), true},
	} {
		if got, ok := impl.Port(tableOf(c.table), c.number); got != c.want || ok != c.ok {
			t.Errorf("%s: %q of %q: %q %v, want %q %v", c.why, c.number, c.table, got, ok, c.want, c.ok)
		}
	}
}

// All sixty of a table are followed, and as long a circle is found out.
func TestPortOfMaxRules(t *testing.T) {
	table := longChain(impl.MaxRules)
	for i := range impl.MaxRules + 1 {
		if got, ok := impl.Port(table, fmt.Sprint(100+i)); got != "160" || !ok {
			t.Error(i, got, ok)
		}
	}
	table[impl.MaxRules-1].To = "100"
	for i := range impl.MaxRules {
		number := fmt.Sprint(100 + i)
		if got, ok := impl.Port(table, number); got != number || ok {
			t.Error(i, got, ok)
		}
	}
	table[impl.MaxRules-1].To = "159"
	if got, ok := impl.Port(table, "100"); got != "100" || ok {
		t.Error("into a circle at the end", got, ok)
	}
}

// wrongTables have one fault each, by what it is.
func wrongTables() map[string][]impl.Ported {
	wrong := map[string][]impl.Ported{
		"one more than MaxRules":      longChain(61),
		"many more":                   longChain(5000),
		"a Number twice":              tableOf("1>2 1>3"),
		"a row twice":                 tableOf("1>2 1>2"),
		"the first again at the end":  append(longChain(59), impl.Ported{Number: "100", To: "5"}),
		"no Number":                   tableOf(">2"),
		"no To":                       tableOf("1>"),
		"nothing at all":              {{}},
		"a Number that is too long":   tableOf(ones(21) + ">2"),
		"a To that is too long":       tableOf("1>" + ones(21)),
		"a wrong row that is not met": tableOf("8>9 7>x"),
		"wrong behind a circle":       tableOf("1>1 2>"),
	}
	for _, text := range wrongDigits() {
		wrong[fmt.Sprintf("Number %q", text)] = []impl.Ported{{Number: text, To: "2"}}
		wrong[fmt.Sprintf("To %q", text)] = []impl.Ported{{Number: "1", To: text}}
	}
	return wrong
}

func TestPortRefuses(t *testing.T) {
	for why, table := range wrongTables() {
		for _, number := range []string{"1", "100", "3", "", "x"} {
			if got, ok := impl.Port(table, number); got != "" || ok {
				t.Errorf("%s: %q: %q %v", why, number, got, ok)
			}
		}
	}
	for _, number := range append(wrongDigits(), "") {
		for _, table := range []string{"", "1>2", "1>1"} {
			if got, ok := impl.Port(tableOf(table), number); got != "" || ok {
				t.Errorf("%q of %q: %q %v", number, table, got, ok)
			}
		}
	}
}

// portBySeen tells a second time what Port answers, of what is right.
func portBySeen(table []impl.Ported, number string) (string, bool) {
	to := map[string]string{}
	for _, row := range table {
		to[row.Number] = row.To
	}
	seen := map[string]bool{}
	for at := number; ; at = to[at] {
		if to[at] == "" {
			return at, true
		}
		if seen[at] {
			return number, false
		}
		seen[at] = true
	}
}

func TestPortOfDrawnTables(t *testing.T) {
	d := drawn(45)
	count := map[bool]int{}
	for range 4000 {
		var table []impl.Ported
		taken := map[string]bool{}
		numbers := 3 + d.below(70)
		for range d.below(impl.MaxRules + 1) {
			row := impl.Ported{Number: fmt.Sprint(d.below(numbers)), To: fmt.Sprint(d.below(numbers))}
			if !taken[row.Number] {
				table, taken[row.Number] = append(table, row), true
			}
		}
		for range 10 {
			number := fmt.Sprint(d.below(numbers))
			got, ok := impl.Port(table, number)
			want, wantOk := portBySeen(table, number)
			if got != want || ok != wantOk {
				t.Fatalf("%q of %v: %q %v, want %q %v", number, table, got, ok, want, wantOk)
			}
			if ok && taken[got] {
				t.Fatal("not the end", table, number, got)
			}
			count[ok]++
		}
	}
	if count[true] < 3000 || count[false] < 3000 {
		t.Error("one side was hardly tried", count)
	}
}
