package tests

import (
	"slices"
	"strings"
	"testing"
	"unsafe"

	"loop.example/g00052/impl"
)

// The marks would be read as right ones, or make all wrong, if the room behind
// a list played a part.
var (
	markedRule   = impl.Rule{Prefix: "1", Least: 1, Most: 9, Route: 0, Strip: 0, Add: "5"}
	markedPress  = impl.Press{Tick: 1, Digit: "9"}
	markedPorted = impl.Ported{Number: "3", To: "4"}
)

// memoryRules are right ones, few, many and none, and wrong ones.
func memoryRules() [][]impl.Rule {
	list := [][]impl.Rule{nil, rulesOf("12 4-6 7 0 -"), rulesOf("11 2-2 0 0 -; 12 3-4 5 1 0; 123 5-5 7 0 -"), rulesOf(waiting), manyRules(60)}
	for _, rules := range wrongRules() {
		list = append(list, rules)
	}
	return list
}

// textsShare asks whether two texts lie, in part, at one place.
func textsShare(a string, b string) bool {
	if a == "" || b == "" {
		return false
	}
	x, y := uintptr(unsafe.Pointer(unsafe.StringData(a))), uintptr(unsafe.Pointer(unsafe.StringData(b)))
	return x < y+uintptr(len(b)) && y < x+uintptr(len(a))
}

// madeText is text at a place of its own, as no constant is.
func madeText(text string) string { return strings.Clone(text) }

func TestDialMemory(t *testing.T) {
	for _, rules := range memoryRules() {
		g := guard(markedRule, rules)
		for _, digits := range []string{"", "1", "11", "12", "123", "1234", "12345", "100", ones(20), ones(21), "x"} {
			got := impl.Dial(g.list, digits)
			if got != impl.Dial(slices.Clone(rules), digits) || impl.RulesOk(g.list) != impl.RulesOk(rules) {
				t.Fatal("the spare room plays a part", rules, digits)
			}
			if !g.untouched() {
				t.Fatal("written into", rules, digits)
			}
		}
	}
}

func TestOverlapMemory(t *testing.T) {
	lists := [][]impl.Press{nil, pressesOf("1@0"), pressesOf("1@0 2@5 3@10"), pressesOf("1@0 2@5 3@100"), pressesOf("2@5 3@5 4@6"), inStep(ones(20), 3, 3)}
	for why, presses := range wrongPresses() {
		// One of all the digits that are none is enough here.
		if !strings.HasPrefix(why, "digit") || why == `digit "x"` {
			lists = append(lists, presses)
		}
	}
	for _, rules := range memoryRules() {
		for _, presses := range lists {
			g, h := guard(markedRule, rules), guard(markedPress, presses)
			got, end := impl.Overlap(g.list, h.list, 10)
			plain, plainEnd := impl.Overlap(slices.Clone(rules), slices.Clone(presses), 10)
			if got != plain || end != plainEnd {
				t.Fatal("the spare room plays a part", rules, presses)
			}
			if !g.untouched() || !h.untouched() {
				t.Fatal("written into", rules, presses)
			}
		}
	}
}

func TestPortMemory(t *testing.T) {
	tables := [][]impl.Ported{nil, tableOf("1>2 2>3"), tableOf("1>2 2>1"), longChain(60)}
	for _, table := range wrongTables() {
		tables = append(tables, table)
	}
	for _, table := range tables {
		g := guard(markedPorted, table)
		for _, number := range []string{"", "1", "2", "3", "100", "x"} {
			got, ok := impl.Port(g.list, number)
			plain, plainOk := impl.Port(slices.Clone(table), number)
			if got != plain || ok != plainOk {
				t.Fatal("the spare room plays a part", table, number)
			}
			if !g.untouched() {
				t.Fatal("written into", table, number)
			}
		}
	}
}

func TestShowRulesMemory(t *testing.T) {
	for _, rules := range memoryRules() {
		g := guard(markedRule, rules)
		if impl.ShowRules(g.list) != impl.ShowRules(slices.Clone(rules)) {
			t.Fatal("the spare room plays a part", rules)
		}
		if !g.untouched() {
			t.Fatal("written into", rules)
		}
	}
}

// Rules that were read are the caller's: nothing of them comes back.
func TestReadRulesMemory(t *testing.T) {
	for _, text := range []string{"1 1-1 5 0 -\n", "1 1-1 5 0 7\n2 1-2 5 1 8\n3 1-3 5 0 9\n", impl.ShowRules(manyRules(60))} {
		text = madeText(text)
		one, _ := impl.ReadRules(text)
		two, _ := impl.ReadRules(text)
		want := slices.Clone(two)
		scribble(one, markedRule)
		three, _ := impl.ReadRules(text)
		if !slices.Equal(two, want) || !slices.Equal(three, want) {
			t.Errorf("answers share: %q", text)
		}
		for _, rule := range two {
			if textsShare(rule.Prefix, text) || textsShare(rule.Add, text) {
				t.Errorf("a rule's texts lie in the argument: %q %v", text, rule)
			}
		}
	}
}

func TestNumbersShareNoText(t *testing.T) {
	for _, c := range []struct{ strip, add string }{{"0", "-"}, {"2", "-"}, {"0", "77"}, {"4", "77"}, {"1", "7"}} {
		rules := rulesOf("12 4-6 7 " + c.strip + " " + c.add)
		for _, text := range []string{"1234", "123456"} {
			digits := madeText(text)
			got := impl.Dial(rules, digits)
			if got.Rule != 0 || textsShare(got.Number, digits) || textsShare(got.Number, rules[0].Add) {
				t.Error("dial", c, text, got)
			}
		}
	}
	rules := rulesOf("1 1-1 7 0 -; 2 1-1 7 1 5")
	for _, digit := range []string{"1", "2"} {
		presses := []impl.Press{{Tick: 5, Digit: madeText(digit)}}
		got, _ := impl.Overlap(rules, presses, 10)
		if got.Code != impl.DialDone || textsShare(got.Number, presses[0].Digit) || textsShare(got.Number, rules[1].Add) {
			t.Error("overlap", digit, got)
		}
	}
	table := []impl.Ported{{Number: madeText("1"), To: madeText("22")}, {Number: madeText("3"), To: madeText("3")}}
	for _, number := range []string{"1", "3", "44"} {
		number = madeText(number)
		got, _ := impl.Port(table, number)
		if got == "" || textsShare(got, number) || textsShare(got, table[0].To) || textsShare(got, table[1].To) {
			t.Error("port", number, got)
		}
	}
}
