package tests

import (
	"fmt"
	"slices"
	"strings"
	"testing"

	"loop.example/g00052/impl"
)

// P21: chapter 16, who serves and who is heard.
func TestLimitsOfCellsThatServe(t *testing.T) {
	serves := func(measures [][]int, margin, dwell int) bool {
		serving, ok := impl.Serving(measures, margin, dwell)
		return ok && len(serving) == len(measures)
	}
	row := func(cells int) []int { return slices.Repeat([]int{-50}, cells) }
	contends := func(askers []impl.Asker, slots, rounds int) bool {
		heard, ok := impl.Contend(askers, slots, rounds)
		return ok && len(heard) == len(askers)
	}
	one := []impl.Asker{{Coins: []int{5}}}
	// Cell 1 is stronger from a tick on, by 7.
	changesAt := func(from, margin, dwell int) int {
		measures := append(slices.Repeat([][]int{{-50, -60}}, from), slices.Repeat([][]int{{-57, -50}}, 30)...)
		serving, _ := impl.Serving(measures, margin, dwell)
		return slices.Index(serving, 1)
	}
	checkLimits(t, []limit{
		upTo("ticks", 200, func(n int) bool { return serves(slices.Repeat([][]int{row(2)}, n), 0, 1) }),
		{"cells", 1, 12, func(n int) bool { return serves([][]int{row(n)}, 0, 1) }},
		{"cells of another tick", 3, 3, func(n int) bool { return serves([][]int{row(3), row(n)}, 0, 1) }},
		{"a strength", -120, 0, func(n int) bool { return serves([][]int{{-50, n}}, 0, 1) }},
		{"margin", 0, 60, func(n int) bool { return serves([][]int{row(2)}, n, 1) }},
		{"dwell", 1, 20, func(n int) bool { return serves([][]int{row(2)}, 0, n) }},
		{"the margin by which another one is stronger", 0, 7, func(n int) bool { return changesAt(3, n, 1) == 3 }},
		{"the dwell for which another one was stronger", 1, 20, func(n int) bool { return changesAt(3, 7, n) == 2+n }},
		{"the dwell of the cell that serves at first", 1, 20, func(n int) bool { return changesAt(1, 7, n) == n }},
		{"askers", 1, 40, func(n int) bool { return contends(make([]impl.Asker, n), 4, 2) }},
		{"a coin", 0, 1000, func(n int) bool { return contends([]impl.Asker{{Coins: []int{n}}}, 4, 2) }},
		{"slots", 1, 16, func(n int) bool { return contends(one, n, 2) }},
		{"rounds", 0, 60, func(n int) bool { return contends(one, 4, n) }},
		{"a coin that is not used", 0, 1000, func(n int) bool { return contends([]impl.Asker{{Coins: []int{1, n}}}, 4, 1) }},
	})
}

// P21: chapter 16, how loud each speaks and who is let in.
func TestLimitsOfLoudnessAndRoom(t *testing.T) {
	speaks := func(gains [][]int, noise, want, steps int) bool {
		loud, ok := impl.Loudness(gains, noise, want, steps)
		return ok && len(loud) == len(gains)
	}
	square := func(n, side int) [][]int {
		var rows [][]int
		for range n {
			rows = append(rows, slices.Repeat([]int{1}, side))
		}
		return rows
	}
	admits := func(have []int, room int, asks []int) bool {
		in, ok := impl.Admit(have, room, asks)
		return ok && len(in) == len(asks)
	}
	ones := func(n int) []int { return slices.Repeat([]int{1}, n) }
	checkLimits(t, []limit{
		{"stations", 1, 12, func(n int) bool { return speaks(square(n, n), 1, 1, 1) }},
		{"gains of a station", 3, 3, func(n int) bool { return speaks(append(square(2, 3), ones(n)), 1, 1, 1) }},
		{"a gain", 0, 1000, func(n int) bool { return speaks([][]int{{1, n}, {1, 1}}, 1, 1, 1) }},
		{"the own gain", 1, 1000, func(n int) bool { return speaks([][]int{{n, 1}, {1, 1}}, 1, 1, 1) }},
		{"noise", 1, 1000, func(n int) bool { return speaks(square(2, 2), n, 1, 1) }},
		{"want", 1, 100, func(n int) bool { return speaks(square(2, 2), 1, n, 1) }},
		{"steps", 0, 50, func(n int) bool { return speaks(square(2, 2), 1, 1, n) }},
		upTo("the loudness that is told whole", 1000000, func(n int) bool {
			// Behind a step the other one speaks with 1000, and is heard so many times that.
			heard := (n - 1) / 1000
			noise := n - 1000*heard
			loud, ok := impl.Loudness([][]int{{1, heard}, {1000 - noise, 1}}, noise, 1, 2)
			return ok && loud[0] == n
		}),
		{"room", 0, 100000, func(n int) bool { return admits(nil, n, nil) }},
		{"one that asks", 1, 1000, func(n int) bool { return admits(nil, 5, []int{n}) }},
		upTo("those that ask", 60, func(n int) bool { return admits(nil, 5, ones(n)) }),
		{"one that has", 1, 1000, func(n int) bool { return admits([]int{n}, 5, nil) }},
		upTo("those that have", 60, func(n int) bool { return admits(ones(n), 5, nil) }),
		{"what is asked for where there is room for seven", 1, 7, func(n int) bool {
			in, ok := impl.Admit([]int{3}, 10, []int{n})
			return ok && in[0]
		}},
	})
}

// P21: chapter 17, what is reckoned.
func TestLimitsOfLoad(t *testing.T) {
	blocks := func(servers, num, den int) bool {
		_, ok := impl.Blocking(servers, num, den)
		return ok
	}
	needs := func(num, den int, part impl.Fraction) bool {
		_, ok := impl.Needed17(num, den, part)
		return ok
	}
	whole := impl.Fraction{Num: 1, Den: 1}
	checkLimits(t, []limit{
		{"servers", 0, 8, func(n int) bool { return blocks(n, 1, 1) }},
		{"num", 0, 20, func(n int) bool { return blocks(8, n, 1) }},
		{"den", 1, 10, func(n int) bool { return blocks(8, 20, n) }},
		{"num of Needed17", 0, 20, func(n int) bool { return needs(n, 1, whole) }},
		{"den of Needed17", 1, 10, func(n int) bool { return needs(1, n, whole) }},
		{"Num of a part", 0, 1000, func(n int) bool { return needs(0, 1, impl.Fraction{Num: n, Den: 1}) }},
		{"Den of a part", 1, 1000, func(n int) bool { return needs(0, 1, impl.Fraction{Num: 1, Den: n}) }},
		// Of a load of 1, two circuits block a fifth.
		{"the part that two circuits are enough for", 200, 499, func(n int) bool {
			servers, ok := impl.Needed17(1, 1, impl.Fraction{Num: n, Den: 1000})
			return ok && servers == 2
		}},
		// Of a load of 1, eight circuits are the most that there may be.
		{"the circuits that are needed", 0, 8, func(n int) bool {
			part, ok := impl.Blocking(n, 20, 1)
			if !ok {
				return false
			}
			servers, ok := impl.Needed17(20, 1, impl.Fraction{Num: (1000*part.Num + part.Den - 1) / part.Den, Den: 1000})
			return ok && servers == n
		}},
	})
}

// P21: chapter 17, what is tried, shed and served.
func TestLimitsOfCallsThatCome(t *testing.T) {
	tries := func(circuits int, spare []int, calls ...impl.Arrival) bool {
		found, busy, ok := impl.Try(circuits, spare, calls)
		return ok && len(found) == len(calls) && len(busy) == len(calls)
	}
	sheds := func(busy, most int, calls ...impl.Arrival) bool {
		_, ok := impl.Shed(calls, busy, most)
		return ok
	}
	letsIn := func(most int) int {
		in, _ := impl.Shed(make([]impl.Arrival, 9), 5, most)
		return len(in)
	}
	fair := func(queues [][]int, turns int) bool {
		_, ok := impl.Fair(queues, turns)
		return ok
	}
	none := make([]int, 4)
	limits := []limit{
		{"circuits", 0, 64, func(n int) bool { return tries(n, none) }},
		{"spare circuits of the first Class", 0, 0, func(n int) bool { return tries(3, []int{n, 5, 5, 5}) }},
		{"spare circuits of the second Class", 0, 7, func(n int) bool { return tries(3, []int{0, n, 7, 9}) }},
		{"spare circuits of the third Class", 5, 9, func(n int) bool { return tries(3, []int{0, 5, n, 9}) }},
		{"spare circuits of the last Class", 7, 64, func(n int) bool { return tries(3, []int{0, 5, 7, n}) }},
		{"how many are spare", 4, 4, func(n int) bool { return tries(3, make([]int, n)) }},
		upTo("calls of Try", 200, func(n int) bool { return tries(3, none, make([]impl.Arrival, n)...) }),
		{"a Tick behind another one", 700, 1000000000, func(n int) bool { return tries(3, none, impl.Arrival{Tick: 700}, impl.Arrival{Tick: n}) }},
		{"circuits that are enough for seven", 7, 64, func(n int) bool {
			found, _, ok := impl.Try(n, none, slices.Repeat([]impl.Arrival{{Hold: 10}}, 7))
			return ok && found[6]
		}},
		{"circuits of which three are spare", 4, 64, func(n int) bool {
			found, _, ok := impl.Try(n, []int{0, 1, 3, 3}, []impl.Arrival{{Class: 2}})
			return ok && found[0]
		}},
		{"the tick at which a circuit is free again", 110, 1000000000, func(n int) bool {
			found, _, ok := impl.Try(1, none, []impl.Arrival{{Tick: 100, Hold: 10}, {Tick: n}})
			return ok && found[1]
		}},
		upTo("calls of Shed", 200, func(n int) bool { return sheds(1, 2, make([]impl.Arrival, n)...) }),
		{"busy", 0, 10000, func(n int) bool { return sheds(n, 2) }},
		{"most", 0, 10000, func(n int) bool { return sheds(2, n) }},
		{"most that lets nobody in", 0, 5, func(n int) bool { return letsIn(n) == 0 && sheds(5, n) }},
		{"most that lets all in", 14, 10000, func(n int) bool { return letsIn(n) == 9 }},
		{"queues", 1, 8, func(n int) bool { return fair(make([][]int, n), 5) }},
		upTo("numbers of a queue", 60, func(n int) bool { return fair([][]int{{1}, make([]int, n)}, 5) }),
		{"turns", 0, 500, func(n int) bool { return fair([][]int{{1}}, n) }},
		{"turns that serve all", 480, 500, func(n int) bool {
			served, ok := impl.Fair(slices.Repeat([][]int{make([]int, 60)}, 8), n)
			return ok && len(served) == 480
		}},
	}
	for name, takes := range map[string]func(call impl.Arrival) bool{
		"Try":  func(call impl.Arrival) bool { return tries(3, none, call) },
		"Shed": func(call impl.Arrival) bool { return sheds(1, 2, call) },
	} {
		limits = append(limits,
			limit{"Tick of " + name, 0, 1000000000, func(n int) bool { return takes(impl.Arrival{Tick: n}) }},
			limit{"Hold of " + name, 0, 10000, func(n int) bool { return takes(impl.Arrival{Hold: n}) }},
			limit{"Class of " + name, 0, 3, func(n int) bool { return takes(impl.Arrival{Class: n}) }})
	}
	checkLimits(t, limits)
}

// P21: chapter 18.
func TestLimitsOfBooks(t *testing.T) {
	with := func(change func(b *impl.Book)) bool {
		b := impl.Book{Talks: []impl.Talk{{A: 0, B: 1, Circuit: -1}}, Lines: minuses(5), Circuits: minuses(3)}
		change(&b)
		_, code := impl.Restart(b, 1)
		return impl.BookOk(b) && code
	}
	// So many talks of a line each with the next one, as faulty as they are.
	talks := func(n int) []impl.Talk { return slices.Repeat([]impl.Talk{{A: 0, B: 1, Circuit: -1}}, n) }
	// So many talks of two lines of their own.
	pairs := func(n int) impl.Book {
		b := impl.Book{Lines: minuses(30)}
		for i := range n {
			b.Talks = append(b.Talks, impl.Talk{A: 2 * i, B: 2*i + 1, Circuit: -1})
			b.Lines[2*i], b.Lines[2*i+1] = i, i
		}
		return b
	}
	adds := func(b impl.Book, talk impl.Talk) bool {
		_, ok := impl.Add18(b, talk)
		return ok
	}
	three := pairs(3)
	three.Circuits = minuses(3)
	checkLimits(t, []limit{
		upTo("Talks", 30, func(n int) bool { return with(func(b *impl.Book) { b.Talks = talks(n) }) }),
		{"Lines", 2, 30, func(n int) bool { return with(func(b *impl.Book) { b.Lines = minuses(n) }) }},
		upTo("Circuits", 30, func(n int) bool { return with(func(b *impl.Book) { b.Circuits = minuses(n) }) }),
		{"A", 0, 4, func(n int) bool { return with(func(b *impl.Book) { b.Talks[0].A = n }) }},
		{"B", 0, 4, func(n int) bool { return with(func(b *impl.Book) { b.Talks[0].B = n }) }},
		{"Circuit", -1, 2, func(n int) bool { return with(func(b *impl.Book) { b.Talks[0].Circuit = n }) }},
		{"a number of Lines", -1, 30, func(n int) bool { return with(func(b *impl.Book) { b.Lines[4] = n }) }},
		{"a number of Circuits", -1, 30, func(n int) bool { return with(func(b *impl.Book) { b.Circuits[2] = n }) }},
		{"depth", 1, 3, func(n int) bool {
			_, ok := impl.Restart(impl.Book{}, n)
			return ok
		}},
		{"A that is free", 6, 29, func(n int) bool { return adds(three, impl.Talk{A: n, B: 28, Circuit: -1}) }},
		{"B that is free", 6, 29, func(n int) bool { return adds(three, impl.Talk{A: 28, B: n, Circuit: -1}) }},
		{"Circuit that is free", -1, 2, func(n int) bool { return adds(three, impl.Talk{A: 28, B: 29, Circuit: n}) }},
		upTo("Talks that are mended", 30, func(n int) bool {
			b, gone := impl.MendBook(impl.Book{Talks: talks(n), Lines: minuses(5)})
			return len(b.Talks) == 1 && len(gone) == n-1
		}),
	})
	// Two lines each are needed by a talk that is no fault, so thirty Lines are full
	// with fifteen: there are never MaxBook Talks to which one could be added.
	if adds(pairs(15), impl.Talk{A: 0, B: 1, Circuit: -1}) || !adds(pairs(14), impl.Talk{A: 28, B: 29, Circuit: -1}) {
		t.Error("the fifteenth talk")
	}
}

// P21: chapter 19.
func TestLimitsOfSettings(t *testing.T) {
	configures := func(list []impl.Setting, text string) bool {
		_, line := impl.Configure(list, text)
		return line == 0
	}
	begins := func(n int) string {
		return strings.Repeat("begin\n", n) + strings.Repeat("commit\n", n)
	}
	limits := []limit{
		upTo("settings", 40, func(n int) bool { return impl.SettingsOk(manySettings(n)) }),
		upTo("settings of Find19", 40, func(n int) bool {
			_, ok := impl.Find19(manySettings(n), "b100")
			return ok
		}),
		upTo("settings of Diff19", 40, func(n int) bool { return strings.Count(impl.Diff19(nil, manySettings(n)), "\n") == n }),
		upTo("settings ahead of one that is set", 39, func(n int) bool { return configures(manySettings(n), "set a 1\n") }),
		upTo("settings that are there and set", 40, func(n int) bool { return configures(manySettings(n), "set b100 7\n") }),
		upTo("bytes of commands", 3000, func(n int) bool {
			text := strings.Repeat("set a 1\n", n/8-1)
			last := n - len(text)
			return configures(nil, text+"set "+strings.Repeat("a", last-7)+" 1\n")
		}),
		upTo("those that are kept", 4, func(n int) bool { return configures(nil, begins(n)) }),
		upTo("those that are kept over and over", 4, func(n int) bool { return configures(nil, begins(4)+begins(n)) }),
		{"digits of a value", 1, 9, func(n int) bool { return configures(nil, "set a "+ones(n)+"\n") }},
		{"digits of a Value", 1, 9, func(n int) bool { return impl.SettingsOk([]impl.Setting{{Name: "a", Value: ones(n)}}) }},
		{"runes of a Name", 1, 16, func(n int) bool {
			return impl.SettingsOk([]impl.Setting{{Name: strings.Repeat("ж", n), Value: "1"}})
		}},
		{"runes of a Value", 1, 16, func(n int) bool {
			return impl.SettingsOk([]impl.Setting{{Name: "a", Value: strings.Repeat("ж", n)}})
		}},
	}
	for _, letter := range []string{"a", "Z", "é", "ж", "ɏ"} {
		limits = append(limits,
			limit{"letters of a word " + letter, 1, 16, func(n int) bool { return impl.WordOk(strings.Repeat(letter, n)) }},
			limit{"letters of Upper " + letter, 1, 16, func(n int) bool { return impl.Upper(strings.Repeat(letter, n)) != "" }})
	}
	for _, part := range [][2]int{{'A', 'Z'}, {'a', 'z'}, {192, 214}, {216, 246}, {248, 591}, {913, 929}, {931, 969}, {1040, 1103}} {
		limits = append(limits, limit{fmt.Sprint("runes ", part), part[0], part[1], func(n int) bool { return impl.WordOk(string(rune(n))) }})
	}
	limits = append(limits, limit{"digits in a word", '0', '9', func(n int) bool { return impl.WordOk("a" + string(rune(n))) }})
	for _, part := range [][2]rune{{'a', 'z'}, {224, 246}, {248, 254}, {945, 961}, {963, 969}, {1072, 1103}} {
		limits = append(limits, limit{fmt.Sprint("small letters ", part), int(part[0]), int(part[1]), func(n int) bool {
			return impl.Upper(string(rune(n))) == string(rune(n-32))
		}})
	}
	checkLimits(t, limits)
}

// P21: chapter 20, its texts and its words.
func TestLimitsOfConsoles(t *testing.T) {
	says := func(text string) string { return strings.TrimSuffix(impl.Console(text), "\n") }
	done := func(ahead, line string) bool {
		said, ok := strings.CutPrefix(impl.Console(linesOf(ahead)+line), impl.Console(linesOf(ahead)))
		return ok && said != "no\n" && said != "long\n" && said != ""
	}
	isBehind := func(text string) bool { return standingBehind(text).isRight() }
	limits := []limit{
		upTo("bytes", 4000, func(n int) bool { return says(textOfBytes("law 0\n", n, false)) == "0" }),
		upTo("bytes, the last line with its end", 4000, func(n int) bool { return says(textOfBytes("law 0\n", n, true)) == "0" }),
		upTo("bytes of Behind", 4000, func(n int) bool { return isBehind(textOfBytes("law 0\n", n, true)) }),
		upTo("lines", 120, func(n int) bool { return says("law 0\n"+strings.Repeat("\n", n-1)) == "0" }),
		upTo("lines, the last without its end", 120, func(n int) bool { return says(strings.Repeat("\n", n-1)+"law 0") == "0" }),
		upTo("lines of Behind", 120, func(n int) bool { return isBehind(strings.Repeat("x\n", n)) }),
		{"digits of a decimal", 1, 7, func(n int) bool { return done("", "hears "+ones(n)) }},
		{"a decimal", 0, 9999999, func(n int) bool { return done("", fmt.Sprint("hears ", n)) }},
		{"a level of law", -32767, 32767, func(n int) bool { return done("", fmt.Sprint("law ", n)) }},
		{"a number of unlaw", 0, 255, func(n int) bool { return done("", fmt.Sprint("unlaw ", n)) }},
		{"a phase of tone", 0, 255, func(n int) bool { return done("", fmt.Sprint("tone 1 ", n)) }},
		{"bytes of the digit of tone", 1, 1, func(n int) bool { return done("", "tone "+"123"[:n]+" 0") }},
		{"circuits of block", 0, 8, func(n int) bool { return done("", fmt.Sprint("block ", n, " 1 1")) }},
		{"NUM of block", 0, 20, func(n int) bool { return done("", fmt.Sprint("block 1 ", n, " 1")) }},
		{"DEN of block", 1, 10, func(n int) bool { return done("", fmt.Sprint("block 1 1 ", n)) }},
		{"a line of join", 0, 39, func(n int) bool { return done("", fmt.Sprint("join ", n, " 20")) }},
		{"the other line of join", 0, 39, func(n int) bool { return done("", fmt.Sprint("join 20 ", n)) }},
		{"a line of pick", 0, 39, func(n int) bool { return done("join 20 21; park 20", fmt.Sprint("pick ", n)) }},
		{"an inlet", 0, 15, func(n int) bool { return done("", fmt.Sprint("path ", n, " 0")) }},
		{"an outlet", 0, 15, func(n int) bool { return done("", fmt.Sprint("path 0 ", n)) }},
		{"a call", 0, 9999999, func(n int) bool { return done("", fmt.Sprint("call ", n, " 1 0 0")) }},
		{"a PRIORITY", 0, 9, func(n int) bool { return done("", fmt.Sprint("call 1 1 ", n, " 0")) }},
		{"a SKILL, how often it is twice 1", 0, 7, func(n int) bool { return done("", fmt.Sprint("call 1 ", powerOfTwo(n), " 0 0")) }},
		{"a TICK of call", 7, 9999999, func(n int) bool { return done("call 9 2 0 7", fmt.Sprint("call 1 1 0 ", n)) }},
		{"a TICK of end", 7, 9999999, func(n int) bool { return done("call 9 1 0 7", fmt.Sprint("end 0 ", n)) }},
		{"a TICK of gone", 7, 9999999, func(n int) bool { return done("call 9 4 0 7", fmt.Sprint("gone 9 ", n)) }},
		{"an agent", 0, 2, func(n int) bool { return done("call 7 1 0 0; call 8 2 0 0; call 9 1 0 0", fmt.Sprint("end ", n, " 1")) }},
		upTo("rules ahead of one more", 59, func(n int) bool { return done(ruleLines(n), "rule 1 1-1 0 0 -") }),
		upTo("callers ahead of one who waits", 39, func(n int) bool { return done(waitingLines(n), "call 9 4 0 3") }),
		upTo("settings ahead of one more", 39, func(n int) bool { return done(setLines(n), "set a 1") }),
		upTo("digits of dial", 20, func(n int) bool { return done("rule 1 1-20 0 0 -; rule * 1-20 1 0 -", "dial "+ones(n)) }),
		{"a ROUTE", 0, 1000, func(n int) bool { return done("", fmt.Sprint("rule 1 1-1 ", n, " 0 -")) }},
		{"a STRIP", 0, 3, func(n int) bool { return done("", fmt.Sprint("rule 1 3-4 1 ", n, " -")) }},
		{"a LEAST", 2, 5, func(n int) bool { return done("", fmt.Sprint("rule 12 ", n, "-5 1 0 -")) }},
		{"a MOST", 5, 20, func(n int) bool { return done("", fmt.Sprint("rule 12 5-", n, " 1 0 -")) }},
		{"a PREFIX", 1, 20, func(n int) bool { return done("", "rule "+ones(n)+" 20-20 1 0 -") }},
		{"an ADD", 1, 12, func(n int) bool { return done("", "rule 1 8-8 1 0 "+ones(n)) }},
		{"runes of a NAME", 1, 16, func(n int) bool { return done("", "set "+strings.Repeat("я", n)+" 1") }},
		{"runes of a VALUE", 1, 16, func(n int) bool { return done("", "set a "+strings.Repeat("я", n)) }},
		{"digits of a VALUE", 1, 9, func(n int) bool { return done("", "set a "+ones(n)) }},
		upTo("legs of a call", 8, func(n int) bool {
			lines := []string{"join 0 1"}
			for line := 2; line < n-1; line++ {
				lines = append(lines, fmt.Sprint("join 0 ", line))
			}
			return done(strings.Join(lines, "; "), "join 39 0")
		}),
	}
	checkLimits(t, limits)
}
