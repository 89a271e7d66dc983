package tests

import (
	"math"
	"testing"

	"loop.example/g00052/impl"
)

func purse(left int, kept int) impl.Purse { return impl.Purse{Left: left, Kept: kept} }

type reserveCase struct {
	list  string
	purse impl.Purse
	begin int
	most  int
	n     int
	cost  int
	why   string
}

// checkReserves wants a cost kept for n ticks of a call of zone 1, or nothing
// done where n is 0.
func checkReserves(t *testing.T, cases []reserveCase) {
	t.Helper()
	for _, c := range cases {
		want := purse(c.purse.Left, c.purse.Kept+c.cost)
		got, n, ok := impl.Reserve(c.purse, tariffsOf(c.list), 1, c.begin, c.most)
		if got != want || n != c.n || ok != (c.n > 0) {
			t.Errorf("%s: [%s], %v from %d, at most %d: %v, %d, %v", c.why, c.list, c.purse, c.begin, c.most, got, n, ok)
		}
	}
}

// P9: what a purse can pay.
func TestReserve(t *testing.T) {
	const free, later, cheaper = "1@0/60*0+7", "1@0/60*0 1@100/60*10", "1@0/60*10 1@100/30*1"
	checkReserves(t, []reserveCase{
		{byDay, purse(40, 4), 30000, 600, 180, 35, "three steps"},
		{byDay, purse(15, 0), 30000, 600, 60, 15, "just a step"},
		{byDay, purse(14, 0), 30000, 600, 0, 0, "one less than a step"},
		{byDay, purse(16, 0), 30000, 600, 60, 15, "one more than a step"},
		{byDay, purse(24, 0), 30000, 600, 60, 15, "one less than two steps"},
		{byDay, purse(25, 0), 30000, 600, 120, 25, "just two steps"},
		{byDay, purse(26, 0), 30000, 600, 120, 25, "one more than two steps"},
		{byDay, purse(5, 0), 30000, 600, 0, 0, "First alone"},
		{byDay, purse(4, 0), 30000, 600, 0, 0, "less than First"},
		{byDay, purse(0, 0), 30000, 600, 0, 0, "nothing"},
		{byDay, purse(1000, 985), 30000, 600, 60, 15, "what is kept already isn't there"},
		{byDay, purse(1000, 986), 30000, 600, 0, 0, "one more is kept already"},
		{byDay, purse(1000, 1000), 30000, 600, 0, 0, "Kept equal to Left"},
		{byDay, purse(1000, 0), 30000, 600, 600, 105, "more than enough"},
		{byDay, purse(1000, 0), 30000, 599, 599, 105, "most within the last step"},
		{byDay, purse(1000, 0), 30000, 601, 601, 115, "most one behind a step"},
		{byDay, purse(25, 0), 30000, 61, 61, 25, "most one into a step that can be paid"},
		{byDay, purse(24, 0), 30000, 61, 60, 15, "most one into a step that can't"},
		{byDay, purse(15, 0), 30000, 60, 60, 15, "most at a step's end"},
		{byDay, purse(15, 0), 30000, 59, 59, 15, "most one below a step's end"},
		{byDay, purse(15, 0), 30000, 1, 1, 15, "most 1"},
		{byDay, purse(14, 0), 30000, 1, 0, 0, "most 1, one less"},
		{free, purse(7, 0), 30000, 600, 600, 7, "Price 0: the greatest is most"},
		{free, purse(6, 0), 30000, 600, 0, 0, "Price 0, one less than First"},
		{free, purse(6, 0), 30000, 1, 0, 0, "Price 0, one less than First, for a tick"},
		{free, purse(7, 0), 30000, 86400, 86400, 7, "Price 0: a whole day"},
		{"1@0/60*0", purse(0, 0), 30000, 600, 600, 0, "all is free, the purse empty"},
		{"1@0/60*0", purse(9, 9), 30000, 600, 600, 0, "all is free, all is kept"},
		{later, purse(0, 0), 0, 600, 120, 0, "free at first"},
		{later, purse(9, 0), 0, 600, 120, 0, "free at first, one less"},
		{later, purse(10, 0), 0, 600, 180, 10, "free at first, then a step"},
		{cheaper, purse(10, 0), 0, 600, 60, 10, "what comes behind is cheaper, but not reached"},
		{cheaper, purse(20, 0), 0, 600, 120, 20, "two dear steps"},
		{cheaper, purse(23, 0), 0, 600, 210, 23, "two dear steps and three others"},
		{"1@0/60*7+5 1@200/1*0", purse(12, 0), 86400 - 30, 600, 90, 7, "free up to the turn of the day, then a step"},
		{"1@0/60*7+5 1@200/1*0+3", purse(12, 0), 86400 - 30, 600, 90, 10, "First is of the tariff at begin"},
	})
}

// P9, P21: most, the days and the last tick.
func TestReserveAtTheEnds(t *testing.T) {
	const one, long = "1@0/1*1", "1@0/10000*3+1"
	const last = 1000000000
	checkReserves(t, []reserveCase{
		{one, purse(100000, 0), 5, 0, 0, 0, "most 0"},
		{one, purse(100000, 0), 5, -1, 0, 0, "most -1"},
		{one, purse(100000, 0), 5, math.MinInt, 0, 0, "most far below"},
		{one, purse(100000, 0), 5, 1, 1, 1, "most 1"},
		{one, purse(100000, 0), 5, 86399, 86399, 86399, "most one less than DayTicks"},
		{one, purse(100000, 0), 5, 86400, 86400, 86400, "most DayTicks"},
		{one, purse(100000, 0), 5, 86401, 0, 0, "most one more"},
		{one, purse(100000, 0), 5, math.MaxInt, 0, 0, "most far away"},
		{one, purse(86400, 0), 5, 86400, 86400, 86400, "a purse for just a day"},
		{one, purse(86399, 0), 5, 86400, 86399, 86399, "a purse for one tick less"},
		{"1@0/1*100000+100000", purse(last, 0), 5, 86400, 9999, last, "a full purse at the greatest prices"},
		{"1@0/1*100000+100000", purse(last, 1), 5, 86400, 9998, last - 100000, "one of it is kept"},
		{long, purse(28, 0), 5, 86400, 86400, 28, "the last step goes on behind most"},
		{long, purse(27, 0), 5, 86400, 80000, 25, "the last step can't be paid"},
		{one, purse(1000, 0), last, 100, 0, 0, "begin at the last tick"},
		{one, purse(1000, 0), last, 1, 0, 0, "begin at the last tick, most 1"},
		{"1@0/1*0", purse(1000, 0), last, 1, 0, 0, "begin at the last tick, free"},
		{one, purse(1000, 0), last - 1, 100, 1, 1, "begin one ahead of it"},
		{one, purse(1000, 0), last - 10, 100, 10, 10, "up to the last tick"},
		{one, purse(1000, 0), last - 10, 11, 10, 10, "most one past it"},
		{one, purse(1000, 0), last - 10, 10, 10, 10, "most just to it"},
		{one, purse(1000, 0), last - 10, 9, 9, 9, "most one below it"},
		{one, purse(5, 0), last - 10, 100, 5, 5, "not up to the last tick"},
		{long, purse(4, 0), last - 10, 100, 10, 4, "a step that goes on behind the last tick"},
		{long, purse(3, 0), last - 10, 100, 0, 0, "a step that goes on behind the last tick, one less"},
		{one, purse(1000, 0), last - 86400, 86400, 1000, 1000, "a day ahead of the last tick, the purse is empty first"},
		{one, purse(last, 0), last - 86400, 86400, 86400, 86400, "a day ahead of the last tick"},
		{one, purse(last, 0), last - 86399, 86400, 86399, 86399, "a tick less than a day ahead of it"},
	})
}

// checkNotReserved wants the purse as it was, right or not.
func checkNotReserved(t *testing.T, why string, p impl.Purse, list []impl.Tariff, zone int, begin int, most int) {
	t.Helper()
	if got, n, ok := impl.Reserve(p, list, zone, begin, most); got != p || n != 0 || ok {
		t.Errorf("%s: %v, zone %d from %d, at most %d: %v, %d, %v", why, p, zone, begin, most, got, n, ok)
	}
}

// P9: what Reserve refuses beside a purse that can't pay.
func TestReserveRefused(t *testing.T) {
	full, list := purse(900, 30), tariffsOf(byDay)
	checkNotReserved(t, "a zone that has none", full, list, 0, 30000, 600)
	checkNotReserved(t, "a zone that is none", full, list, -1, 30000, 600)
	checkNotReserved(t, "a zone too many", full, list, 100, 30000, 600)
	checkNotReserved(t, "begin below 0", full, list, 1, -1, 600)
	checkNotReserved(t, "begin far below", full, list, 1, math.MinInt, 600)
	checkNotReserved(t, "begin past the last tick", full, list, 1, 1000000001, 600)
	checkNotReserved(t, "begin far away", full, list, 1, math.MaxInt, 600)
	checkNotReserved(t, "begin far away, most 1", full, list, 1, math.MaxInt, 1)
	checkNotReserved(t, "an empty list", full, nil, 1, 30000, 600)
	checkNotReserved(t, "a list of another zone", full, tariffsOf("2@0/1*1"), 1, 30000, 600)
	for why, list := range wrongTariffs() {
		checkNotReserved(t, why, full, list, 1, 30000, 600)
		checkNotReserved(t, why, full, list, 2, 30000, 600)
	}
	for _, p := range wrongPurses() {
		checkNotReserved(t, "no purse", p, list, 1, 30000, 600)
		checkNotReserved(t, "no purse, all is free", p, tariffsOf("1@0/60*0"), 1, 30000, 600)
		checkNotReserved(t, "no purse, for a tick", p, tariffsOf("1@0/60*0"), 1, 30000, 1)
	}
}

// wrongPurses are out of 0 .. MaxTick, or have more Kept than Left.
func wrongPurses() []impl.Purse {
	const last = 1000000000
	return []impl.Purse{
		purse(0, 1), purse(10, 11), purse(last-1, last), purse(0, last), purse(10, math.MaxInt),
		purse(-1, 0), purse(-1, -1), purse(-1, -2), purse(900, -1), purse(0, -1), purse(900, math.MinInt),
		purse(math.MinInt, 0), purse(math.MinInt, math.MaxInt), purse(math.MinInt, math.MinInt),
		purse(last+1, 0), purse(last+1, last), purse(last+1, last+1), purse(last, last+1),
		purse(math.MaxInt, 0), purse(math.MaxInt, math.MinInt), purse(math.MaxInt, math.MaxInt),
	}
}

// P9, P21: Left and Kept at their ends, and Kept beside Left.
func TestPurseNumbers(t *testing.T) {
	list := tariffsOf("1@0/60*0")
	numbers := endsAround(0, 10, 1000, impl.MaxTick)
	for _, left := range numbers {
		for _, kept := range numbers {
			p := purse(left, kept)
			want := left >= 0 && left <= 1000000000 && kept >= 0 && kept <= left
			if got, n, ok := impl.Reserve(p, list, 1, 7, 9); got != p || ok != want || ok != (n == 9) || ok == (n == 0) {
				t.Errorf("Reserve of %v: %v, %d, %v", p, got, n, ok)
			}
			if got, ok := impl.SettleUp(p, 0, 0); got != p || ok != want {
				t.Errorf("SettleUp of %v: %v, %v", p, got, ok)
			}
		}
	}
}

// P9, P21: what SettleUp does, and refuses.
func TestSettleUp(t *testing.T) {
	const last = 1000000000
	cases := []struct {
		purse impl.Purse
		kept  int
		cost  int
		want  impl.Purse
		ok    bool
		why   string
	}{
		{purse(40, 39), 35, 15, purse(25, 4), true, "less than was kept"},
		{purse(40, 39), 35, 35, purse(5, 4), true, "cost as kept"},
		{purse(40, 39), 35, 36, purse(40, 39), false, "cost one more than kept"},
		{purse(40, 39), 35, 0, purse(40, 4), true, "cost 0"},
		{purse(40, 39), 35, -1, purse(40, 39), false, "cost -1"},
		{purse(40, 39), 39, 15, purse(25, 0), true, "kept as Kept"},
		{purse(40, 39), 39, 39, purse(1, 0), true, "kept as Kept, cost too"},
		{purse(40, 39), 40, 15, purse(40, 39), false, "kept one more than Kept"},
		{purse(40, 39), 40, 40, purse(40, 39), false, "kept one more than Kept, cost too"},
		{purse(40, 39), 38, 38, purse(2, 1), true, "kept one less than Kept"},
		{purse(40, 39), 0, 0, purse(40, 39), true, "kept 0"},
		{purse(40, 39), 0, 1, purse(40, 39), false, "kept 0, cost 1"},
		{purse(40, 39), 0, -1, purse(40, 39), false, "kept 0, cost -1"},
		{purse(40, 39), -1, 0, purse(40, 39), false, "kept -1"},
		{purse(40, 39), -1, -1, purse(40, 39), false, "kept -1, cost too"},
		{purse(40, 40), 40, 40, purse(0, 0), true, "all of it"},
		{purse(40, 40), 40, 0, purse(40, 0), true, "nothing of it"},
		{purse(0, 0), 0, 0, purse(0, 0), true, "an empty purse"},
		{purse(0, 0), 1, 0, purse(0, 0), false, "an empty purse, kept 1"},
		{purse(last, last), last, last, purse(0, 0), true, "all of a full one"},
		{purse(last, last), last, 1, purse(last-1, 0), true, "little of a full one"},
		{purse(last, last), last + 1, 1, purse(last, last), false, "kept past MaxTick"},
		{purse(40, 39), math.MinInt, 0, purse(40, 39), false, "kept far below"},
		{purse(40, 39), math.MaxInt, 0, purse(40, 39), false, "kept far away"},
		{purse(40, 39), 39, math.MinInt, purse(40, 39), false, "cost far below"},
		{purse(40, 39), 39, math.MaxInt, purse(40, 39), false, "cost far away"},
		{purse(40, 39), math.MaxInt, math.MaxInt, purse(40, 39), false, "both far away"},
		{purse(40, 39), math.MinInt, math.MinInt, purse(40, 39), false, "both far below"},
	}
	for _, c := range cases {
		if got, ok := impl.SettleUp(c.purse, c.kept, c.cost); got != c.want || ok != c.ok {
			t.Errorf("%s: %v, kept %d, cost %d: %v, %v", c.why, c.purse, c.kept, c.cost, got, ok)
		}
	}
	for _, p := range wrongPurses() {
		for _, kept := range []int{-1, 0, 1, 10, p.Kept, p.Left} {
			for _, cost := range []int{-1, 0, 1, kept} {
				if got, ok := impl.SettleUp(p, kept, cost); got != p || ok {
					t.Errorf("%v, kept %d, cost %d: %v, %v", p, kept, cost, got, ok)
				}
			}
		}
	}
}

// P9: all small purses, by what SettleUp may take of them.
func TestSettleUpOfSmallPurses(t *testing.T) {
	for left := -2; left <= 6; left++ {
		for keeps := -2; keeps <= 7; keeps++ {
			for kept := -2; kept <= 8; kept++ {
				for cost := -2; cost <= 9; cost++ {
					want, wantOk := purse(left, keeps), 0 <= cost && cost <= kept && kept <= keeps && keeps <= left
					if wantOk {
						want = purse(left-cost, keeps-kept)
					}
					if got, ok := impl.SettleUp(purse(left, keeps), kept, cost); got != want || ok != wantOk {
						t.Errorf("%v, kept %d, cost %d: %v, %v", purse(left, keeps), kept, cost, got, ok)
					}
				}
			}
		}
	}
}

// tellReserve tries all lengths from the longest one down.
func tellReserve(p impl.Purse, told []impl.Charge) (impl.Purse, int) {
	for n := len(told) - 1; n > 0; n-- {
		if told[n].Cost <= p.Left-p.Kept {
			return purse(p.Left, p.Kept+told[n].Cost), n
		}
	}
	return p, 0
}

func checkToldReserve(t *testing.T, p impl.Purse, list []impl.Tariff, zone int, begin int, told []impl.Charge) {
	t.Helper()
	most := len(told) - 1
	want, wantN := tellReserve(p, told[:min(most, 1000000000-begin)+1])
	if got, n, ok := impl.Reserve(p, list, zone, begin, most); got != want || n != wantN || ok != (wantN > 0) {
		t.Fatalf("%v, %s, zone %d from %d, at most %d: %v, %d, %v, not %v, %d", p, textOfTariffs(list), zone, begin, most, got, n, ok, want, wantN)
	}
}

// P9: all small lists around the turn of the day, with purses that can pay
// just so much, one less and one more.
func TestReserveOfSmallLists(t *testing.T) {
	everySmallList(func(list []impl.Tariff) {
		day := tellDay(list, 1)
		for begin := 86396; begin <= 86404; begin += 2 {
			told := tellCharges(list, day, begin, 7)
			for _, now := range told {
				for room := now.Cost - 1; room <= now.Cost+1; room++ {
					checkToldReserve(t, purse(max(room, 0)+77, 77), list, 1, begin, told)
				}
			}
		}
	})
}

// P9: drawn lists, purses and lengths; at the last tick, too.
func TestReserveDrawn(t *testing.T) {
	r := drawn(97)
	for range 300 {
		list := drawTariffs(&r, 1+r.below(impl.MaxTariffs), 90, 30)
		zone := list[0].Zone
		day := tellDay(list, zone)
		for _, begin := range []int{86400 - 60 + r.below(120), 999993600 + r.below(90), 1000000000 - r.below(90)} {
			for range 10 {
				told := tellCharges(list, day, begin, 1+r.below(150))
				left := r.below(1 + 2*told[len(told)-1].Cost)
				checkToldReserve(t, purse(left, r.below(left+1)), list, zone, begin, told)
			}
		}
	}
}

// P9: what was reserved is enough for any end within it, and not for a tick
// more.
func TestReservedIsEnough(t *testing.T) {
	r := drawn(98)
	for range 400 {
		list := drawTariffs(&r, 1+r.below(10), 80, 30)
		zone, begin, most := list[0].Zone, 86400-60+r.below(120), 1+r.below(200)
		p := purse(200+r.below(100), r.below(200))
		q, n, ok := impl.Reserve(p, list, zone, begin, most)
		if !ok {
			n = 0
		}
		for end := begin; ok && end <= begin+n; end++ {
			if c, rated := impl.Rate(list, zone, begin, end); !rated || c.Cost > q.Kept-p.Kept {
				t.Fatalf("%v, %s from %d: %d are kept, %v to %d", p, textOfTariffs(list), begin, q.Kept-p.Kept, c, end)
			}
		}
		if n == most {
			continue
		}
		if c, rated := impl.Rate(list, zone, begin, begin+n+1); !rated || c.Cost <= p.Left-p.Kept {
			t.Fatalf("%v, %s from %d: %d ticks, but %v for one more", p, textOfTariffs(list), begin, n, c)
		}
	}
}

// A keeping is what a purse keeps for a call that goes on.
type keeping struct {
	list  []impl.Tariff
	begin int
	ticks int
	kept  int
}

// A wallet is a purse at work, with all that it keeps.
type wallet struct {
	purse impl.Purse
	open  []keeping
}

func (w *wallet) reserve(t *testing.T, r *drawn) bool {
	t.Helper()
	list := drawTariffs(r, 1+r.below(6), 80, 30)
	begin := 86400 - 60 + r.below(120)
	q, n, ok := impl.Reserve(w.purse, list, list[0].Zone, begin, 1+r.below(300))
	if ok {
		w.open = append(w.open, keeping{list, begin, n, q.Kept - w.purse.Kept})
	} else if q != w.purse {
		t.Fatalf("%v is refused, and is %v", w.purse, q)
	}
	w.purse = q
	return ok
}

// settle ends one of the calls at any tick up to the one it may go on to.
func (w *wallet) settle(t *testing.T, r *drawn) {
	t.Helper()
	place := r.below(len(w.open))
	k := w.open[place]
	w.open = append(w.open[:place:place], w.open[place+1:]...)
	c, _ := impl.Rate(k.list, k.list[0].Zone, k.begin, k.begin+r.below(k.ticks+1))
	q, ok := impl.SettleUp(w.purse, k.kept, c.Cost)
	if !ok || q != purse(w.purse.Left-c.Cost, w.purse.Kept-k.kept) {
		t.Fatalf("%v, kept %d, cost %d: %v, %v", w.purse, k.kept, c.Cost, q, ok)
	}
	w.purse = q
}

// refuse asks for what is not there.
func (w *wallet) refuse(t *testing.T, r *drawn) {
	t.Helper()
	kept := r.below(w.purse.Kept + 1)
	for _, try := range [][2]int{{w.purse.Kept + 1, 0}, {kept, kept + 1}, {-1, 0}, {kept, -1}} {
		if q, ok := impl.SettleUp(w.purse, try[0], try[1]); ok || q != w.purse {
			t.Fatalf("%v, kept %d, cost %d: %v, %v", w.purse, try[0], try[1], q, ok)
		}
	}
}

func (w *wallet) check(t *testing.T) {
	t.Helper()
	sum := 0
	for _, k := range w.open {
		sum += k.kept
	}
	if w.purse.Kept != sum || w.purse.Left < w.purse.Kept {
		t.Fatalf("%v, for calls that keep %d", w.purse, sum)
	}
}

// P9: a purse never falls below nothing, whatever calls it is kept for, and in
// whichever order they end.
func TestPurseNeverBelowNothing(t *testing.T) {
	r := drawn(99)
	done, refused := 0, 0
	for range 200 {
		w := wallet{purse: purse(r.below(3000), 0)}
		for range 60 {
			if len(w.open) > 0 && r.below(3) == 0 {
				w.settle(t, &r)
			} else if w.reserve(t, &r) {
				done++
			} else {
				refused++
			}
			w.refuse(t, &r)
			w.check(t)
		}
		for len(w.open) > 0 {
			w.settle(t, &r)
			w.check(t)
		}
	}
	if done < 500 || refused < 500 {
		t.Errorf("%d are reserved, %d refused: the draw is too narrow", done, refused)
	}
}
