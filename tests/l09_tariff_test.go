package tests

import (
	"fmt"
	"math"
	"regexp"
	"slices"
	"strings"
	"testing"

	"loop.example/g00052/impl"
)

// The tests of charges write a tariff as text, "1@28800/60*10+5": of Zone 1 it
// holds from From 28800 on, a Step of 60 ticks has the Price 10, First is 5. A
// First that is left out is 0. Those of a list have spaces between them.

var tariffWord = regexp.MustCompile(`^(-?\d+)@(-?\d+)/(-?\d+)\*(-?\d+)(?:\+(-?\d+))?$`)

func tariffOf(word string) impl.Tariff {
	parts := tariffWord.FindStringSubmatch(word)
	if parts == nil {
		panic("no tariff: " + word)
	}
	var n [5]int
	for i, part := range parts[1:] {
		if part != "" {
			mustScan(part, "%d", &n[i])
		}
	}
	return impl.Tariff{Zone: n[0], From: n[1], Step: n[2], Price: n[3], First: n[4]}
}

func tariffsOf(text string) []impl.Tariff {
	var list []impl.Tariff
	for _, word := range strings.Fields(text) {
		list = append(list, tariffOf(word))
	}
	return list
}

func textOfTariffs(list []impl.Tariff) string {
	var words []string
	for _, f := range list {
		words = append(words, fmt.Sprintf("%d@%d/%d*%d+%d", f.Zone, f.From, f.Step, f.Price, f.First))
	}
	return "[" + strings.Join(words, " ") + "]"
}

// manyTariffs are of a few zones, the later From first.
func manyTariffs(n int) []impl.Tariff {
	var list []impl.Tariff
	for i := range n {
		list = append(list, impl.Tariff{Zone: i % 3, From: (n - i) * 100, Step: i + 1, Price: i, First: 2 * i})
	}
	return list
}

func changedTariff(change func(f *impl.Tariff)) []impl.Tariff {
	list := tariffsOf("1@28800/60*10+5 1@64800/30*2+1 2@0/10*4")
	change(&list[1])
	return list
}

// wrongTariffs have one fault each, by what it is.
func wrongTariffs() map[string][]impl.Tariff {
	return map[string][]impl.Tariff{
		"one too many":                    manyTariffs(impl.MaxTariffs + 1),
		"far too many":                    manyTariffs(500),
		"too many of other zones":         append(tariffsOf("7@0/1*1"), manyTariffs(impl.MaxTariffs)...),
		"the zero value":                  {{}},
		"Zone -1":                         tariffsOf("-1@0/60*10"),
		"Zone 100":                        tariffsOf("1@0/60*10 100@0/60*10"),
		"Zone far below":                  changedTariff(func(f *impl.Tariff) { f.Zone = math.MinInt }),
		"Zone far away":                   changedTariff(func(f *impl.Tariff) { f.Zone = math.MaxInt }),
		"From -1":                         tariffsOf("1@-1/60*10"),
		"From at the next day":            tariffsOf("1@86400/60*10"),
		"From far below":                  changedTariff(func(f *impl.Tariff) { f.From = math.MinInt }),
		"From far away":                   changedTariff(func(f *impl.Tariff) { f.From = math.MaxInt }),
		"Step 0":                          tariffsOf("1@0/60*10 1@5/0*10"),
		"Step -1":                         tariffsOf("1@0/-1*10"),
		"Step 10001":                      tariffsOf("1@0/10001*10"),
		"Step far away":                   changedTariff(func(f *impl.Tariff) { f.Step = math.MaxInt }),
		"Price -1":                        tariffsOf("1@0/60*-1"),
		"Price 100001":                    tariffsOf("1@0/60*100001"),
		"Price far away":                  changedTariff(func(f *impl.Tariff) { f.Price = math.MaxInt }),
		"First -1":                        tariffsOf("1@0/60*10+-1"),
		"First 100001":                    tariffsOf("1@0/60*10+100001"),
		"First far below":                 changedTariff(func(f *impl.Tariff) { f.First = math.MinInt }),
		"one twice":                       tariffsOf("1@5/60*10 1@5/60*10"),
		"two of a zone have From 0":       tariffsOf("0@0/60*10 0@0/30*5+9"),
		"two of a zone, others between":   tariffsOf("1@5/60*10 2@5/60*10 1@6/60*10 3@5/1*1 1@5/7*7"),
		"two of zone 99 at the day's end": tariffsOf("99@86399/1*1 99@0/1*1 99@86399/2*2"),
		"a fault of another zone":         tariffsOf("1@0/60*10 2@0/0*10"),
		"a fault in front":                tariffsOf("2@0/0*10 1@0/60*10"),
	}
}

// P9, P21: lists that are right, at the limits too.
func TestTariffsOk(t *testing.T) {
	good := map[string][]impl.Tariff{
		"none":                          nil,
		"an empty list":                 {},
		"one":                           tariffsOf("1@0/60*10+5"),
		"all at the lower ends":         tariffsOf("0@0/1*0+0"),
		"all at the upper ends":         tariffsOf("99@86399/10000*100000+100000"),
		"two of a zone":                 tariffsOf("1@28800/60*10+5 1@64800/30*2+1"),
		"two of a zone, beside another": tariffsOf("1@28800/60*10+5 1@28801/60*10+5"),
		"the later From first":          tariffsOf("1@64800/30*2+1 1@28800/60*10+5"),
		"two zones have the same From":  tariffsOf("1@5/60*10 2@5/60*10"),
		"all zones have it":             tariffsOf("0@0/1*1 98@0/1*1 99@0/1*1 7@0/1*1"),
		"a From as another's Zone":      tariffsOf("1@2/1*1 2@1/1*1 1@1/1*1 2@2/1*1"),
		"MaxTariffs":                    manyTariffs(impl.MaxTariffs),
	}
	for why, list := range good {
		if !impl.TariffsOk(list) {
			t.Errorf("%s: %s is not ok", why, textOfTariffs(list))
		}
	}
	for why, list := range wrongTariffs() {
		if impl.TariffsOk(list) {
			t.Errorf("%s: %s is ok", why, textOfTariffs(list))
		}
	}
}

// P21: how many there may be, whatever their zones.
func TestTariffsMany(t *testing.T) {
	if impl.MaxTariffs != 40 || impl.DayTicks != 86400 {
		t.Errorf("MaxTariffs %d, DayTicks %d", impl.MaxTariffs, impl.DayTicks)
	}
	for n := range 60 {
		if got := impl.TariffsOk(manyTariffs(n)); got != (n <= 40) {
			t.Errorf("%d of three zones: %v", n, got)
		}
		var one, each []impl.Tariff
		for i := range n {
			one = append(one, impl.Tariff{Zone: 5, From: i, Step: 1})
			each = append(each, impl.Tariff{Zone: i, From: 5, Step: 1})
		}
		if impl.TariffsOk(one) != (n <= 40) || impl.TariffsOk(each) != (n <= 40) {
			t.Errorf("%d of one zone, of a zone each: %v, %v", n, impl.TariffsOk(one), impl.TariffsOk(each))
		}
	}
}

// checkTariffEnds tries numbers at one place of a tariff; those from least to
// most are right there.
func checkTariffEnds(t *testing.T, what string, least int, most int, put func(f *impl.Tariff, n int)) {
	t.Helper()
	for place := range 3 {
		for _, n := range endsAround(0, 1, least, most, 50, 99, 10000, 86399, 100000, impl.MaxTick) {
			list := tariffsOf("1@28800/60*10+5 2@64800/30*2+1 3@5/10*4")
			put(&list[place], n)
			if got, want := impl.TariffsOk(list), n >= least && n <= most; got != want {
				t.Errorf("%s of tariff %d at %d: %v", what, place, n, got)
			}
		}
	}
}

// P9, P21: each number of a tariff at its ends and past them.
func TestTariffNumbers(t *testing.T) {
	checkTariffEnds(t, "Zone", 0, 99, func(f *impl.Tariff, n int) { f.Zone = n })
	checkTariffEnds(t, "From", 0, 86399, func(f *impl.Tariff, n int) { f.From = n })
	checkTariffEnds(t, "Step", 1, 10000, func(f *impl.Tariff, n int) { f.Step = n })
	checkTariffEnds(t, "Price", 0, 100000, func(f *impl.Tariff, n int) { f.Price = n })
	checkTariffEnds(t, "First", 0, 100000, func(f *impl.Tariff, n int) { f.First = n })
}

// P9, P21: each zone there is, and none beside them; a call's own Zone as the
// list's.
func TestZones(t *testing.T) {
	for zone := -300; zone <= 300; zone++ {
		list := []impl.Tariff{{Zone: zone, Step: 1}}
		want := zone >= 0 && zone <= 99
		if got := impl.TariffsOk(list); got != want {
			t.Errorf("zone %d: %v", zone, got)
		}
		if place, ok := impl.TariffAt(list, zone, 7); ok != want || (place == 0) != want {
			t.Errorf("zone %d: %d, %v", zone, place, ok)
		}
		if place, ok := impl.TariffAt(tariffsOf("0@0/1*1 99@0/1*1"), zone, 7); ok != (zone == 0 || zone == 99) || ok && place != zone/99 {
			t.Errorf("zone %d, of which there may be none: %d, %v", zone, place, ok)
		}
	}
}

// P9, P21: the same of what a call costs: of its own zone, of one that has no
// tariff, and with a tariff of its zone beside one that may not be.
func TestZonesOfCalls(t *testing.T) {
	for _, zone := range endsAround(0, 1, 50, 98, 99, 100, 255) {
		want := zone >= 0 && zone <= 99
		checkZoneOfCall(t, "its own zone", []impl.Tariff{{Zone: zone, Step: 10, Price: 3, First: 4}}, zone, want)
		checkZoneOfCall(t, "another zone", tariffsOf("7@0/10*3+4"), zone, zone == 7)
		checkZoneOfCall(t, "none at all", nil, zone, false)
		list := append(tariffsOf("7@0/10*3+4"), impl.Tariff{Zone: zone, From: 5000, Step: 1})
		checkZoneOfCall(t, "beside it", list, 7, want)
	}
}

// checkZoneOfCall has a call of 15 ticks: two steps of 3 and a First of 4.
func checkZoneOfCall(t *testing.T, why string, list []impl.Tariff, zone int, want bool) {
	t.Helper()
	cost, n, after := impl.Charge{}, 0, impl.Purse{Left: 12, Kept: 2}
	if want {
		cost, n, after = impl.Charge{Steps: 2, Cost: 10}, 20, impl.Purse{Left: 12, Kept: 12}
	}
	if got, ok := impl.Rate(list, zone, 100, 115); got != cost || ok != want {
		t.Errorf("%s: %s, zone %d: %v, %v", why, textOfTariffs(list), zone, got, ok)
	}
	if got, ok := impl.RateParts(list, zone, 100, 115, []int{100, 107, 115}); got != cost || ok != want {
		t.Errorf("%s: %s, zone %d, in parts: %v, %v", why, textOfTariffs(list), zone, got, ok)
	}
	if got, most, ok := impl.Reserve(impl.Purse{Left: 12, Kept: 2}, list, zone, 100, 60); got != after || most != n || ok != want {
		t.Errorf("%s: %s, zone %d: %v is kept for %d, %v", why, textOfTariffs(list), zone, got, most, ok)
	}
}

// P9: no two of a zone have the same From, wherever both stand.
func TestTariffsTwice(t *testing.T) {
	n := impl.MaxTariffs
	for one := range n {
		for two := range one {
			list := manyTariffs(n)
			list[one].Zone, list[one].From = list[two].Zone, list[two].From
			if impl.TariffsOk(list) {
				t.Errorf("From of a zone at places %d and %d: ok", two, one)
			}
			list[one].Zone = 50
			if !impl.TariffsOk(list) {
				t.Errorf("From of two zones at places %d and %d: not ok", two, one)
			}
		}
	}
}

// P9: the tariff that holds, by a zone and a tick.
func TestTariffAt(t *testing.T) {
	const day = 86400
	two := "1@28800/60*10+5 1@64800/30*2+1"
	mixed := "2@100/1*1 1@64800/30*2+1 2@0/1*1 1@28800/60*10+5 3@50/1*1 1@40000/1*1"
	cases := []struct {
		list string
		zone int
		tick int
		want int
		why  string
	}{
		{two, 1, 0, 1, "ahead of every From the greatest of all holds"},
		{two, 1, 28799, 1, "one below a From"},
		{two, 1, 28800, 0, "at it"},
		{two, 1, 28801, 0, "one behind it"},
		{two, 1, 64799, 0, "one below the other"},
		{two, 1, 64800, 1, "at the other"},
		{two, 1, 64801, 1, "one behind the other"},
		{two, 1, day - 1, 1, "the last tick of a day"},
		{two, 1, day, 1, "the first of the next"},
		{two, 1, day + 28799, 1, "one below From on the next day"},
		{two, 1, day + 28800, 0, "at From on the next day"},
		{two, 1, 7*day + 64799, 0, "some days later"},
		{two, 1, 7*day + 64800, 1, "some days later, at the other"},
		{two, 0, 30000, -1, "a zone that has none"},
		{two, 2, 30000, -1, "another one"},
		{two, 28800, 30000, -1, "a From is no zone"},
		{two, -1, 30000, -1, "a zone that is none"},
		{two, 100, 30000, -1, "a zone too many"},
		{two, math.MinInt, 30000, -1, "a zone far below"},
		{two, math.MaxInt, 30000, -1, "a zone far away"},
		{two, 1, -1, -1, "a tick below 0"},
		{two, 1, -day, -1, "a day below 0"},
		{two, 1, 28800 - day, -1, "at From of the day below 0"},
		{two, 1, impl.MaxTick + 1, -1, "one past the last tick"},
		{two, 1, math.MinInt, -1, "a tick far below"},
		{two, 1, math.MaxInt, -1, "a tick far away"},
		{two, 1, impl.MaxTick, 1, "the last tick, the 6400th of its day"},
		{"1@6401/1*1 1@6400/1*1 1@6399/1*1", 1, impl.MaxTick, 1, "the last tick, at a From"},
		{mixed, 1, 28799, 1, "not in the order of From, ahead of all"},
		{mixed, 1, 28800, 3, "not in the order of From, the first"},
		{mixed, 1, 39999, 3, "not in the order of From, the first still"},
		{mixed, 1, 40000, 5, "not in the order of From, the second"},
		{mixed, 1, 64799, 5, "not in the order of From, the second still"},
		{mixed, 1, 64800, 1, "not in the order of From, the last"},
		{mixed, 2, 0, 2, "those of other zones between them"},
		{mixed, 2, 99, 2, "those of other zones between them, the first still"},
		{mixed, 2, 100, 0, "those of other zones between them, the last"},
		{mixed, 3, 49, 4, "one alone holds all day"},
		{mixed, 3, 50, 4, "one alone, at its From"},
		{mixed, 4, 50, -1, "many, but none of the zone"},
		{"", 1, 50, -1, "an empty list"},
		{"0@0/1*1", 0, 0, 0, "all 0"},
		{"0@86399/1*1 0@0/1*1", 0, 0, 1, "From 0 at the turn of the day"},
		{"0@86399/1*1 0@0/1*1", 0, day - 1, 0, "the last From at the last tick"},
		{"0@86399/1*1 0@0/1*1", 0, day - 2, 1, "one below the last From"},
		{"0@86399/1*1 0@0/1*1", 0, day, 1, "the next day"},
		{"0@86399/1*1 0@1/1*1", 0, day, 0, "the next day, ahead of all"},
		{"0@86399/1*1 0@1/1*1", 0, day + 1, 1, "the next day, at the first"},
	}
	for _, c := range cases {
		if got, ok := impl.TariffAt(tariffsOf(c.list), c.zone, c.tick); got != c.want || ok != (c.want >= 0) {
			t.Errorf("%s: [%s], zone %d at %d: %d, %v", c.why, c.list, c.zone, c.tick, got, ok)
		}
	}
}

// P9: a list that is none answers nothing, at any tick and zone.
func TestTariffAtOfNoList(t *testing.T) {
	for why, list := range wrongTariffs() {
		for _, zone := range []int{-1, 0, 1, 2, 7, 99, 100} {
			for _, tick := range []int{-1, 0, 5, 64800, impl.MaxTick} {
				if got, ok := impl.TariffAt(list, zone, tick); got != -1 || ok {
					t.Errorf("%s, zone %d at %d: %d, %v", why, zone, tick, got, ok)
				}
			}
		}
	}
}

// tellDay writes down who holds at each tick of a day, gone through from its
// beginning: the last one of the day before, until another one comes.
func tellDay(list []impl.Tariff, zone int) []int {
	comes := map[int]int{}
	last := -1
	for i, f := range list {
		if f.Zone != zone {
			continue
		}
		comes[f.From] = i
		if last < 0 || f.From > list[last].From {
			last = i
		}
	}
	day := make([]int, 86400)
	for tick := range day {
		if i, ok := comes[tick]; ok {
			last = i
		}
		day[tick] = last
	}
	return day
}

// drawTariffs draws a right list of a few zones, whose From lie anywhere or,
// where near is more than 0, within so many ticks around the turn of the day.
func drawTariffs(r *drawn, n int, near int, steps int) []impl.Tariff {
	var list []impl.Tariff
	for range n {
		from := r.below(86400)
		if near > 0 {
			from = (86400 - near/2 + r.below(near)) % 86400
		}
		f := impl.Tariff{Zone: 40 + r.below(3), From: from, Step: 1 + r.below(steps), Price: r.below(20), First: r.below(30)}
		twice := func(g impl.Tariff) bool { return g.Zone == f.Zone && g.From == f.From }
		if !slices.ContainsFunc(list, twice) {
			list = append(list, f)
		}
	}
	return list
}

// P9: the tariff that holds is the one that came last, at every tick of a day,
// and on every day alike.
func TestTariffAtAllDay(t *testing.T) {
	r := drawn(91)
	for _, n := range []int{0, 1, 2, 3, 5, 9, 20, impl.MaxTariffs} {
		list := drawTariffs(&r, n, 0, 100)
		for _, zone := range []int{40, 41, 42, 43} {
			day := tellDay(list, zone)
			for tick, want := range day {
				days := r.below(11573)
				if got, ok := impl.TariffAt(list, zone, days*86400+tick); got != want || ok != (want >= 0) {
					t.Fatalf("%s, zone %d at %d of day %d: %d, %v, not %d", textOfTariffs(list), zone, tick, days, got, ok, want)
				}
			}
		}
	}
}

// P9: the order in which tariffs stand plays no part.
func TestTariffAtInAnyOrder(t *testing.T) {
	r := drawn(92)
	for range 500 {
		list := drawTariffs(&r, 1+r.below(12), 40, 9)
		turned := slices.Clone(list)
		for i := range turned {
			k := r.below(i + 1)
			turned[i], turned[k] = turned[k], turned[i]
		}
		for tick := 86400 - 25; tick < 86400+25; tick++ {
			one, ok := impl.TariffAt(list, 41, tick)
			two, same := impl.TariffAt(turned, 41, tick)
			if ok != same || ok && list[one] != turned[two] {
				t.Fatalf("%s and %s at %d: %d and %d", textOfTariffs(list), textOfTariffs(turned), tick, one, two)
			}
		}
	}
}
