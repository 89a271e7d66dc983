package tests

import (
	"math"
	"slices"
	"testing"

	"loop.example/g00052/impl"
)

func charge(steps int, cost int) impl.Charge { return impl.Charge{Steps: steps, Cost: cost} }

type rateCase struct {
	list  string
	begin int
	end   int
	want  impl.Charge
	why   string
}

func checkRates(t *testing.T, zone int, cases []rateCase) {
	t.Helper()
	for _, c := range cases {
		if got, ok := impl.Rate(tariffsOf(c.list), zone, c.begin, c.end); got != c.want || !ok {
			t.Errorf("%s: [%s] from %d to %d: %v, %v, not %v", c.why, c.list, c.begin, c.end, got, ok, c.want)
		}
	}
}

const byDay = "1@28800/60*10+5 1@64800/30*2+1"

// P9: what a call costs within one tariff.
func TestRate(t *testing.T) {
	checkRates(t, 1, []rateCase{
		{byDay, 30000, 30000, charge(0, 5), "no time: First alone"},
		{byDay, 30000, 30001, charge(1, 15), "a step that has begun counts whole"},
		{byDay, 30000, 30059, charge(1, 15), "one below a step's end"},
		{byDay, 30000, 30060, charge(1, 15), "at a step's end"},
		{byDay, 30000, 30061, charge(2, 25), "one behind it"},
		{byDay, 30000, 30119, charge(2, 25), "one below the second step's end"},
		{byDay, 30000, 30120, charge(2, 25), "at the second step's end"},
		{byDay, 30000, 30121, charge(3, 35), "one behind that"},
		{byDay, 30001, 30061, charge(1, 15), "steps count from begin, not from the hour"},
		{byDay, 0, 0, charge(0, 1), "ahead of every From"},
		{byDay, 0, 31, charge(2, 5), "ahead of every From, two steps"},
		{byDay, 86400 + 30000, 86400 + 30061, charge(2, 25), "on another day"},
		{"1@0/60*0", 100, 100, charge(0, 0), "nothing costs anything"},
		{"1@0/60*0+7", 100, 221, charge(3, 7), "Price 0: the steps count"},
		{"1@0/60*9", 100, 221, charge(3, 27), "First 0"},
		{"1@0/1*3+4", 100, 105, charge(5, 19), "Step 1"},
		{"1@0/10000*3+4", 100, 10100, charge(1, 7), "Step 10000, at its end"},
		{"1@0/10000*3+4", 100, 10101, charge(2, 10), "Step 10000, one behind it"},
		{"2@0/1*9+9 1@50/10*3+4 2@100/1*9+9", 99, 110, charge(2, 10), "tariffs of other zones play no part"},
	})
}

// P9: a step is by the tariff that holds at its beginning, to its end; the
// call's First by the one that holds at begin only.
func TestRateOverEdges(t *testing.T) {
	const night = "1@0/10*3+1 1@43200/100*7+2"
	const early = "1@30/10*3+1 1@43200/100*7+2"
	const short = "1@0/1000*5 1@100/1*50+50 1@200/7*1+9"
	checkRates(t, 1, []rateCase{
		{byDay, 64700, 64830, charge(3, 27), "over a From, within the second step"},
		{byDay, 64740, 64800, charge(1, 15), "a step that ends at From"},
		{byDay, 64740, 64801, charge(2, 17), "the next one is by the other"},
		{byDay, 64740, 64831, charge(3, 19), "and the one behind it"},
		{byDay, 64799, 64859, charge(1, 15), "begun one below From"},
		{byDay, 64799, 64860, charge(2, 17), "begun one below From, the next step"},
		{byDay, 64800, 64860, charge(2, 5), "begun at From"},
		{byDay, 64800, 64861, charge(3, 7), "begun at From, the next step"},
		{byDay, 28799, 28829, charge(1, 3), "from the cheap one to the dear one"},
		{byDay, 28799, 28830, charge(2, 13), "from the cheap one to the dear one, the next step"},
		{night, 86350, 86350, charge(0, 2), "ahead of the turn of the day"},
		{night, 86350, 86450, charge(1, 9), "a step over the turn of the day"},
		{night, 86350, 86451, charge(2, 12), "the next one is by the next day's"},
		{night, 86350, 86460, charge(2, 12), "to its end"},
		{night, 86350, 86461, charge(3, 15), "one behind that"},
		{night, 86300, 86400, charge(1, 9), "a step that ends at the turn"},
		{night, 86300, 86401, charge(2, 12), "one that begins there"},
		{night, 86399, 86400, charge(1, 9), "the last tick of a day"},
		{night, 86400, 86400, charge(0, 1), "no time at the turn"},
		{night, 86400, 86401, charge(1, 4), "the first tick of a day"},
		{early, 86400, 86400, charge(0, 2), "the day before still holds"},
		{early, 86350, 86450, charge(1, 9), "over the turn and a From"},
		{early, 86350, 86451, charge(2, 12), "over the turn and a From, the next step"},
		{early, 86329, 86430, charge(2, 16), "over the turn, one step ends just ahead of From"},
		{early, 86329, 86530, charge(3, 19), "begun ahead of From, it lasts as long as it does"},
		{early, 86330, 86431, charge(2, 12), "over the turn, a step ends at From"},
		{short, 0, 1000, charge(1, 5), "a step over two From"},
		{short, 0, 1001, charge(2, 6), "whose tariff between them never counts"},
		{short, 99, 1100, charge(2, 6), "begun one below the first of them"},
		{short, 100, 102, charge(2, 150), "begun at the first of them"},
		{short, 199, 201, charge(2, 101), "from the second one to the third"},
		{short, 86396, 86404, charge(2, 15), "the third one's step over the turn, then the first's"},
	})
}

// P9, P21: calls as long as a day, and calls at the last tick.
func TestRateAtTheEnds(t *testing.T) {
	checkRates(t, 1, []rateCase{
		{"1@0/1*1", 0, 86400, charge(86400, 86400), "Step 1 over a whole day"},
		{"1@0/1*1", 7, 86407, charge(86400, 86400), "over the turn of the day"},
		{"1@0/1*100000+100000", 5, 86405, charge(86400, 8640100000), "at the greatest prices"},
		{"1@0/10000*100+5", 5, 86405, charge(9, 905), "at the greatest step"},
		{"1@0/1*1 1@43200/2*1", 0, 86400, charge(64800, 64800), "half of it by another tariff"},
		{"1@0/1*1 1@43200/2*1", 43199, 129599, charge(64800, 64800), "half of it, begun one below its From"},
		{"1@0/1*3+1", 1000000000, 1000000000, charge(0, 1), "at the last tick"},
		{"1@0/1*3+1", 999999999, 1000000000, charge(1, 4), "to the last tick"},
		{"1@0/10000*3+1", 999999999, 1000000000, charge(1, 4), "a step that goes on behind it"},
		{"1@0/1*1 1@6399/2*10", 999999998, 1000000000, charge(2, 11), "over a From to the last tick"},
		{"1@0/1*1", 999913600, 1000000000, charge(86400, 86400), "a whole day to the last tick"},
		{"1@0/1*3+1", 0, 0, charge(0, 1), "at tick 0"},
	})
	checkRates(t, 99, []rateCase{{"99@0/1*3+1", 3, 4, charge(1, 4), "the last zone"}})
	checkRates(t, 0, []rateCase{{"0@0/1*3+1", 3, 4, charge(1, 4), "the first zone"}})
}

// P9, P21: what Rate and RateParts refuse.
func TestRateRefused(t *testing.T) {
	cases := []struct {
		zone  int
		begin int
		end   int
		why   string
	}{
		{1, 30000, 29999, "end one below begin"},
		{1, 30000, 0, "end far below begin"},
		{1, 30000, -1, "end below 0"},
		{1, 0, -1, "end below 0, begin at 0"},
		{1, 0, 86401, "one more than DayTicks between"},
		{1, 7, 86408, "one more than DayTicks between, later"},
		{1, 0, 2 * 86400, "two days"},
		{1, 0, 1000000000, "all ticks"},
		{1, -1, 0, "begin below 0"},
		{1, -1, -1, "both below 0"},
		{1, -86400, 0, "begin a day below 0"},
		{1, math.MinInt, 0, "begin far below"},
		{1, math.MinInt, math.MaxInt, "begin far below, end far away"},
		{1, math.MaxInt, math.MinInt, "begin far away, end far below"},
		{1, math.MaxInt, math.MaxInt, "both far away"},
		{1, math.MinInt, math.MinInt, "both far below"},
		{1, 1000000000, 1000000001, "end one past the last tick"},
		{1, 999999999, 1000000001, "end past the last tick, begin ahead of it"},
		{1, 1000000001, 1000000001, "both past the last tick"},
		{1, 5, math.MaxInt, "end far away"},
		{1, 5, math.MinInt, "end far below"},
		{0, 5, 5, "a zone that has none"},
		{2, 5, 50, "another one"},
		{-1, 5, 50, "a zone that is none"},
		{100, 5, 50, "a zone too many"},
		{math.MaxInt, 5, 50, "a zone far away"},
	}
	for _, c := range cases {
		checkNoRate(t, c.why, tariffsOf(byDay), c.zone, c.begin, c.end)
	}
	for why, list := range wrongTariffs() {
		checkNoRate(t, why, list, 1, 100, 100)
		checkNoRate(t, why, list, 1, 100, 200)
		checkNoRate(t, why, list, 2, 100, 200)
	}
	checkNoRate(t, "an empty list", nil, 1, 100, 200)
}

func checkNoRate(t *testing.T, why string, list []impl.Tariff, zone int, begin int, end int) {
	t.Helper()
	if got, ok := impl.Rate(list, zone, begin, end); ok || got != charge(0, 0) {
		t.Errorf("%s: zone %d from %d to %d: %v, %v", why, zone, begin, end, got, ok)
	}
	for _, cuts := range [][]int{nil, {begin}, {end}, {begin, end}, {5}} {
		if got, ok := impl.RateParts(list, zone, begin, end, cuts); ok || got != charge(0, 0) {
			t.Errorf("%s: zone %d from %d to %d, cuts %v: %v, %v", why, zone, begin, end, cuts, got, ok)
		}
	}
}

// tellCharges says what a call costs after 0, 1, 2 .. most ticks: it goes from
// tick to tick, and a step begins where the one before has no tick left.
func tellCharges(list []impl.Tariff, day []int, begin int, most int) []impl.Charge {
	now := impl.Charge{Cost: list[day[begin%86400]].First}
	told := []impl.Charge{now}
	left := 0
	for tick := begin; tick < begin+most; tick++ {
		if left == 0 {
			f := list[day[tick%86400]]
			left = f.Step
			now.Steps, now.Cost = now.Steps+1, now.Cost+f.Price
		}
		left--
		told = append(told, now)
	}
	return told
}

// checkTold holds Rate, at all lengths up to most, against what is told.
func checkTold(t *testing.T, list []impl.Tariff, zone int, day []int, begin int, most int) {
	t.Helper()
	for n, want := range tellCharges(list, day, begin, most) {
		if got, ok := impl.Rate(list, zone, begin, begin+n); got != want || !ok {
			t.Fatalf("%s, zone %d from %d, %d ticks: %v, %v, not %v", textOfTariffs(list), zone, begin, n, got, ok, want)
		}
	}
}

// everySmallList visits all lists of zone 1 with some of a few From around the
// turn of the day, with some steps each.
func everySmallList(visit func(list []impl.Tariff)) {
	froms := []int{86398, 86399, 0, 1, 3}
	for chosen := 1; chosen < 1<<len(froms); chosen++ {
		for steps := range 27 {
			var list []impl.Tariff
			for i, from := range froms {
				step := 1 + []int{steps % 3, steps / 3 % 3, steps / 9}[i%3]
				if chosen>>i&1 == 1 {
					list = append(list, impl.Tariff{Zone: 1, From: from, Step: step, Price: 1 << (2 * i), First: 5000 * (i + 1)})
				}
			}
			visit(list)
		}
	}
}

// P9: all small lists around the turn of the day, tick by tick.
func TestRateOfSmallLists(t *testing.T) {
	everySmallList(func(list []impl.Tariff) {
		day := tellDay(list, 1)
		for begin := 86395; begin <= 86405; begin++ {
			checkTold(t, list, 1, day, begin, 12)
		}
	})
}

// P9: drawn lists of several zones, at many begins and lengths.
func TestRateDrawn(t *testing.T) {
	r := drawn(93)
	for round := range 400 {
		near, steps := 60*(round%3), []int{3, 20, 200}[r.below(3)]
		list := drawTariffs(&r, 1+r.below(impl.MaxTariffs), near, steps)
		zone := list[r.below(len(list))].Zone
		day := tellDay(list, zone)
		for range 4 {
			edge := list[r.below(len(list))].From
			begin := max(0, 86400*r.below(5)+edge-r.below(2*steps))
			checkTold(t, list, zone, day, begin, 100)
		}
	}
}

// P9: drawn calls of up to a whole day.
func TestRateDrawnLong(t *testing.T) {
	r := drawn(94)
	for range 60 {
		list := drawTariffs(&r, 1+r.below(impl.MaxTariffs), 0, 10000)
		zone := list[0].Zone
		begin := r.below(1000000000 - 86400)
		told := tellCharges(list, tellDay(list, zone), begin, 86400)
		lengths := []int{0, 1, 86399, 86400}
		for range 40 {
			lengths = append(lengths, r.below(86401))
		}
		for _, n := range lengths {
			if got, ok := impl.Rate(list, zone, begin, begin+n); got != told[n] || !ok {
				t.Fatalf("%s, zone %d from %d, %d ticks: %v, %v, not %v", textOfTariffs(list), zone, begin, n, got, ok, told[n])
			}
		}
	}
}

// P9: a longer call never costs less, nor has it fewer steps.
func TestLongerCostsNoLess(t *testing.T) {
	r := drawn(95)
	for range 300 {
		list := drawTariffs(&r, 1+r.below(12), 80, 30)
		begin := 86400 - 60 + r.below(120)
		var last impl.Charge
		for n := range 150 {
			got, ok := impl.Rate(list, list[0].Zone, begin, begin+n)
			if !ok || got.Cost < last.Cost || got.Steps < last.Steps || n > 0 && got.Steps > last.Steps+1 {
				t.Fatalf("%s, zone %d from %d, %d ticks: %v, %v behind %v", textOfTariffs(list), list[0].Zone, begin, n, got, ok, last)
			}
			last = got
		}
	}
}

// someCuts are so many, one tick after the other, from a tick on.
func someCuts(from int, n int) []int {
	var cuts []int
	for i := range n {
		cuts = append(cuts, from+i)
	}
	return cuts
}

// P9, P21: cuts that are so.
func TestRateParts(t *testing.T) {
	good := map[string][]int{
		"no cuts":           nil,
		"an empty list":     {},
		"one":               {64710},
		"at begin":          {64700},
		"at end":            {64830},
		"at both":           {64700, 64830},
		"at a From":         {64800},
		"at step ends":      {64760, 64820},
		"within steps":      {64701, 64759, 64761, 64821, 64829},
		"beside each other": {64709, 64710, 64711},
		"100, from begin":   someCuts(64700, 100),
		"100, to end":       someCuts(64731, 100),
		"99":                someCuts(64720, 99),
	}
	for why, cuts := range good {
		if got, ok := impl.RateParts(tariffsOf(byDay), 1, 64700, 64830, cuts); got != charge(3, 27) || !ok {
			t.Errorf("%s: %v, %v", why, got, ok)
		}
	}
	if got, ok := impl.RateParts(tariffsOf(byDay), 1, 30000, 30000, []int{30000}); got != charge(0, 5) || !ok {
		t.Errorf("no time, cut: %v, %v", got, ok)
	}
	if got, ok := impl.RateParts(tariffsOf("1@0/1*1"), 1, 999913600, 1000000000, []int{999913600, 1000000000}); got != charge(86400, 86400) || !ok {
		t.Errorf("a whole day to the last tick: %v, %v", got, ok)
	}
}

// P9, P21: cuts that are not so.
func TestRatePartsRefused(t *testing.T) {
	wrong := map[string][]int{
		"101":                      someCuts(64700, 101),
		"101, to end":              someCuts(64730, 101),
		"far too many":             make([]int, 5000),
		"two are equal":            {64710, 64710},
		"two at begin":             {64700, 64700},
		"two at end":               {64710, 64830, 64830},
		"they descend":             {64800, 64710},
		"the last one descends":    {64701, 64702, 64703, 64702},
		"the first one is greater": {64703, 64701, 64702},
		"one below begin":          {64699},
		"one below begin, of some": {64699, 64700, 64710},
		"one behind end":           {64831},
		"one behind end, of some":  {64710, 64830, 64831},
		"0":                        {0},
		"below 0":                  {-1, 64710},
		"past the last tick":       {64710, 1000000001},
		"far below":                {math.MinInt, 64710},
		"far away":                 {64710, math.MaxInt},
		"within the day before":    {64710 - 86400},
		"within the next day":      {64710 + 86400},
		"one outside in between":   {64710, 64900, 64720},
	}
	for why, cuts := range wrong {
		if got, ok := impl.RateParts(tariffsOf(byDay), 1, 64700, 64830, cuts); got != charge(0, 0) || ok {
			t.Errorf("%s: %v, %v", why, got, ok)
		}
	}
	for _, cut := range []int{29999, 30001} {
		if got, ok := impl.RateParts(tariffsOf(byDay), 1, 30000, 30000, []int{cut}); got != charge(0, 0) || ok {
			t.Errorf("no time, cut at %d: %v, %v", cut, got, ok)
		}
	}
}

// P21: how many cuts there may be.
func TestRatePartsMany(t *testing.T) {
	for n := range 140 {
		want, wantOk := charge(3, 27), n <= 100
		if !wantOk {
			want = charge(0, 0)
		}
		if got, ok := impl.RateParts(tariffsOf(byDay), 1, 64700, 64841, someCuts(64700, n)); got != want || ok != wantOk {
			t.Errorf("%d cuts: %v, %v", n, got, ok)
		}
	}
}

// drawCuts draws ascending ones in begin .. end.
func drawCuts(r *drawn, begin int, end int) []int {
	var cuts []int
	for range r.below(101) {
		cuts = append(cuts, begin+r.below(end-begin+1))
	}
	slices.Sort(cuts)
	return slices.Compact(cuts)
}

// P9: records in parts cost the same, whatever cuts.
func TestPartsCostTheSame(t *testing.T) {
	r := drawn(96)
	for range 1500 {
		list := drawTariffs(&r, 1+r.below(12), 80, 40)
		zone := list[0].Zone
		begin := 86400 - 60 + r.below(120)
		end := begin + r.below(300)
		cuts := drawCuts(&r, begin, end)
		want, _ := impl.Rate(list, zone, begin, end)
		if got, ok := impl.RateParts(list, zone, begin, end, cuts); got != want || !ok {
			t.Fatalf("%s, zone %d from %d to %d, cuts %v: %v, %v, not %v", textOfTariffs(list), zone, begin, end, cuts, got, ok, want)
		}
		if len(cuts) < 2 {
			continue
		}
		place := r.below(len(cuts) - 1)
		cuts[place], cuts[place+1] = cuts[place+1], cuts[place]
		if got, ok := impl.RateParts(list, zone, begin, end, cuts); got != charge(0, 0) || ok {
			t.Fatalf("zone %d from %d to %d, cuts %v: %v, %v", zone, begin, end, cuts, got, ok)
		}
	}
}

// P9: every three cuts around a short call.
func TestPartsOfShortCalls(t *testing.T) {
	const begin, end = 64798, 64802
	want, _ := impl.Rate(tariffsOf(byDay), 1, begin, end)
	for a := begin - 2; a <= end+2; a++ {
		for b := begin - 2; b <= end+2; b++ {
			for c := begin - 2; c <= end+2; c++ {
				right := begin <= a && a < b && b < c && c <= end
				got, ok := impl.RateParts(tariffsOf(byDay), 1, begin, end, []int{a, b, c})
				if ok != right || right && got != want || !right && got != charge(0, 0) {
					t.Errorf("cuts %d, %d, %d: %v, %v", a, b, c, got, ok)
				}
			}
		}
	}
}
