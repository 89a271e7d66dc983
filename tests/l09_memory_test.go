package tests

import (
	"fmt"
	"slices"
	"sync"
	"testing"

	"loop.example/g00052/impl"
)

// spareTariff lies behind a list: it would hold at most ticks of these tests,
// were it read.
var spareTariff = impl.Tariff{Zone: 1, From: 29999, Step: 3, Price: 777, First: 888}

// spareCut is no cut of any call here.
const spareCut = -7

func memoryTariffs() [][]impl.Tariff {
	return [][]impl.Tariff{
		nil,
		tariffsOf(byDay),
		tariffsOf("1@64800/30*2+1 2@0/1*1 1@28800/60*10+5"),
		tariffsOf("2@0/1*1"),
		tariffsOf("1@0/0*1"),
		tariffsOf("1@5/1*1 1@5/1*1"),
		manyTariffs(impl.MaxTariffs),
		manyTariffs(impl.MaxTariffs + 1),
	}
}

func memoryCuts() [][]int {
	return [][]int{nil, {30000}, {30000, 30100, 30400}, {30400, 30000}, {29999}, someCuts(30000, 100), someCuts(30000, 101)}
}

// tellAll is what all functions of charges answer to a list and cuts.
func tellAll(list []impl.Tariff, cuts []int) string {
	text := fmt.Sprint(impl.TariffsOk(list))
	for _, zone := range []int{0, 1, 2} {
		place, ok := impl.TariffAt(list, zone, 30000)
		rate, rated := impl.Rate(list, zone, 30000, 30400)
		parts, fine := impl.RateParts(list, zone, 30000, 30400, cuts)
		p, n, kept := impl.Reserve(purse(90, 10), list, zone, 30000, 700)
		text += fmt.Sprint("; ", place, ok, rate, rated, parts, fine, p, n, kept)
	}
	return text
}

// P9: no function writes into a list or behind it, nor reads what lies there.
func TestChargeMemory(t *testing.T) {
	for _, list := range memoryTariffs() {
		for _, cuts := range memoryCuts() {
			want := tellAll(slices.Clip(slices.Clone(list)), slices.Clip(slices.Clone(cuts)))
			g, c := guard(spareTariff, list), guard(spareCut, cuts)
			if got := tellAll(g.list, c.list); got != want {
				t.Errorf("%s, cuts %v: what lies behind the lists is read: %s, not %s", textOfTariffs(list), cuts, got, want)
			}
			if !g.untouched() || !c.untouched() {
				t.Errorf("%s, cuts %v: written into", textOfTariffs(list), cuts)
			}
		}
	}
}

// P9: nothing is kept from one call to another: other lists, wrong ones too,
// change no answer.
func TestChargeKeepsNothing(t *testing.T) {
	for _, list := range memoryTariffs() {
		for _, cuts := range memoryCuts() {
			first := tellAll(list, cuts)
			for why, wrong := range wrongTariffs() {
				tellAll(wrong, cuts)
				if again := tellAll(list, cuts); again != first {
					t.Fatalf("%s, behind %s: %s, not %s", textOfTariffs(list), why, again, first)
				}
			}
		}
	}
}

// P9: several who ask at once are answered as one alone.
func TestChargesAtOnce(t *testing.T) {
	lists, cuts := memoryTariffs(), memoryCuts()
	var want []string
	for i, list := range lists {
		want = append(want, tellAll(list, cuts[i%len(cuts)]))
	}
	var all sync.WaitGroup
	got := make([][]string, 6)
	for one := range got {
		all.Go(func() {
			for i, list := range lists {
				got[one] = append(got[one], tellAll(list, cuts[i%len(cuts)]))
			}
		})
	}
	all.Wait()
	for _, told := range got {
		if !slices.Equal(told, want) {
			t.Errorf("%v, not %v", told, want)
		}
	}
}
