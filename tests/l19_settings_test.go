package tests

import (
	"fmt"
	"maps"
	"slices"
	"strings"
	"testing"

	"loop.example/g00052/impl"
)

// The tests of settings write them as text: "a=12 b=on" are two.

func settingsOf(text string) []impl.Setting {
	var list []impl.Setting
	for _, word := range strings.Fields(text) {
		name, value, has := strings.Cut(word, "=")
		if !has {
			panic("no setting: " + word)
		}
		list = append(list, impl.Setting{Name: name, Value: value})
	}
	return list
}

// textOfSettings tells any texts apart, such that are none too.
func textOfSettings(list []impl.Setting) string {
	var words []string
	for _, setting := range list {
		words = append(words, fmt.Sprintf("%.40q=%.40q", setting.Name, setting.Value))
	}
	return strings.Join(words, " ")
}

// manySettings are n settings, the Names of which ascend: b100, b101 and so on.
func manySettings(n int) []impl.Setting {
	var list []impl.Setting
	for i := range n {
		list = append(list, impl.Setting{Name: fmt.Sprint("b", 100+i), Value: fmt.Sprint(i)})
	}
	return list
}

// settingsBy are the settings of a map, ascending.
func settingsBy(values map[string]string) []impl.Setting {
	var list []impl.Setting
	for _, name := range slices.Sorted(maps.Keys(values)) {
		list = append(list, impl.Setting{Name: name, Value: values[name]})
	}
	return list
}

func mapOfSettings(list []impl.Setting) map[string]string {
	values := map[string]string{}
	for _, setting := range list {
		values[setting.Name] = setting.Value
	}
	return values
}

func copyOfSettings(list []impl.Setting) []impl.Setting {
	var other []impl.Setting
	for _, setting := range list {
		other = append(other, impl.Setting{Name: madeText(setting.Name), Value: madeText(setting.Value)})
	}
	return other
}

// checkSettings asks all functions about settings that are such.
func checkSettings(t *testing.T, why string, list []impl.Setting) {
	t.Helper()
	if !impl.SettingsOk(list) {
		t.Errorf("%s: no settings: %s", why, textOfSettings(list))
	}
	checkConfigured(t, list, "", list)
	checkDiff(t, list, list, "")
	for _, setting := range list {
		checkFound(t, list, setting.Name, setting.Value)
	}
	checkNotFound(t, list, "zzzzzzzzzzzzzzzz")
}

// checkNoSettings asks all functions about a list that is none.
func checkNoSettings(t *testing.T, why string, list []impl.Setting) {
	t.Helper()
	if impl.SettingsOk(list) {
		t.Errorf("%s: settings: %s", why, textOfSettings(list))
	}
	for _, text := range []string{"", "set a 1\n", "unset a\n", "begin\nabort\n", "need a 1\n", "x\n", "\n", "begin\n", "set a 1"} {
		checkNotConfigured(t, list, text, -1)
	}
	for _, other := range [][]impl.Setting{nil, settingsOf("a=1"), list} {
		checkDiff(t, list, other, "")
		checkDiff(t, other, list, "")
	}
	for _, setting := range list[:min(len(list), 50)] {
		checkNotFound(t, list, setting.Name)
	}
	checkNotFound(t, list, "")
	checkNotFound(t, list, "a")
}

// wrongSettings are lists that are none, each for one reason.
func wrongSettings() map[string][]impl.Setting {
	wrong := map[string][]impl.Setting{
		"two alike":              settingsOf("a=1 a=1"),
		"one Name, two Values":   settingsOf("a=1 a=2"),
		"falling":                settingsOf("b=1 a=1"),
		"falling in the end":     settingsOf("a=1 c=1 b=1"),
		"falling at first":       settingsOf("b=1 a=1 c=1"),
		"alike in the end":       settingsOf("a=1 b=1 b=1"),
		"alike, not neighbours":  settingsOf("a=1 b=1 a=1"),
		"small ahead of great":   settingsOf("a=1 B=1"),
		"Latin behind Greek":     settingsOf("α=1 z=1"),
		"longer ahead":           settingsOf("ab=1 a=1"),
		"41 settings":            manySettings(41),
		"42 settings":            manySettings(42),
		"many settings":          manySettings(700),
		"many that are alike":    slices.Repeat(settingsOf("a=1"), 100000),
		"the zero value":         {{}},
		"a Name without a Value": {{Name: "a"}},
		"a Value without a Name": {{Value: "1"}},
	}
	for _, name := range []string{"1", "-", "9a", ".a", "a b", " a", "a\n", "×", "ё", "\xff", "a\xff", strings.Repeat("a", 17), strings.Repeat("ж", 17)} {
		wrong[fmt.Sprintf("the Name %.20q", name)] = []impl.Setting{{Name: name, Value: "1"}}
	}
	for _, value := range []string{"1234567890", "1a", "a b", " 1", "1 ", "1\n", "-1", "+1", "1.5", "1_0", "0x1", "٣", "１", ".", "-", "×", "\xff", "1\xff", strings.Repeat("1", 16), strings.Repeat("a", 17)} {
		wrong[fmt.Sprintf("the Value %.20q", value)] = []impl.Setting{{Name: "a", Value: value}}
	}
	return wrong
}

// P19: known settings, and lists that are none.
func TestKnownSettings(t *testing.T) {
	for _, text := range []string{
		"", "a=1", "a=on", "a=a", "a=12 b=on", "A=1 a=1", "Z=z a=z", "a=1 b=1 c=1", "a=1 ab=1 b=1", "a=1 a-=1 a.=1 a0=1 aA=1 a_=1 aa=1 aß=1",
		"z=1 À=1 ß=1 Ā=1 ɏ=1 Α=1 ω=1 А=1 я=1", "b100=1 b99=1", "жук-7=Ю.2", "a=0", "a=00", "a=007", "a=123456789", "a=000000000",
		"set=set unset=begin", "abcdefghijklmnop=ABCDEFGHIJKLMNOP", "яяяяяяяяяяяяяяяя=яяяяяяяяяяяяяяяя",
	} {
		checkSettings(t, text, settingsOf(text))
	}
	checkSettings(t, "empty", []impl.Setting{})
	wrong := wrongSettings()
	for _, why := range slices.Sorted(maps.Keys(wrong)) {
		checkNoSettings(t, why, wrong[why])
	}
}

// P19, P21: MaxSettings of them, and more.
func TestNumbersOfSettings(t *testing.T) {
	if impl.MaxSettings != 40 || impl.MaxConfig != 3000 || impl.MaxNest != 4 {
		t.Error("limits", impl.MaxSettings, impl.MaxConfig, impl.MaxNest)
	}
	for n := range 50 {
		if n <= 40 {
			checkSettings(t, fmt.Sprint(n), manySettings(n))
		} else {
			checkNoSettings(t, fmt.Sprint(n), manySettings(n))
		}
	}
}

// P19, P21: Values of 1 to 9 digits, and words of 1 to 16 runes, and one more.
func TestLengthsOfValues(t *testing.T) {
	for n := range 30 {
		for s, most := range map[string]int{"0": 9, "1": 9, "9": 9, "a": 16, "Z": 16, "ж": 16} {
			list := []impl.Setting{{Name: "a", Value: strings.Repeat(s, n)}}
			if n >= 1 && n <= most {
				checkSettings(t, "length", list)
			} else {
				checkNoSettings(t, "length", list)
			}
		}
	}
	for b := range 256 {
		for _, value := range []string{string([]byte{byte(b)}), string([]byte{'1', byte(b)}), string([]byte{byte(b), '1'})} {
			list := []impl.Setting{{Name: "a", Value: value}}
			if valueByForm(value) != impl.SettingsOk(list) {
				t.Errorf("value %q", value)
			}
		}
	}
}

func valueByForm(s string) bool {
	return wordForm.MatchString(s) || len(s) >= 1 && len(s) <= 9 && strings.Trim(s, "0123456789") == ""
}

// P19: one that is not so at each place, among few and among MaxSettings.
func TestWrongSettingAtEachPlace(t *testing.T) {
	for _, n := range []int{1, 2, 3, 40} {
		for place := range n {
			for name, change := range map[string]func(s *impl.Setting){
				"Name":        func(s *impl.Setting) { s.Name = "b" + s.Name + "×" },
				"empty Name":  func(s *impl.Setting) { s.Name = "" },
				"Value":       func(s *impl.Setting) { s.Value += "-" },
				"empty Value": func(s *impl.Setting) { s.Value = "" },
			} {
				list := manySettings(n)
				change(&list[place])
				checkNoSettings(t, name, list)
			}
			if place > 0 {
				list := manySettings(n)
				list[place].Name = list[place-1].Name
				checkNoSettings(t, "alike", list)
				list[place].Name = "a"
				checkNoSettings(t, "falling", list)
				list = manySettings(n)
				list[place], list[place-1] = list[place-1], list[place]
				checkNoSettings(t, "exchanged", list)
			}
		}
	}
}

// P19: all lists of three out of some Names, told by their bytes.
func TestOrdersOfNames(t *testing.T) {
	names := []string{"A", "Z", "a", "a-", "a.", "a0", "aa", "aж", "z", "À", "ÿ", "ß", "α", "Я", "a9", "aZ"}
	told := map[bool]int{}
	for i := range len(names) * len(names) * len(names) {
		one, two, three := names[i%16], names[i/16%16], names[i/256]
		list := []impl.Setting{{Name: one, Value: "1"}, {Name: two, Value: "2"}, {Name: three, Value: "1"}}
		ascending := slices.Compare([]byte(one), []byte(two)) < 0 && slices.Compare([]byte(two), []byte(three)) < 0
		told[ascending]++
		if impl.SettingsOk(list) != ascending {
			t.Errorf("%s: not %t", textOfSettings(list), ascending)
		}
	}
	if told[true] != 16*15*14/6 {
		t.Error("not so many", told)
	}
}

// drawSettings draws settings of at most most Names, which are few, so that two
// lists have some in common.
func drawSettings(r *drawn, most int) []impl.Setting {
	values := map[string]string{}
	for range r.below(most + 1) {
		values[drawName(r)] = drawValue(r)
	}
	return settingsBy(values)
}

func drawName(r *drawn) string {
	letters := []string{"a", "b", "c", "ж", "B", "é"}
	return letters[r.below(6)] + []string{"", "", "-1", "9", "ж"}[r.below(5)]
}

func drawValue(r *drawn) string { return []string{"1", "on", "Я", "42"}[r.below(4)] }
