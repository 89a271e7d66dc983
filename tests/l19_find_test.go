package tests

import (
	"math/bits"
	"slices"
	"strings"
	"testing"

	"loop.example/g00052/impl"
)

func checkFound(t *testing.T, list []impl.Setting, name, want string) {
	t.Helper()
	if got, ok := impl.Find19(list, name); !ok || got != want {
		t.Errorf("%s in %s: %q and %t", name, textOfSettings(list), got, ok)
	}
}

func checkNotFound(t *testing.T, list []impl.Setting, name string) {
	t.Helper()
	if got, ok := impl.Find19(list, name); ok || got != "" {
		t.Errorf("%.40q in %.1000s: %q and %t", name, textOfSettings(list), got, ok)
	}
}

// P19: Names that are there, the first, the last and those between, and Names
// that are not.
func TestKnownFinds(t *testing.T) {
	list := settingsOf("B=x a=1 ab=2 b=on é=007 жук-7=Ю")
	for name, value := range mapOfSettings(list) {
		checkFound(t, list, name, value)
	}
	for _, name := range []string{
		"", "A", "C", "Z", "aa", "abc", "ac", "b1", "c", "è", "ê", "é1", "жук", "жук-", "жук-77", "жук-8", "я",
		// Values, what is no word, and what is more than a Name.
		"x", "on", "1", "007", " a", "a ", "a=1", "set", "\xff", "a\xff", "×", "a\n", "a\x00", strings.Repeat("a", 100000),
	} {
		checkNotFound(t, list, name)
		checkNotFound(t, nil, name)
		checkNotFound(t, []impl.Setting{}, name)
	}
	// Great and small letters are other ones.
	checkNotFound(t, list, "É")
	checkNotFound(t, list, "ЖУК-7")
}

// P19, P21: each of n settings, n up to MaxSettings, and those between.
func TestFindsAmongMany(t *testing.T) {
	for n := range 41 {
		list := manySettings(n)
		for i, setting := range list {
			checkFound(t, list, setting.Name, setting.Value)
			checkNotFound(t, list, setting.Name+"0")
			checkNotFound(t, list, setting.Name[:len(setting.Name)-1])
			others := slices.Delete(copyOfSettings(list), i, i+1)
			checkNotFound(t, others, setting.Name)
		}
		checkNotFound(t, list, "a")
		checkNotFound(t, list, "b")
		checkNotFound(t, list, "c")
	}
}

// P19: all settings out of some Names.
func TestAllFinds(t *testing.T) {
	names := []string{"A", "a", "a-", "aa", "b", "é", "ж"}
	for set := range uint(1 << len(names)) {
		var list []impl.Setting
		for i, name := range names {
			if set>>i&1 == 1 {
				list = append(list, impl.Setting{Name: name, Value: "v" + name})
			}
		}
		if len(list) != bits.OnesCount(set) {
			t.Fatal("not so many", list)
		}
		for i, name := range names {
			if set>>i&1 == 1 {
				checkFound(t, list, name, "v"+name)
			} else {
				checkNotFound(t, list, name)
			}
		}
	}
}
