package tests

import (
	"strings"
	"testing"

	"loop.example/g00052/impl"
)

// smallLetters are those that have a great one, which stands at the same place
// of greatLetters.
const (
	smallLetters = "abcdefghijklmnopqrstuvwxyz" + "àáâãäåæçèéêëìíîïðñòóôõöøùúûüýþ" + "αβγδεζηθικλμνξοπρστυφχψω" + "абвгдежзийклмнопрстуфхцчшщъыьэюя"
	greatLetters = "ABCDEFGHIJKLMNOPQRSTUVWXYZ" + "ÀÁÂÃÄÅÆÇÈÉÊËÌÍÎÏÐÑÒÓÔÕÖØÙÚÛÜÝÞ" + "ΑΒΓΔΕΖΗΘΙΚΛΜΝΞΟΠΡΣΤΥΦΧΨΩ" + "АБВГДЕЖЗИЙКЛМНОПРСТУФХЦЧШЩЪЫЬЭЮЯ"
)

// upperByTable puts each small letter's great one in its place.
func upperByTable(word string) string {
	small, great := []rune(smallLetters), []rune(greatLetters)
	var pairs []string
	for i := range small {
		pairs = append(pairs, string(small[i]), string(great[i]))
	}
	return strings.NewReplacer(pairs...).Replace(word)
}

func checkUpper(t *testing.T, s, want string) {
	t.Helper()
	if got := impl.Upper(s); got != want {
		t.Errorf("upper %.60q: %q, not %q", s, got, want)
	}
}

// P19: known words with great letters.
func TestKnownUppers(t *testing.T) {
	for s, want := range map[string]string{
		"a": "A", "z": "Z", "A": "A", "Z": "Z", "abc": "ABC", "aBc-9_.": "ABC-9_.", "жук-7": "ЖУК-7", "ЖУК-7": "ЖУК-7",
		// The first and the last of each range.
		"à": "À", "þ": "Þ", "α": "Α", "ω": "Ω", "а": "А", "я": "Я",
		// Their neighbours: those that are letters stay.
		"ß": "ß", "ÿ": "ÿ", "Ω": "Ω", "Ю": "Ю", "Я": "Я", "Ā": "Ā", "ā": "ā", "ɏ": "ɏ",
		// Those that are left out, and what lies beside them.
		"ς": "ς", "ρςσ": "ΡςΣ", "öø": "ÖØ", "ÖØ": "ÖØ", "σοφος": "ΣΟΦΟς",
		"abcdefghijklmnop": "ABCDEFGHIJKLMNOP", "яяяяяяяяяяяяяяяя": "ЯЯЯЯЯЯЯЯЯЯЯЯЯЯЯЯ", "straße": "STRAßE", "y\u03c9": "YΩ",
	} {
		checkUpper(t, s, want)
		if upperByTable(s) != want {
			t.Errorf("the second telling of %q is wrong", s)
		}
	}
}

// P19: each letter alone and at each place of a word; what is great stays.
func TestUpperOfAllLetters(t *testing.T) {
	small, great := []rune(smallLetters), []rune(greatLetters)
	if len(small) != 26+30+24+32 || len(great) != len(small) {
		t.Fatal("not so many letters", len(small), len(great))
	}
	changes := 0
	for r := rune(0); r < 0x3000; r++ {
		s := string(r)
		if !impl.WordOk(s) {
			checkUpper(t, s, "")
			continue
		}
		want := upperByTable(s)
		if want != s {
			changes++
		}
		checkUpper(t, s, want)
		checkUpper(t, want, want)
		checkUpper(t, s+"-"+s+"0"+s, want+"-"+want+"0"+want)
		checkUpper(t, "a"+strings.Repeat(s, 15), "A"+strings.Repeat(want, 15))
		checkUpper(t, strings.Repeat("Ж", 15)+s, strings.Repeat("Ж", 15)+want)
	}
	if changes != len(small) {
		t.Error("not so many change", changes)
	}
	for i := range small {
		checkUpper(t, string(small[i]), string(great[i]))
		if small[i]-great[i] != 32 {
			t.Error("not 32 places ahead", small[i])
		}
	}
}

// P19: what is no word has none.
func TestUpperOfNoWord(t *testing.T) {
	for _, s := range []string{
		"", " ", "9", "-a", "_a", ".a", "0", "12", "a b", "a\n", " a", "a ", "×", "÷", "a÷", "a×", "ё", "\u03a2", "ϊ", "{", "`", "a{", "µ", "中", "😀",
		strings.Repeat("a", 17), strings.Repeat("ж", 17), strings.Repeat("a", 100000), strings.Repeat("ж", 100000),
	} {
		checkUpper(t, s, "")
	}
	for _, wrong := range wrongBytes {
		checkUpper(t, wrong, "")
		checkUpper(t, "a"+wrong, "")
		checkUpper(t, wrong+"a", "")
		checkUpper(t, "ж"+wrong+"ж", "")
	}
}

// P19: drawn words: they stay words of as many runes, and great once they are.
func TestUpperOfDrawnWords(t *testing.T) {
	r := drawn(1902)
	for range 20000 {
		s := drawWord(&r, 18)
		if !wordForm.MatchString(s) {
			checkUpper(t, s, "")
			continue
		}
		want := upperByTable(s)
		checkUpper(t, s, want)
		checkUpper(t, want, want)
		checkWord(t, want, true)
		if len(want) != len(s) {
			t.Errorf("%q is longer or shorter than %q", want, s)
		}
	}
}
