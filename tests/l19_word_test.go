package tests

import (
	"fmt"
	"regexp"
	"strings"
	"testing"

	"loop.example/g00052/impl"
)

// letterClass has the ranges of letters, cut where one is left out.
const letterClass = `A-Za-z\x{C0}-\x{D6}\x{D8}-\x{F6}\x{F8}-\x{24F}\x{391}-\x{3A1}\x{3A3}-\x{3C9}\x{410}-\x{44F}`

var wordForm = regexp.MustCompile(`\A[` + letterClass + `][` + letterClass + `0-9_.-]{0,15}\z`)

// letterEnds are the first and the last rune of each range of letters, a range
// ending ahead of a rune that is left out.
var letterEnds = []rune{'A', 'Z', 'a', 'z', 192, 214, 216, 246, 248, 591, 913, 929, 931, 969, 1040, 1103}

// noLetterEnds are the neighbours of the ranges, on their outside, and the runes
// that are left out.
var noLetterEnds = []rune{'@', '[', '`', '{', 191, 215, 247, 592, 912, 930, 970, 1039, 1104}

const digitsAndMarks = "0123456789-_."

// wrongBytes are no UTF-8, though some of them hold the bits of a letter.
var wrongBytes = []string{
	"\x80", "\xff", "\xc3", "\xbf", "\xc1\x81", "\xc1\xa1", "\xe0\x81\x81", "\xe0\x83\x80", "\xe0\x80\xb0", "\xf0\x80\x83\x80",
	"\xed\xa0\x80", "\xed\xbf\xbf", "\xf4\x90\x80\x80", "\xe2\x82", "\xf0\x9f\x98", "\xce\xff", "\xd0\x00", "\xff\x41",
}

func checkWord(t *testing.T, s string, want bool) {
	t.Helper()
	if got := impl.WordOk(s); got != want {
		t.Errorf("word %.60q: %t", s, got)
	}
	if wordForm.MatchString(s) != want {
		t.Errorf("the second telling of %.60q is wrong", s)
	}
}

// P19: known words and texts that are none.
func TestKnownWords(t *testing.T) {
	for _, s := range []string{
		"a", "Z", "abc", "a9", "a-", "a_", "a.", "a-_.0", "A0123456789-_.zZ", "x--__..", "жук-7", "Ж", "été", "Ωmega.1", "ÿ", "Ā", "ɏ", "ß", "ς",
		"straße", "ÀÖØöøɏ", "ΑΡΣΩαω", "АЯая", "NaN", "nil", "set", "begin",
	} {
		checkWord(t, s, true)
	}
	for _, s := range []string{
		"", " ", "a ", " a", "a b", "a\n", "\na", "a\t", "a\r", "a\x00", "\x00", "a+b", "a/b", "a=b", "a:b", "a,b", "a'b", "a\u00a0", "a\u200b", "a\u0301",
		"9", "0a", "-a", "_a", ".a", "-", "_", ".", "9ж", "7", "12", "×", "÷", "a×", "a÷", "\u03a2", "a\u03a2",
		"µ", "ª", "º", "ё", "Ё", "ѐ", "ɐ", "ϊ", "ΐ", "ѝ", "ʼ", "א", "中", "a中", "ａ", "😀", "a😀", "٣", "a٣", "\ufeffa", "\ufffd", "a\ufffd",
	} {
		checkWord(t, s, false)
	}
}

// P19, P21: the first and the last rune of each range are letters, at the front
// and behind; their neighbours are none, nor are those that are left out.
func TestEndsOfLetters(t *testing.T) {
	for _, r := range letterEnds {
		for _, s := range []string{string(r), string(r) + "9", "a" + string(r), strings.Repeat(string(r), 16)} {
			checkWord(t, s, true)
		}
	}
	for _, r := range noLetterEnds {
		for _, s := range []string{string(r), string(r) + "9", string(r) + "a", "a" + string(r), "a" + string(r) + "a"} {
			checkWord(t, s, false)
		}
	}
	for _, r := range digitsAndMarks {
		for place := 1; place < 16; place++ {
			checkWord(t, strings.Repeat("é", place)+string(r), true)
		}
		for _, s := range []string{string(r), string(r) + "a", string(r) + "ж", strings.Repeat(string(r), 9)} {
			checkWord(t, s, false)
		}
	}
}

// P19: every rune that there is, alone and behind a letter.
func TestAllRunes(t *testing.T) {
	letters, others := 0, 0
	for r := rune(0); r <= 0x10ffff; r++ {
		alone, behind := impl.WordOk(string(r)), impl.WordOk("a"+string(r))
		if r < 0x500 || r%257 == 0 || r > 0xff00 && r < 0x10020 {
			for _, s := range []string{string(r), "a" + string(r)} {
				checkWord(t, s, wordForm.MatchString(s))
			}
		}
		switch {
		case alone && behind:
			letters++
		case behind:
			others++
		case alone:
			t.Error("at the front alone", r)
		}
	}
	// 52 of A to Z and a to z, 398 of 192 to 591, 56 of 913 to 969, 64 of 1040 to 1103.
	if letters != 52+398+56+64 || others != 13 {
		t.Error("not so many", letters, others)
	}
}

// P19: all texts of one and two bytes, and all of two behind a letter.
func TestAllFewBytes(t *testing.T) {
	for first := range 256 {
		checkWord(t, string([]byte{byte(first)}), wordForm.Match([]byte{byte(first)}))
		for second := range 256 {
			s := string([]byte{byte(first), byte(second)})
			checkWord(t, s, wordForm.MatchString(s))
			checkWord(t, "b"+s, wordForm.MatchString("b"+s))
		}
	}
}

// P19, P21: 1 to 16 runes, of one byte and of two.
func TestLengthsOfWords(t *testing.T) {
	for n := range 40 {
		for _, s := range []string{"a", "Z", "ж", "é", "ɏ"} {
			checkWord(t, strings.Repeat(s, n), n >= 1 && n <= 16)
			checkWord(t, s+strings.Repeat("0", n), n <= 15)
			checkWord(t, s+strings.Repeat("-", n), n <= 15)
			checkWord(t, strings.Repeat("aж", n)+s, n <= 7)
			// A rune more that is none, within and past the length.
			for _, wrong := range []string{" ", "×", "中", "😀", "\xff"} {
				checkWord(t, strings.Repeat(s, n)+wrong, false)
			}
		}
	}
	for _, s := range []string{"a", "ж", "\xff", "中", " "} {
		checkWord(t, strings.Repeat(s, 100000), false)
	}
}

// P19: bytes that are no UTF-8, at every place of short and of long words.
func TestWrongBytesInWords(t *testing.T) {
	for _, wrong := range wrongBytes {
		checkWord(t, wrong, false)
		for _, word := range []string{"a", "aж", "жжжжжжжжжжжжжжж", "abcdefghijklmno"} {
			for at := range len(word) + 1 {
				checkWord(t, word[:at]+wrong+word[at:], false)
			}
		}
	}
	for at := range len("жжж") {
		checkWord(t, "жжж"[:at], at%2 == 0 && at > 0)
	}
}

// drawWord draws a word of 1 to most runes, of one byte and of two.
func drawWord(r *drawn, most int) string {
	letters := []rune("abzAZàößÿĀɏαςωΑΩжяАЯ")
	behind := append(letters, []rune(digitsAndMarks)...)
	word := string(letters[r.below(len(letters))])
	for range r.below(most) {
		word += string(behind[r.below(len(behind))])
	}
	return word
}

// P19: drawn words, and the same with a rune or some bytes put in or taken out.
func TestDrawnWords(t *testing.T) {
	r := drawn(1901)
	told := map[bool]int{}
	puts := append([]string{"a", "ж", "0", "-", " ", "×", "\u03a2", "ё", "中", "\n", "ab", "жж"}, wrongBytes...)
	for range 40000 {
		s := drawWord(&r, 18)
		for range r.below(3) {
			at := r.below(len(s) + 1)
			end := min(len(s), at+r.below(2))
			s = s[:at] + puts[r.below(len(puts))] + s[end:]
		}
		want := wordForm.MatchString(s)
		told[want]++
		checkWord(t, s, want)
	}
	if told[true] < 5000 || told[false] < 5000 {
		t.Error("too few of a kind", fmt.Sprint(told))
	}
}
