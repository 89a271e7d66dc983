package tests

import (
	"strings"
	"testing"

	"loop.example/g00052/impl"
)

// wordsAhead stand ahead of each of goodLines, and make all of them such that can
// be done.
const wordsAhead = "join 1 2; join 3 4; hold 3; join 5 6; park 5; rule 1 1-3 5 0 -; path 3 4; call 5 1 0 0; call 9 4 0 0; set a 1; set b 2"

// goodLines have a row of the table each, and say something else than no; the forms
// have N for each word that is a decimal.
var goodLines = []struct{ line, says, form string }{
	{"join 1 7", "ok", "join N N"}, {"drop 1", "ok", "drop N"}, {"hold 1", "ok", "hold N"}, {"take 3", "ok", "take N"}, {"park 1", "ok", "park N"}, {"pick 7", "ok", "pick N"},
	{"hears 1", "2", "hears N"}, {"rule 2 1-3 5 0 -", "ok", "rule 2 1-3 N N -"}, {"dial 12", "may 5 12", "dial 12"}, {"path 1 2", "ok 0", "path N N"}, {"free 3", "ok", "free N"},
	{"call 7 2 0 1", "ok 7", "call N N N N"}, {"end 0 1", "ok", "end N N"}, {"gone 9 1", "ok", "gone N N"}, {"law 1000", "47", "law N"}, {"law -1000", "175", "law Z"}, {"unlaw 2", "40", "unlaw N"},
	{"tone C 9", "C", "tone C N"}, {"set c on", "ok", "set c on"}, {"set a 2", "ok", "set a 2"}, {"unset a", "ok", "unset a"}, {"get b", "2", "get b"}, {"block 1 3 2", "3/5", "block N N N"},
}

// checkSaysNo looks whether a line says no behind wordsAhead, and leaves all as it
// was.
func checkSaysNo(t *testing.T, line string) {
	t.Helper()
	ahead := linesOf(wordsAhead)
	for _, end := range []string{"", "\n"} {
		if got := strings.TrimPrefix(impl.Console(ahead+line+end), impl.Console(ahead)); got != "no\n" {
			t.Errorf("%q: %q", line, got)
		}
		if got := standingBehind(ahead + line + end); got.String() != standingBehind(ahead).String() {
			t.Errorf("behind %q: %s", line, got)
		}
	}
}

// P20: the lines that the tests of words begin with; each row of the table is there.
func TestGoodLines(t *testing.T) {
	ahead := linesOf(wordsAhead)
	if got := impl.Console(ahead); strings.Contains(got, "no") {
		t.Fatalf("%q", got)
	}
	rows := map[string]bool{}
	for _, good := range goodLines {
		rows[strings.Fields(good.line)[0]] = true
		for _, end := range []string{"", "\n"} {
			if got := strings.TrimPrefix(impl.Console(ahead+good.line+end), impl.Console(ahead)); got != good.says+"\n" {
				t.Errorf("%q: %q", good.line, got)
			}
		}
	}
	for _, row := range strings.Fields("join drop hold take park pick hears rule dial path free call end gone law unlaw tone set unset get block") {
		if !rows[row] {
			t.Error("no line of", row)
		}
	}
	if len(rows) != 21 {
		t.Error(rows)
	}
}

// P20: a word too few and a word too many, at each place.
func TestTooFewAndTooManyWords(t *testing.T) {
	for _, good := range goodLines {
		words := strings.Split(good.line, " ")
		for place := range words {
			few := append(append([]string{}, words[:place]...), words[place+1:]...)
			if line := strings.Join(few, " "); line != "" {
				checkSaysNo(t, line)
			}
			checkSaysNo(t, strings.Join(words[:place+1], " ")+" ")
			for _, more := range append(words, "0", "1", "-", "#", "x", "on") {
				many := append(append([]string{}, words[:place+1]...), more)
				checkSaysNo(t, strings.Join(append(many, words[place+1:]...), " "))
			}
		}
		checkSaysNo(t, good.line+" "+good.line)
		checkSaysNo(t, good.line+";"+good.line)
		checkSaysNo(t, good.line+" # note")
	}
}

// P20: more than one blank between two words, a blank ahead or behind, and what is
// no blank.
func TestBlanks(t *testing.T) {
	strange := []string{"\t", "\r", "\v", "\f", "\x00", "\u00a0", "\u2002", "\u3000", ",", ":", ";", "\xa0", "\x85"}
	for _, good := range goodLines {
		checkSaysNo(t, " "+good.line)
		checkSaysNo(t, "  "+good.line)
		checkSaysNo(t, good.line+" ")
		checkSaysNo(t, good.line+"  ")
		checkSaysNo(t, " "+good.line+" ")
		for at := range good.line {
			if good.line[at] != ' ' {
				continue
			}
			checkSaysNo(t, good.line[:at]+" "+good.line[at:])
			checkSaysNo(t, good.line[:at]+"  "+good.line[at:])
			checkSaysNo(t, good.line[:at]+good.line[at+1:])
			for _, other := range strange {
				checkSaysNo(t, good.line[:at]+other+good.line[at+1:])
				checkSaysNo(t, good.line[:at]+" "+other+good.line[at+1:])
				checkSaysNo(t, good.line[:at]+other+good.line[at:])
			}
		}
		for _, other := range strange {
			checkSaysNo(t, other+good.line)
			checkSaysNo(t, good.line+other)
		}
	}
	for _, blanks := range []string{" ", "  ", "   ", "\t", "\r", "\v", "\x00", " \t", "\u00a0"} {
		checkSaysNo(t, blanks)
	}
}

// P20: other words where a row begins.
func TestOtherFirstWords(t *testing.T) {
	for _, good := range goodLines {
		name, rest, _ := strings.Cut(good.line, " ")
		others := []string{strings.ToUpper(name), strings.ToUpper(name[:1]) + name[1:], name + "s", name + "x", "x" + name, name[1:], name[:len(name)-1], name + name, "-" + name, name + "#", name + ":", "\xef\xbb\xbf" + name, name + "\x00", "'" + name + "'"}
		for _, other := range others {
			checkSaysNo(t, other+" "+rest)
		}
		checkSaysNo(t, name)
		checkSaysNo(t, rest)
	}
	for _, line := range []string{"ok", "no", "none", "long", "begin", "commit", "abort", "need a 1", "ring 1", "mix 1", "skills 0 1", "port 1", "release 3", "connect 1 2", "ruel 2 1-3 5 0 -", "x # y", "help", "?", "0", "1 2", "-", "'#'", "\xff", "ж"} {
		checkSaysNo(t, line)
	}
}

// P20: lines that say nothing, and those that only look like it.
func TestLinesThatSayNothing(t *testing.T) {
	ahead := linesOf(wordsAhead)
	says := impl.Console(ahead)
	for _, line := range []string{"", "#", "##", "# ", "#x", "# join 1 7", "#join 1 7", "#\t", "#\r", "#\x00", "#\xff", "# " + strings.Repeat("x", 1200)} {
		for _, end := range []string{"", "\n"} {
			if got := impl.Console(ahead + line + end); got != says {
				t.Errorf("%q: %q", line, got)
			}
			if got := standingBehind(ahead + line + end); got.String() != standingBehind(ahead).String() {
				t.Errorf("behind %q: %s", line, got)
			}
		}
		if got := impl.Console(line + "\n" + ahead + line + "\nhears 1\n" + line + "\n"); got != says+"2\n" {
			t.Errorf("%q around: %q", line, got)
		}
	}
	for _, line := range []string{" #", "  #", " # note", "\t#", "\t# note", "\r#", "\x00#", "- # note", "; # note", "// note", "\xef\xbb\xbf#", "＃"} {
		checkSaysNo(t, line)
	}
}

// wrongDecimals are none, whatever they would tell.
var wrongDecimals = []string{
	"", "00", "01", "07", "001", "+0", "+1", "-0", "-1", "--1", "1-", "1+", "-", "+", "1.0", "1.", ".1", "1,0", "1e0", "0x1", "0X1", "0b1", "0o1", "1_0", "1 0", "a", "1a", "a1", "1#", "'1'",
	"１", "٣", "०", "1\u200b", "\ufeff1", "1\t", "\t1", "1\r", "1\x00", "\x001", "1\xff", "½", "Ⅰ",
	"10000000", "12345678", "99999999", "00000001", "01234567", "4294967296", "4294967297", "9223372036854775807", "9223372036854775808", "18446744073709551616", "18446744073709551617", strings.Repeat("1", 300), "0000000", strings.Repeat("0", 200) + "1",
}

// P20: what is no decimal, at each place where one is.
func TestWrongDecimals(t *testing.T) {
	places := 0
	for _, good := range goodLines {
		words, forms := strings.Split(good.line, " "), strings.Split(good.form, " ")
		for place, form := range forms {
			if form != "N" && form != "Z" {
				continue
			}
			places++
			for _, wrong := range wrongDecimals {
				if words[0] == "law" && wrong == "-1" {
					continue
				}
				changed := append([]string{}, words...)
				changed[place] = wrong
				checkSaysNo(t, strings.Join(changed, " "))
				if words[0] == "law" {
					changed[place] = "-" + wrong
					checkSaysNo(t, strings.Join(changed, " "))
				}
			}
			// The digits that are meant, with something beside them.
			for _, wrong := range []string{"0" + words[place], "+" + words[place], words[place] + "0000000", words[place] + ".", words[place] + "-"} {
				changed := append([]string{}, words...)
				changed[place] = wrong
				checkSaysNo(t, strings.Join(changed, " "))
			}
		}
	}
	if places != 28 {
		t.Error(places)
	}
}

// P20: decimals that are such: 0, and up to seven digits, of which the function that
// is named says the rest.
func TestDecimals(t *testing.T) {
	for _, c := range []string{
		"hears 0: none", "hears 9: none", "hears 10: none", "hears 100: none", "hears 1000000: none", "hears 9999999: none", "hears 1234567: none", "hears 10000000: no", "hears 9999999 : no", "hears 00: no", "hears 010: no",
		"call 1234567 1 0 7654321: ok 1234567", "call 9999999 1 0 9999999: ok 9999999", "call 0 1 0 0: ok 0", "call 10000000 1 0 0: no", "call 0 1 0 10000000: no", "call 1000000 1 0 1000000: ok 1000000",
		"call 0 1 00 0: no", "call 0 01 0 0: no", "call 00 1 0 0: no", "call 0 1 0 00: no",
		"join 0 1: ok", "join 00 1: no", "join 0 01: no", "path 0 0: ok 0", "path 00 0: no", "path 15 00: no", "unlaw 0: 8", "unlaw 00: no", "unlaw 255: -32256", "unlaw 0255: no", "unlaw 256: no",
		"law 0: 0", "law 00: no", "law -0: no", "law -00: no", "law 01: no", "law -01: no", "law 32767: 127", "law -32767: 255", "law 32768: no", "law -32768: no", "law 032767: no", "law -032767: no", "law 9999999: no", "law -9999999: no",
		"block 0 0 1: 1/1", "block 00 0 1: no", "block 0 00 1: no", "block 0 0 01: no", "tone 0 0: 0", "tone 0 00: no", "tone 00 0: no", "tone 0 255: 0", "tone 0 0255: no", "tone 0 256: no",
	} {
		checkTalk(t, c)
	}
	// Where a word is none of the numbers it is left to the function: 00 is digits.
	checkTalk(t, "rule 00 2-3 1 0 00: ok; dial 00: may 1 0000; dial 000: done 1 00000; set a 00: ok; get a: 00; dial 0: more")
}

// P20: every number of up to three digits, and those with a nought ahead, as words.
func TestEverySmallDecimal(t *testing.T) {
	for n := range 1000 {
		word := wordOfNumber(n)
		want := "none\n"
		if got := impl.Console("hears " + word); got != want {
			t.Errorf("hears %s: %q", word, got)
		}
		for _, wrong := range []string{"0" + word, "00" + word, "+" + word, "-" + word, word + ".", word + " ", word + "-"} {
			if got := impl.Console("hears " + wrong); got != "no\n" {
				t.Errorf("hears %q: %q", wrong, got)
			}
		}
	}
	for b := range 256 {
		for _, word := range []string{string([]byte{byte(b)}), string([]byte{byte(b), '1'}), string([]byte{'1', byte(b)}), string([]byte{'1', byte(b), '1'})} {
			want := "no\n"
			switch {
			case b == '\n':
				// Each piece is a line of its own, of which the first is no decimal, or 1.
				continue
			case isPlainDecimal(word):
				want = "none\n"
			}
			if got := impl.Console("hears " + word); got != want {
				t.Errorf("hears %q: %q", word, got)
			}
		}
	}
}

func wordOfNumber(n int) string {
	digits := ""
	for {
		digits = string(rune('0'+n%10)) + digits
		n /= 10
		if n == 0 {
			return digits
		}
	}
}

func isPlainDecimal(word string) bool {
	return strings.Trim(word, "0123456789") == "" && (word == "0" || word[0] != '0')
}
