package desk_test

import (
	"fmt"
	"strings"
	"testing"

	"wayleave/desk"
)

// forms are a line of each kind but new, and what it tells of the scene of TestForms.
var forms = []said{
	{"map 7 0 3 2", "back"},
	{"unmap 5", "ok"},
	{"protect 5 2", "ok"},
	{"access 1 5 0 0", "ok"},
	{"walk 0", "ok"},
	{"ack 0", "no 9"},
	{"evict 1", "no 9"},
	{"find 5", "map 5 0 9 1 0 0"},
	{"kept 0", "end"},
	{"list", "map 5 0 9 1\nend"},
	{"calm", "ok\nok\nok\nok\nframe 9 1\ncalm 4 4"},
}

// sceneOf makes the scene of forms.
var sceneOf = []string{"new 2 8", "map 5 0 9 1", "access 0 5 0 0"}

// nothing says a line that is none, in a scene and where there is no Watch: what is told, and nothing is done.
func nothing(t *testing.T, line string) {
	t.Helper()
	d := scene(t, sceneOf...)
	was := sight(t, d)
	tells(t, d, "what\n", line)
	if is := sight(t, d); is != was {
		t.Fatalf("behind %q: %q, was %q", line, is, was)
	}
	tells(t, d, "ok\nok\nok\nok\nframe 9 1\ncalm 4 4\n", "calm")
	tells(t, desk.New(), "what\nwhat\n", line, "list")
}

// TestForms: each kind of line, and what where there is no Watch.
func TestForms(t *testing.T) {
	for _, s := range forms {
		tells(t, scene(t, sceneOf...), s.text(), s.line)
		tells(t, desk.New(), "what\nwhat\n", s.line, s.line)
		tells(t, scene(t, "new 1 8", "new 0 8"), "what\n", s.line)
	}
}

// TestWordsTooFewOrMany: of each kind of line, down to its first word alone, and up to many.
func TestWordsTooFewOrMany(t *testing.T) {
	for _, s := range append([]said{{"new 2 8", "ok"}}, forms...) {
		words := strings.Split(s.line, " ")
		for n := 1; n < len(words); n++ {
			nothing(t, strings.Join(words[:n], " "))
		}
		for n := 1; n < 9; n++ {
			nothing(t, s.line+strings.Repeat(" 1", n))
			nothing(t, s.line+strings.Repeat(" 0", n))
		}
		nothing(t, s.line+" x")
		nothing(t, s.line+" "+s.line)
		nothing(t, "0 "+s.line)
		nothing(t, s.line+strings.Repeat(" 0", 100000))
	}
}

// TestOtherWords: words of other letters, and numbers alone.
func TestOtherWords(t *testing.T) {
	for _, s := range append([]said{{"new 2 8", "ok"}}, forms...) {
		word, rest, _ := strings.Cut(s.line, " ")
		for _, other := range []string{strings.ToUpper(word), strings.ToUpper(word[:1]) + word[1:], word + "s", word[1:], word[:len(word)-1], "s" + word, word + word, word + "\x00", word + ".", "'" + word + "'", word + "\u200b", "\ufeff" + word, "0", "12"} {
			nothing(t, strings.TrimRight(other+" "+rest, " "))
		}
		nothing(t, strings.ReplaceAll(s.line, " ", "")+"x")
		nothing(t, strings.ReplaceAll(s.line, " ", ",")+",")
	}
	for _, line := range []string{"x", "what", "ok", "no", "end", "back", "line 5 0 9 1 1", "frame 9 1", "access", "times", "free", "0", "-", "#", "new1 4", "new 14", "map5 0 9 1", "find5", "lists", "list calm"} {
		nothing(t, line)
	}
}

// TestBlanks: ahead of words, between them and behind them, as many as one likes.
func TestBlanks(t *testing.T) {
	many := strings.Repeat(" ", 1000)
	for _, s := range append([]said{{"new 2 8", "ok"}}, forms...) {
		for _, blanks := range []string{" ", "  ", "     ", many} {
			for _, line := range []string{blanks + s.line, s.line + blanks, strings.ReplaceAll(s.line, " ", " "+blanks), blanks + strings.ReplaceAll(s.line, " ", blanks+" ") + blanks} {
				tells(t, scene(t, sceneOf...), s.text(), line)
			}
		}
	}
	// A last blank is no word.
	tells(t, scene(t, sceneOf...), "back\n", "map 7 0 3 2 ")
	tells(t, scene(t, sceneOf...), "ok\n", "access 1 5 0 0"+many)
}

// TestNoWords: a line without words tells nothing, with a Watch and without one.
func TestNoWords(t *testing.T) {
	for _, line := range []string{"", " ", "  ", strings.Repeat(" ", 100000)} {
		d := desk.New()
		tells(t, d, "", line)
		tells(t, d, "", line, line, line)
		tells(t, d, "what\nok\nend\n", "list", line, "new 1 1", line, line, "list", line)
	}
}

// TestOtherBlanks: nothing but byte 32 parts words.
func TestOtherBlanks(t *testing.T) {
	for _, blank := range []string{"\t", "\r", "\v", "\f", "\x00", "\xa0", "\u00a0", "\u0085", "\u2003", "\u3000", "\u200b", "\ufeff", "\x1f", "!", "\x20\t\x20", "\x85"} {
		nothing(t, blank)
		for _, s := range append([]said{{"new 2 8", "ok"}}, forms...) {
			nothing(t, blank+s.line)
			nothing(t, s.line+blank)
			nothing(t, s.line+" "+blank)
			nothing(t, blank+" "+s.line)
			if strings.Contains(s.line, " ") {
				nothing(t, strings.ReplaceAll(s.line, " ", blank))
				nothing(t, strings.Replace(s.line, " ", blank, 1))
			}
		}
	}
}

// TestEachByte: a byte laid into a word makes it another one, but a blank, which makes two of it, and, in a number, a digit.
func TestEachByte(t *testing.T) {
	for b := range 256 {
		if b == '\n' {
			continue
		}
		s := string([]byte{byte(b)})
		if b != ' ' {
			nothing(t, s)
			nothing(t, "list"+s)
			nothing(t, s+"list")
		}
		nothing(t, "li"+s+"st")
		if b < '0' || b > '9' {
			nothing(t, "unmap 5"+s+"5")
			nothing(t, "map 7 0 1"+s+"1 2")
		}
		if b != ' ' && (b < '0' || b > '9') {
			nothing(t, "unmap "+s+"5")
			nothing(t, "unmap 5"+s)
			nothing(t, "new 2 "+s+"8")
			nothing(t, "unmap "+s)
		}
	}
}

// TestNumbers: from 0 to a hundred million.
func TestNumbers(t *testing.T) {
	for _, s := range []said{
		{"0", "map 0 0 1 0 0 0"}, {"1", "no 5"}, {"9", "no 5"}, {"10", "no 5"}, {"99", "no 5"}, {"512", "map 512 0 2 0 0 0"}, {"4095", "no 5"},
		{"4096", "no 1"}, {"10000", "no 1"}, {"65536", "no 1"}, {"99999999", "no 1"}, {"100000000", "no 1"},
	} {
		play(t, said{"new 1 8", "ok"}, said{"map 0 0 1 0", "back"}, said{"map 512 0 2 0", "back"}, said{"find " + s.line, s.told})
		play(t, said{"new 1 8", "ok"}, said{"kept " + s.line, "end"})
	}
}

// notNumbers are words that are no numbers.
var notNumbers = []string{
	"100000001", "100000010", "200000000", "999999999", "1000000000", "4294967296", "4294967301", "9223372036854775807", "9223372036854775808", "18446744073709551616", "18446744073709551621",
	"340282366920938463463374607431768211456", strings.Repeat("9", 1000), "1" + strings.Repeat("0", 1000), strings.Repeat("0", 1000), strings.Repeat("0", 1000) + "5",
	"00", "05", "005", "01", "0100000000", "000000005", "+5", "-5", "-0", "+0", "-1", "--5", "+-5", "-", "+", "−5",
	"x", "5x", "x5", "0x5", "0X5", "0b1", "0o5", "5e0", "1e2", "5.", "5.0", ".5", "0.5", "5,0", "1_0", "1_000", "_5", "5_", "five", "NaN", "Inf", "true", "nil",
	"\x00", "5\x00", "\x005", "\xff", "5\xff", "\x80", "５", "٥", "²", "5\t", "\t5", "5\r", "5\u00a0", "'5'", "\"5\"", "(5)", "5;", "/", ":", "5/", "5:",
}

// TestNotNumbers: in each place of each kind of line.
func TestNotNumbers(t *testing.T) {
	for _, s := range append([]said{{"new 2 8", "ok"}}, forms...) {
		words := strings.Split(s.line, " ")
		for i := 1; i < len(words); i++ {
			for _, bad := range notNumbers {
				line := strings.Join(words[:i], " ") + " " + bad + strings.TrimRight(" "+strings.Join(words[i+1:], " "), " ")
				nothing(t, line)
			}
		}
	}
}

// TestHighest: a hundred million is a number in each place, and one more is none in any.
func TestHighest(t *testing.T) {
	for _, s := range append([]said{{"new 2 8", "ok"}}, forms...) {
		words := strings.Split(s.line, " ")
		for i := 1; i < len(words); i++ {
			for n, isNumber := range map[string]bool{"0": true, "99999999": true, "100000000": true, "100000001": false, "100000002": false} {
				was := words[i]
				words[i] = n
				got := do(t, scene(t, sceneOf...), strings.Join(words, " "))
				if (got != "what\n") != isNumber {
					t.Errorf("%q: %q", words, got)
				}
				words[i] = was
			}
		}
	}
}

// TestAllShortNumbers: each number of up to four digits is what it says; with a nought ahead it is none.
func TestAllShortNumbers(t *testing.T) {
	d := scene(t, "new 1 8", "map 5 0 9 1", "map 8 1 8 2", "map 64 2 64 4")
	for n := range 10000 {
		want := "no 5\n"
		switch {
		case n == 5:
			want = "map 5 0 9 1 0 0\n"
		case n >= 8 && n < 16:
			want = "map 8 1 8 2 0 0\n"
		case n >= 64 && n < 128:
			want = "map 64 2 64 4 0 0\n"
		case n > 4095:
			want = "no 1\n"
		}
		tells(t, d, want+"what\nwhat\nwhat\n", fmt.Sprint("find ", n), fmt.Sprint("find 0", n), fmt.Sprint("find +", n), fmt.Sprint("find -", n))
	}
}
