package desk_test

import (
	"slices"
	"strings"
	"testing"

	"underwood/api"
	"underwood/desk"
)

// P12.1: no lines tell nothing, and leave what there is.
func TestNoLines(t *testing.T) {
	d := begun(t, "16 8", "int 0 7")
	ahead := do(t, d, "view")
	for _, lines := range [][]string{nil, {}, make([]string, 0, 5)} {
		wantTold(t, d, lines)
		wantTold(t, desk.New(), lines)
	}
	wantTold(t, d, []string{"view"}, strings.TrimSuffix(ahead, "\n"))
}

// P12.1: lines without words tell nothing, where there is no twin, too; lines with words among them tell what they tell alone.
func TestLinesWithoutWords(t *testing.T) {
	d := desk.New()
	wantTold(t, d, []string{"", " ", "  ", strings.Repeat(" ", 5000)})
	wantTold(t, d, []string{"", "view", "   ", "", "new 16 8", " ", "nil 0", ""}, "what", "ok", "ok")
	wantTold(t, d, []string{"", " ", "  ", strings.Repeat(" ", 5000)})
	wantTold(t, d, make([]string, api.MaxLines))
}

// P12.1: blanks ahead, behind, and several between words change nothing; words that stand together are one.
func TestBlanks(t *testing.T) {
	d := desk.New()
	wantTold(t, d, []string{" new 16 8", "new 16 8 ", "  new   16    8  ", "new  16 8", "new 16  8"}, "ok", "ok", "ok", "ok", "ok")
	long := strings.Repeat(" ", 3000)
	wantTold(t, d, []string{long + "int" + long + "3" + long + "-5" + long, " pair  0 3   3  ", "  minor", "major   ", " view "},
		"ok", "ok", "ok", "ok", roots("#0", "nil", "nil", "-5"), "#0 pair -5 -5", "used 0 3")
	wantTold(t, d, []string{"new168", "new16 8", "new 168", "int03 5", "v iew", "vie w", "- 5", "int 0 - 5"},
		"what", "what", "what", "what", "what", "what", "what", "what")
}

// P12.1: words that are none, or another's beginning, end or form.
func TestWhatOfWords(t *testing.T) {
	d := begun(t, "16 8", "int 0 7", "pair 1 0 0", "guard 2")
	for _, line := range []string{
		"x", "what", "ok", "no", "no 1", "roots", "used 0 0", "gone", "#0", "0", "7", "-1", "1 2", "16 8", "new", "News 16 8", "NEW 16 8", "New 16 8",
		"View", "VIEW", "views", "vie", "int", "Int 0 1", "INT 0 1", "ints 0 1", "in 0 1", "integer 0 1", "Nil 0", "nils 0", "mov 0 0", "Pair 0 0 0",
		"ephemeron 0 0 0", "guardian 0", "register 1 2", "len() 0 1", "minor.", "Minor", "majors", "cut", "0 int 1", "0 nil", "1 get 0 0",
		"nil #0", "nil r0", "nil nil", "int 0 x", "int x 0", "int 0 nil", "int 0 gone", "new x y", "new 16 x", "new x 8", "view view", "nil 0,", "int 0,1", "int,0,1",
		"int 0 1;", "\"nil\" 0", "nil\x00 0", "\x00", ".", "-", "+", "nil -", "nil +", "int 0 --1", "int 0 1-", "int 0 1.0", "int 0 1e3",
	} {
		wantWhat(t, d, line)
	}
}

// wantWhat holds that a line tells what, and does nothing, of a desk that has a twin.
func wantWhat(t *testing.T, d *desk.Desk, line string) {
	t.Helper()
	ahead := do(t, d, "view")
	if told := do(t, d, line); told != "what\n" {
		t.Errorf("the line %q told %q", line, told)
	}
	if behind := do(t, d, "view"); behind != ahead {
		t.Errorf("behind the line %q the view is %q, was %q", line, behind, ahead)
	}
}

// P12.1: numbers are as short as can be; where each number of a line stands another form of it is no number.
func TestNumbersAreShort(t *testing.T) {
	d := begun(t, "16 8", "int 0 7", "vector 1 0 3")
	for _, number := range []string{
		"+1", "+0", "-0", "00", "000", "01", "007", "-01", "-00", "-007", "1_0", "_1", "1_", "0x1", "0X1", "0b1", "0o1", "0x", "1.", "1e0", "1e1", ".1", "1,0",
		"--1", "+-1", "-+1", "-", "+", "1-", "1+", "'1'", "0a", "a0", "inf", "NaN", "\u0661", "\uff11", "\u00b9", "1\u00a0", "\u22121",
	} {
		for _, line := range []string{
			"int 0 N", "int N 3", "nil N", "move N 0", "move 0 N", "vector 0 0 N", "get 0 N 0", "get 0 1 N", "set 1 N 0", "set 1 0 N", "pair 0 0 N", "reg N 1",
			"new 16 N", "new N 8",
		} {
			wantWhat(t, d, strings.Replace(line, "N", number, 1))
		}
	}
	// The same numbers, as short as can be.
	wantTold(t, d, []string{"int 0 1", "int 1 -1", "int 2 0", "int 3 10", "int 4 -10", "int 5 100", "view"}, "ok", "ok", "ok", "ok", "ok", "ok",
		roots("1", "-1", "0", "10", "-10", "100"), "used 4 0")
}

// P12.1: numbers have 64 bits: those at the bounds are numbers, those beside them are none.
func TestNumbersHave64Bits(t *testing.T) {
	d := begun(t, "16 8", "int 0 7", "vector 1 0 3")
	fit := []string{"9223372036854775807", "-9223372036854775808", "9223372036854775806", "-9223372036854775807", "1152921504606846976", "-1152921504606846977"}
	for _, n := range fit {
		wantTold(t, d, []string{"int 0 " + n, "nil " + n, "vector 0 0 " + n, "get 0 1 " + n, "set 1 " + n + " 0", "move 0 " + n, "reg 1 " + n},
			"no 1", "no 1", "no 1", "no 1", "no 1", "no 1", "no 1")
		for _, line := range []string{"new 16 " + n, "new " + n + " 8"} {
			wantTold(t, desk.New(), []string{line, "view"}, "no 1", "what")
		}
	}
	for _, n := range []string{
		"9223372036854775808", "-9223372036854775809", "9223372036854775817", "18446744073709551615", "18446744073709551616", "18446744073709551617",
		"-18446744073709551615", "-18446744073709551616", "36893488147419103232", "99999999999999999999", "-99999999999999999999", "340282366920938463463374607431768211457",
		strings.Repeat("9", 5000), "-1" + strings.Repeat("0", 5000), "1" + strings.Repeat("0", 64),
	} {
		for _, line := range []string{"int 0 N", "int N 0", "nil N", "vector 0 0 N", "get 0 1 N", "set 1 N 0", "move 0 N", "new 16 N", "new N 8"} {
			wantWhat(t, d, strings.Replace(line, "N", n, 1))
		}
	}
}

// P12.1: blanks alone part words: bytes that are no ASCII, a tab, a carriage return and others are of the words.
func TestOtherBytes(t *testing.T) {
	d := begun(t, "16 8", "int 0 7", "pair 1 0 0")
	for _, b := range []string{"\t", "\r", "\v", "\f", "\x00", "\x7f", "\x80", "\xff", "\xc3", "\xa0", "\x85", "\u00a0", "\u0085", "\u2003", "\u2028", "\u3000", "\ufeff", "\u00e9", "\U0001f333"} {
		for _, line := range []string{
			b, " " + b + " ", b + b, "nil 0" + b, "nil " + b + "0", "nil" + b + "0", b + "nil 0", "nil 0 " + b, b + " nil 0", "nil " + b + " 0",
			"view" + b, b + "view", "view " + b, "minor" + b, "major " + b, "new" + b + "16 8", "new 16 8" + b, "new 16" + b + "8", "int 0" + b + "3", "int 0 3" + b + "3",
		} {
			wantWhat(t, d, line)
		}
	}
}

// P12.1: what is told of each line but new where there is no twin, from the beginning on, and behind a new that is refused.
func TestWithoutATwin(t *testing.T) {
	lines := []string{
		"int 0 7", "nil 0", "move 0 1", "pair 0 0 0", "vector 0 0 1", "weak 0 0 0", "ephem 0 0 0", "guard 0", "reg 0 0", "pop 0 0", "get 0 0 0", "set 0 0 0",
		"len 0 0", "same 0 0 0", "minor", "major", "view", "x", "nil 99", "nil", "new", "new 16", "new 16 8 8", "new a b",
	}
	what := slices.Repeat([]string{"what"}, len(lines))
	d := desk.New()
	wantTold(t, d, lines, what...)
	wantTold(t, d, []string{"new 15 8"}, "no 1")
	wantTold(t, d, lines, what...)
	wantTold(t, d, []string{"new 16 8", "int 0 7", "new 16 -1"}, "ok", "ok", "no 1")
	wantTold(t, d, lines, what...)
	wantTold(t, d, []string{"new 16 8", "view"}, "ok", roots(), "used 0 0")
}

// P1: lines that are long, of blanks, of words, of digits, of anything.
func TestLongLines(t *testing.T) {
	d := begun(t, "16 8", "int 0 7")
	const n = 1 << 21
	wantTold(t, d, []string{strings.Repeat(" ", n)})
	for _, piece := range []string{"x", "0", "9", "-", "nil 0 ", "view ", "0 ", "x ", "\xff", "\t", "new 16 8 ", "int  0  1  "} {
		wantWhat(t, d, strings.Repeat(piece, n/len(piece)))
	}
	wantWhat(t, d, "int 0 1"+strings.Repeat(" ", n)+"x")
	wantWhat(t, d, "view"+strings.Repeat(" ", n)+"view")
}
