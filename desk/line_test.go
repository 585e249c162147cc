package desk

import (
	"fmt"
	"strings"
	"testing"
)

// P32.1: a line ends with a byte 10, or with the text; blanks part its words, however many there are.
func TestLines(t *testing.T) {
	for s, want := range map[string]string{
		"": "", "\n": "", "\n\n\n": "", " ": "", "   \n  \n": "",
		"run 60":                      "done\n",
		"run 60\n":                    "done\n",
		"run 60\n\n":                  "done\n",
		"\nrun 60":                    "done\n",
		"run 60\nrun 01":              "done\nerror 19\n",
		"run 60\nrun 01\n":            "done\nerror 19\n",
		"run 60\n\n \nrun 01\n":       "done\nerror 19\n",
		"  run   60   ":               "done\n",
		" run 60\n   run  01 \n":      "done\nerror 19\n",
		"run\n60":                     "error 28\nerror 28\n",
		"run 60 \n":                   "done\n",
		"run 60 run 60":               "error 28\n",
		"new 1\nmint  0   7\ncoins 0": "ok\nok\n7 0\n",
	} {
		wantOut(t, s, want)
	}
}

// P32.1: lines are handed out one by one, as long as somebody takes them.
func TestHandedOut(t *testing.T) {
	var got []string
	for text := range lines("a b\n\n c\nd") {
		got = append(got, text)
	}
	if fmt.Sprintf("%q", got) != `["a b" "" " c" "d"]` {
		t.Errorf("%q", got)
	}
	for text := range lines("a\nb\nc") {
		if text != "a" {
			t.Errorf("%q behind the one at which nobody took more", text)
		}
		break
	}
}

// P32.1: nothing but blanks and bytes 10 parts words and lines.
func TestNoBlanks(t *testing.T) {
	for _, gap := range []string{"\t", "\r", "\v", "\f", "\x00", "\u00a0", "\u2003", "\u2028", "\x85", "\x1f", "\xff", ",", "_"} {
		wantOut(t, "run"+gap+"60", "error 28\n")
		wantOut(t, "run 60"+gap, "error 28\n")
		wantOut(t, gap+"run 60", "error 28\n")
		wantOut(t, "new"+gap+"1\n"+"run 60"+gap+"run 60", "error 28\nerror 28\n")
		wantOut(t, gap, "error 28\n")
		wantOut(t, gap+"# run 60", "error 28\n")
	}
}

// P32.2: lines without words, and lines that begin with #, put out nothing, and change nothing.
func TestSilent(t *testing.T) {
	silent := []string{"", " ", "    ", "#", "# ", "#new 9", "# new 9", "  # new 9", "## honest 0 0", "#\xff\x00", "#coins 0", " #  #"}
	for _, s := range silent {
		wantOut(t, s, "")
		wantOut(t, s+"\n", "")
		wantOut(t, strings.Repeat(s+"\n", 5)+"look 0", "error 24\n")
		wantOut(t, "new 1\n"+s+"\nmint 0 4\n"+s+"\n"+s+"\ncoins 0\n"+s, "ok\nok\n4 0\n")
	}
	wantOut(t, strings.Join(silent, "\n"), "")
	// But # elsewhere is a part of a word.
	wantOut(t, "look# 0\nhash #\nnew 1 #\nnew 1#\nnew #", "error 28\nace738c68088218d015fbdce138f062893d86818ac98932f7ce2907c5976fbde\nerror 28\nerror 28\nerror 28\n")
}

// P32.1: a number is 1 to 12 digits, and nothing else.
func TestNumbers(t *testing.T) {
	for word, want := range map[string]string{
		"0": "0", "7": "7", "42": "42", "007": "7", "000000000000": "0", "000000000009": "9", "123456789012": "123456789012", "999999999999": "999999999999", "100000000000": "100000000000",
	} {
		wantPlay(t, "new 1; mint 0 "+word+"; coins 0 -> "+want+" 0")
	}
	for _, word := range []string{
		"x", "-1", "+1", "-0", "1.0", "1e3", "0x1", "1_0", "1,0", "a", "1a", "a1", "'1'", "٣", "１", "²", "½", "1\x00", "\x001", "1\r", "\t1", "/", ":", "/1", "1:",
		"0000000000001", "1000000000000", "9999999999999", "0000000000000", "18446744073709551615", "18446744073709551616", "18446744073709551617", "340282366920938463463374607431768211457", rep('0', 1000), rep('9', 60000),
	} {
		wantPlay(t, "new 1; mint 0 "+word+" -> error 28; mint "+word+" 1 -> error 28; new "+word+" -> error 28; coins "+word+" -> error 28; coins 0 -> 0 0")
	}
}

// words are lines of each kind, as they must be; D is any word, X is hex.
func words() []string {
	return []string{
		"new 1", "honest 1 0", "mint 0 1", "fee 0 1", "open 0 3", "move 0 3 D 1 1", "final 0 3 D 1 1", "exit 0 3", "look 0", "post 0", "take 0", "tick 1",
		"arm 0 1", "crash 0 1", "coins 0", "held 3", "kept 0 3", "hash D", "run X", "list X",
	}
}

// P32.1: lines of each kind with a word less, a word more, another word, or no number where one must stand.
func TestSyntax(t *testing.T) {
	none := func(parts ...string) {
		t.Helper()
		line := strings.ReplaceAll(strings.Join(parts, " "), "X", "00")
		wantOut(t, line, "error 28\n")
		wantOut(t, "new 2\n"+line+"\ncoins 0", "ok\nerror 28\n0 0\n")
	}
	for _, line := range words() {
		l := strings.Split(line, " ")
		if got := Play("new 2\n" + strings.ReplaceAll(line, "X", "00")); strings.Contains(got, "error 28") {
			t.Errorf("%s: %q", line, got)
		}
		none(l[0])
		none(l[:len(l)-1]...)
		none(append(l[:len(l):len(l)], "0")...)
		none(append(l[:len(l):len(l)], "#")...)
		none(l[1:]...)
		none(append([]string{l[0]}, l...)...)
		none(append([]string{strings.ToUpper(l[0])}, l[1:]...)...)
		none(append([]string{strings.ToUpper(l[0][:1]) + l[0][1:]}, l[1:]...)...)
		none(append([]string{l[0] + "s"}, l[1:]...)...)
		none(append([]string{l[0][1:]}, l[1:]...)...)
		none(append([]string{l[0][:len(l[0])-1]}, l[1:]...)...)
		for at := 1; at < len(l); at++ {
			for _, bad := range []string{"x", "-1", "1234567890123", "0G", "0x00"} {
				if l[at] == "D" || l[at] == "X" && bad == "-1" {
					continue
				}
				if l[at] == "X" && bad == "1234567890123" {
					bad = "123"
				}
				some := append([]string(nil), l...)
				some[at] = bad
				none(some...)
			}
		}
	}
	for _, line := range []string{"what", "0", "1 2 3", "help", "new1", "coin 0", "step 0", "act 0", "say", "ok", "error 28", "| STOP", "-> ok", ";", "n", "t", "x", "nn"} {
		none(line)
	}
}

// P32.1: the same word can stand in any line; hex is of small letters, two digits a byte.
func TestHexWords(t *testing.T) {
	for _, word := range []string{"0", "000", "0g", "g0", "0G", "AB", "aB", "Ab", "0x00", "x0", "00x", "-1", "+1", "1_", "_1", "0 ", "00 00", " ", "", "é0", "\x00\x00", "\xff\xff", "٣", "zz", "/0", ":0", "0/", "`a", "@a", "00/", rep('0', 60001), rep('a', 60000) + "A0", "A0" + rep('a', 60000)} {
		wantOut(t, "run "+word, "error 28\n")
		wantOut(t, "list "+word+"\nlist fe", "error 28\n| INVALID\n")
	}
	wantOut(t, "list 01234563789abcdef0", "| ADD\n| 0x23\n| 0x45\n| PUSH4 789abcde\n| 0xf0\n")
}
