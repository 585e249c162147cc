package desk

import (
	"fmt"
	"strings"
	"sync"
	"testing"

	"truce/book"
	"truce/gen"
	"truce/state"
)

// channelsOf are channels that mixed lines are of, with what each has for both: with a rule, without one, and of nothing.
var channelsOf = [][3]int{{0, 16, 5}, {3, 18, 4}, {441, 0, 0}}

// writer writes mixed lines, mostly such as go on with what the ones ahead have begun: it plays them on a plain console.
type writer struct {
	plain
	seed  uint64
	lines []string
	outs  []string
	post  int
	take  int
}

func (w *writer) below(n int) int { return below(&w.seed, n) }

func (w *writer) add(format string, a ...any) {
	line := fmt.Sprintf(format, a...)
	// Blanks more than there must be change nothing.
	switch w.below(12) {
	case 0:
		line = "  " + strings.ReplaceAll(line, " ", "   ")
	case 1:
		line += " "
	}
	w.lines = append(w.lines, line)
	if out, ok := w.put(line); ok {
		w.outs = append(w.outs, out)
	}
}

func (w *writer) who() int {
	if w.below(40) == 0 {
		return 2 + w.below(3)
	}
	return w.below(2)
}

func (w *writer) channel() [3]int { return channelsOf[w.below(len(channelsOf))] }

// seedOf is a channel's seed, and now and then one that has none.
func (w *writer) seedOf() int {
	if w.below(20) == 0 {
		return 1
	}
	return w.channel()[0]
}

// mover is the wallet whose turn it is, by what one of both keeps.
func (w *writer) mover(seed int) int {
	f, _ := gen.Channel(uint64(seed))
	who := w.below(2)
	if w.below(9) == 0 || len(w.world.Wallets) < 2 {
		return w.who()
	}
	for place := range 2 {
		c, _ := book.Find(w.world.Wallets[place].Book, state.Id(f))
		if n := len(c.Kept); n > 0 {
			who = int(c.Kept[n-1].Var.Turn+1) % 2
		}
	}
	return who
}

// turn is a move, or a final one.
func (w *writer) turn() {
	c := w.channel()
	verb, data, first, second := "move", "d", c[1], c[2]
	if w.below(8) == 0 {
		verb = "final"
	}
	if w.below(15) == 0 {
		data = []string{"e", rep('x', 256), rep('x', 257), "\xff"}[w.below(4)]
	}
	if w.below(15) == 0 {
		first, second = first+w.below(3), second+w.below(3)
	}
	w.add("%s %d %d %s %d %d", verb, w.mover(c[0]), c[0], data, first, second)
}

// next is mostly the next of what was sent, by its number.
func (w *writer) next(verb string, at *int, many int) {
	if w.below(8) == 0 || *at == many {
		w.add("%s %d", verb, w.below(many+2))
		return
	}
	w.add("%s %d", verb, *at)
	*at++
}

func (w *writer) hex() string {
	if w.below(3) == 0 {
		return []string{"60055f5260205ff3", "60055b", "5f5ffd", "60205ffd", "01", "600556", "5b5f56", "5f", "fe", "620fffff5ff3"}[w.below(10)]
	}
	out := ""
	for range 1 + w.below(9) {
		out += fmt.Sprintf("%02x", []int{w.below(256), 0x5f, 0x60, 0x01, 0x52, 0xf3}[w.below(6)])
	}
	if w.below(9) == 0 {
		out = strings.ToUpper(out[1:]) + "g"
	}
	return out
}

// ask is a line that asks what there is.
func (w *writer) ask() {
	switch w.below(5) {
	case 0:
		w.add("coins %d", w.who())
	case 1:
		w.add("held %d", w.seedOf())
	default:
		w.add("kept %d %d", w.who(), w.seedOf())
	}
}

// odd is a line of another kind, or of none.
func (w *writer) odd() {
	switch w.below(9) {
	case 0:
		w.add("run %s", w.hex())
	case 1:
		w.add("list %s", w.hex())
	case 2:
		w.add("hash %s", rep(byte(33+w.below(90)), 1+w.below(5)))
	case 3:
		w.add("# new %d", w.below(4))
	case 4:
		w.add("%s", rep(' ', w.below(3)))
	case 5:
		l := words()
		w.add("%s", strings.Replace(l[w.below(len(l))], " ", []string{"", "\t", " 0 ", " x "}[w.below(4)], 1))
	case 6:
		w.add("tick %d", []int{0, 1, 20, 200, 999999999999}[w.below(5)])
	case 7:
		w.add("arm %d %d", w.who(), w.below(1500))
	case 8:
		if w.below(8) == 0 {
			w.begin(w.below(5))
		}
	}
}

// begin makes a world, and what most lines need.
func (w *writer) begin(n int) {
	w.post, w.take = 0, 0
	w.add("new %d", n)
	for who := range 2 {
		w.add("mint %d 60", who)
		w.add("fee %d 30", who)
		for _, c := range channelsOf {
			w.add("open %d %d", who, c[0])
		}
	}
}

func (w *writer) line() {
	if !w.none && w.world.Wallets[0].Disk.Off && w.below(3) == 0 {
		w.add("crash 0 %d", w.below(1500))
		return
	}
	switch k := w.below(100); {
	case k < 20 || k < 54 && w.post == len(w.world.Posts):
		w.turn()
	case k < 54:
		w.next("post", &w.post, len(w.world.Posts))
	case k < 64:
		w.add("look %d", w.who())
	case k < 72:
		w.next("take", &w.take, len(w.world.Txs))
	case k < 85:
		w.ask()
	case k < 87:
		w.add("exit %d %d", w.who(), w.seedOf())
	case k < 89:
		w.add("%s %d %d", []string{"mint", "fee"}[w.below(2)], w.who(), w.below(40))
	case k < 91:
		w.add("open %d %d", w.who(), w.seedOf())
	case k < 93:
		w.add("crash %d %d", w.who(), w.below(1500))
	default:
		w.odd()
	}
}

// written is such a row of lines, and what each puts out.
func written(seed uint64, many int) ([]string, []string) {
	w := &writer{plain: plain{none: true}, seed: seed}
	for range w.below(4) {
		w.line()
	}
	w.begin(w.below(2) + 2)
	for range many {
		w.line()
	}
	return w.lines, w.outs
}

// sortOf is what kind of an answer one is: its words, without numbers but an error's.
func sortOf(put string) string {
	words := strings.Fields(put)
	switch {
	case strings.HasPrefix(put, "error"):
		return put
	case words[0] == "mine":
		return fmt.Sprintf("kept %d, best none %t", len(words)-5, words[len(words)-1] == "none")
	case len(words[0]) == 64:
		return "hash"
	case words[0][0] >= '0' && words[0][0] <= '9':
		return fmt.Sprintf("%d numbers, something %t", len(words), strings.Trim(put, "0 ") != "")
	case words[0] == "|":
		return "list"
	}
	return fmt.Sprintf("%s and %d", words[0], len(words)-1)
}

// P32.1, P32.2: mixed lines, held to the chapter's words in plain form.
func TestMixed(t *testing.T) {
	var lock sync.Mutex
	met := map[string]int{}
	t.Run("scripts", func(t *testing.T) {
		for part := range 8 {
			t.Run(fmt.Sprint(part), func(t *testing.T) {
				t.Parallel()
				for row := range 12 {
					lines, want := written(uint64(1000*part+row), 90)
					s := strings.Join(lines, "\n")
					if got := Play(s); got != strings.Join(want, "\n")+"\n" {
						t.Fatalf("script %d of %d:\n%s\nputs out\n%s\nwant\n%s", row, part, s, got, strings.Join(want, "\n"))
					}
					lock.Lock()
					for _, put := range want {
						met[sortOf(put)]++
					}
					lock.Unlock()
				}
			})
		}
	})
	for answer, least := range map[string]int{
		"ok and 0": 4000, "error 2": 20, "error 9": 300, "error 10": 80, "error 11": 500, "error 12": 200, "error 14": 20, "error 17": 50,
		"error 24": 80, "error 26": 300, "error 28": 50, "1 numbers, something true": 15, "2 numbers, something true": 150,
		"kept 0, best none true": 80, "kept 1, best none true": 80, "kept 2, best none false": 50, "kept 3, best none false": 100, "hash": 40, "list": 40,
	} {
		if met[answer] < least {
			t.Errorf("%s was met %d times", answer, met[answer])
		}
	}
}

// texts are what mixed texts are made of.
func texts() []string {
	l := []string{"0", "1", "3", "441", "00", "5f", "60", "d", "#", "\t", "\r", "\x00", "\xff", "é", "-", "ff", "F0", "123456789012", "1234567890123", rep(' ', 9)}
	for _, line := range words() {
		verb := strings.Split(line, " ")[0]
		l = append(l, verb)
		// A whole script takes long; those of a row that come together by chance are enough.
		if verb != "honest" {
			l = append(l, line)
		}
	}
	return l
}

// P32.1: texts of whatever it may be, held to the chapter's words in plain form.
func TestAnything(t *testing.T) {
	seed := uint64(99)
	parts := texts()
	for row := range 3000 {
		p, s, want := plain{none: true}, "", ""
		for range 1 + below(&seed, 120) {
			s += parts[below(&seed, len(parts))] + []string{" ", " ", "\n", "\n", "\n", "", "  ", "\n\n"}[below(&seed, 8)]
		}
		for _, line := range strings.Split(s, "\n") {
			if out, ok := p.put(line); ok {
				want += out + "\n"
			}
		}
		if got := Play(s); got != want {
			t.Fatalf("text %d: Play of %q\nis   %q\nwant %q", row, s, got, want)
		}
	}
}

// P32.1, 0.1: long texts, also such as are too long, and bytes of all kinds: each line that has words puts out something, or begins with #.
func TestLong(t *testing.T) {
	seed := uint64(7)
	for _, size := range []int{65535, 65536, 65537, 300000} {
		raw := make([]byte, size)
		for i := range raw {
			raw[i] = byte(mix(&seed))
			if below(&seed, 4) == 0 {
				raw[i] = " \n#"[below(&seed, 3)]
			}
		}
		many := 0
		for _, line := range strings.Split(string(raw), "\n") {
			if blank := strings.TrimLeft(line, " "); blank != "" && blank[0] != '#' {
				many++
			}
		}
		wantOut(t, string(raw), times("error 28\n", many))
		wantOut(t, rep('\n', size), "")
		wantOut(t, rep(' ', size), "")
		wantOut(t, rep('#', size), "")
		wantOut(t, rep('x', size), "error 28\n")
		wantOut(t, times("x ", size/2), "error 28\n")
		wantOut(t, times("x\n", size/2), times("error 28\n", size/2))
		wantOut(t, "run "+rep('0', size/2*2), "done\n")
		wantOut(t, "new 1\n"+times("coins 0\n", size/8), "ok\n"+times("0 0\n", size/8))
		wantOut(t, "new 1\nopen 0 3\nmove 0 3 "+rep('d', size)+" 1 1\nkept 0 3", "ok\nok\nerror 2\nmine 0 kept best none\n")
	}
}
