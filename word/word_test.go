package word

import (
	"encoding/hex"
	"fmt"
	"math/big"
	"regexp"
	"strings"
	"testing"

	"truce/api"
	"truce/num"
)

const top = 1<<64 - 1

var all = api.U{top, top, top, top}

// mix is a fixed row of numbers that look mixed: the tests must go alike each time.
func mix(seed *uint64) uint64 {
	*seed += 0x9e3779b97f4a7c15
	z := *seed
	z = (z ^ z>>30) * 0xbf58476d1ce4e5b9
	z = (z ^ z>>27) * 0x94d049bb133111eb
	return z ^ z>>31
}

func below(seed *uint64, n int) int { return int(mix(seed) % uint64(n)) }

func n(u uint64) api.Term          { return api.Term{Num: num.Of(u)} }
func t(s string) api.Term          { return api.Term{Kind: api.TmText, Text: s} }
func list(l ...api.Term) api.Term  { return api.Term{Kind: api.TmList, List: l} }
func row(l ...api.Term) []api.Term { return l }
func text(n int) string            { return strings.Repeat("\xa7", n) }
func times(n int, v api.Term) []api.Term {
	var l []api.Term
	for range n {
		l = append(l, v)
	}
	return l
}

// word is a number's word, by the library.
func word(n int) string {
	raw, err := hex.DecodeString(fmt.Sprintf("%064x", n))
	if err != nil {
		panic(err)
	}
	return string(raw)
}

// words puts together what is written as hex, with spaces between.
func words(s string) string {
	raw, err := hex.DecodeString(strings.Join(strings.Fields(s), ""))
	if err != nil {
		panic(err)
	}
	return string(raw)
}

// plain is Encode by the chapter's words: words and tails apart, and put together at the end.
func plain(l []api.Term) string {
	heads, tails := "", ""
	for _, v := range l {
		tail := ""
		switch v.Kind {
		case api.TmNum:
			b := new(big.Int)
			for i := range 4 {
				b.Or(b, new(big.Int).Lsh(new(big.Int).SetUint64(v.Num[i]), uint(64*i)))
			}
			heads += string(b.FillBytes(make([]byte, 32)))
			continue
		case api.TmText:
			tail = word(len(v.Text)) + v.Text
			for len(tail)%32 != 0 {
				tail += "\x00"
			}
		case api.TmList:
			tail = word(len(v.List)) + plain(v.List)
		default:
			heads += word(0)
			continue
		}
		heads += word(32*len(l) + len(tails))
		tails += tail
	}
	return heads + tails
}

// isForm is by taking closed brackets away from the inside on, each becoming one term.
func isForm(form string) bool {
	if !regexp.MustCompile(`^[nt()\[\]]*$`).MatchString(form) {
		return false
	}
	deep, deepest := 0, 0
	for _, c := range form {
		if c == '(' || c == '[' {
			deep++
		}
		if c == ')' || c == ']' {
			deep--
		}
		deepest = max(deepest, deep)
	}
	closed := regexp.MustCompile(`\([nt]*\)|\[[nt]\]`)
	for closed.MatchString(form) {
		form = closed.ReplaceAllString(form, "n")
	}
	return deepest <= 8 && !strings.ContainsAny(form, "()[]")
}

// parts are a form's terms, each as a form.
func parts(form string) []string {
	var out []string
	deep, from := 0, 0
	for i, c := range form {
		if c == '(' || c == '[' {
			deep++
		}
		if c == ')' || c == ']' {
			deep--
		}
		if deep == 0 {
			out, from = append(out, form[from:i+1]), i+1
		}
	}
	return out
}

// isOf is Fits by the chapter's words, of a form that is one.
func isOf(form string, l []api.Term) bool {
	p := parts(form)
	if len(p) != len(l) {
		return false
	}
	for i, v := range l {
		inner := p[i][1:]
		if inner != "" {
			inner = inner[:len(inner)-1]
		}
		ok := false
		switch p[i][0] {
		case 'n':
			ok = v.Kind == api.TmNum && v.Text == "" && len(v.List) == 0
		case 't':
			ok = v.Kind == api.TmText && v.Num == api.U{} && len(v.List) == 0 && len(v.Text) <= 16384
		case '(':
			ok = v.Kind == api.TmList && v.Num == api.U{} && v.Text == "" && len(v.List) <= 64 && isOf(inner, v.List)
		case '[':
			ok = v.Kind == api.TmList && v.Num == api.U{} && v.Text == "" && len(v.List) <= 64 && isOf(strings.Repeat(inner, len(v.List)), v.List)
		}
		if !ok {
			return false
		}
	}
	return true
}

// mixedForm is some form of at most so many terms a row.
func mixedForm(seed *uint64, most, deep int) string {
	out := ""
	for range below(seed, most+1) {
		out += mixedPart(seed, most, deep)
	}
	return out
}

func mixedPart(seed *uint64, most, deep int) string {
	kinds := 4
	if deep == 0 {
		kinds = 2
	}
	switch below(seed, kinds) {
	case 0:
		return "n"
	case 1:
		return "t"
	case 2:
		return "(" + mixedForm(seed, most, deep-1) + ")"
	}
	return "[" + mixedPart(seed, most, deep-1) + "]"
}

// mixedTerms are some terms of a form.
func mixedTerms(seed *uint64, form string) []api.Term {
	var out []api.Term
	for _, p := range parts(form) {
		switch p[0] {
		case 'n':
			u := api.U{}
			for i := range below(seed, 5) {
				u[i] = mix(seed)
			}
			out = append(out, api.Term{Num: u})
		case 't':
			raw := make([]byte, below(seed, 70))
			for i := range raw {
				raw[i] = byte(mix(seed)) & byte(mix(seed)>>8)
			}
			out = append(out, t(string(raw)))
		case '(':
			out = append(out, list(mixedTerms(seed, p[1:len(p)-1])...))
		case '[':
			out = append(out, list(mixedTerms(seed, strings.Repeat(p[1:len(p)-1], below(seed, 4)))...))
		}
	}
	return out
}

// asks is Decode, held against what must hold of every answer of it.
func asks(tc *testing.T, form, s string) ([]api.Term, api.Errno) {
	tc.Helper()
	l, err := Decode(form, s)
	switch {
	case err != api.OK && (err != api.ErrForm || l != nil):
		tc.Fatalf("Decode(%q, %x) is %v, %v", form, s, l, err)
	case err == api.OK && (!isForm(form) || !isOf(form, l) || plain(l) != s):
		tc.Fatalf("Decode(%q, %x) is %v, which are not that", form, s, l)
	}
	return l, err
}

// P9.1, P9.3: the chapter's example.
func TestExample(tc *testing.T) {
	l := row(n(7), t("ab"))
	s := word(7) + word(64) + word(2) + "ab" + strings.Repeat("\x00", 30)
	if got := Encode(l); got != s {
		tc.Errorf("Encode is %x", got)
	}
	if got, err := Decode("nt", s); err != api.OK || !Same(got, l) {
		tc.Errorf("Decode of nt is %v, %v", got, err)
	}
	if got, err := Decode("nn", s); err != api.ErrForm || got != nil {
		tc.Errorf("Decode of nn is %v, %v", got, err)
	}
}

// P9.1: two rows of words that another program's handbook writes out.
func TestEncodeKnown(tc *testing.T) {
	pad := strings.Repeat("0", 56)
	first := words(pad + "00000123" + pad + "00000080" +
		"3132333435363738393000000000000000000000000000000000000000000000" + pad + "000000e0" +
		pad + "00000002" + pad + "00000456" + pad + "00000789" +
		pad + "0000000d" + "48656c6c6f2c20776f726c642100000000000000000000000000000000000000")
	ten, _ := num.Read("1234567890" + strings.Repeat("\x00", 22))
	l := row(n(0x123), list(n(0x456), n(0x789)), api.Term{Num: ten}, t("Hello, world!"))
	if got := Encode(l); got != first {
		tc.Errorf("Encode is %x", got)
	}
	second := words(pad + "00000040" + pad + "00000140" +
		pad + "00000002" + pad + "00000040" + pad + "000000a0" +
		pad + "00000002" + pad + "00000001" + pad + "00000002" +
		pad + "00000001" + pad + "00000003" +
		pad + "00000003" + pad + "00000060" + pad + "000000a0" + pad + "000000e0" +
		pad + "00000003" + "6f6e65" + strings.Repeat("0", 58) +
		pad + "00000003" + "74776f" + strings.Repeat("0", 58) +
		pad + "00000005" + "7468726565" + strings.Repeat("0", 54))
	m := row(list(list(n(1), n(2)), list(n(3))), list(t("one"), t("two"), t("three")))
	if got := Encode(m); got != second {
		tc.Errorf("Encode is %x", got)
	}
	for form, want := range map[string][]api.Term{"n[n]nt": l, "[[n]][t]": m, "((nn)(n))(ttt)": m} {
		if got, err := asks(tc, form, Encode(want)); err != api.OK || !Same(got, want) {
			tc.Errorf("Decode of %s is %v, %v", form, got, err)
		}
	}
}

// edges are rows of which most are of no form.
func edges() [][]api.Term {
	full := api.Term{Kind: api.TmNum, Num: all, Text: "ab", List: row(n(1))}
	out := [][]api.Term{nil, {}, row(n(0)), row(n(1), n(2)), row(api.Term{Num: all}), row(list()), row(list(list()), list()),
		row(list(n(1), t("x"), list(t("y"), n(2))), n(3), t("z")), times(64, n(5)), times(65, t("a")), times(1000, n(6)),
		row(list(times(64, n(1))...)), row(list(times(65, n(1))...)), row(list(times(300, list())...), t("end"))}
	for _, long := range []int{0, 1, 31, 32, 33, 63, 64, 65, 255, 256, 257, 16383, 16384, 16385, 70000} {
		out = append(out, row(t(text(long))), row(n(1), t(text(long)), t("b"), list(t(text(long)))))
	}
	for kind := -2; kind < 6; kind++ {
		full.Kind = kind
		out = append(out, row(full), row(t("a"), full, t("b")), row(list(full), full))
	}
	for _, kind := range []int{1 << 62, -1 << 63, 256, 257, 258} {
		out = append(out, row(api.Term{Kind: kind, Num: all, Text: "ab", List: row(t("c"))}, t("d")))
	}
	deep := n(9)
	for range 12 {
		deep = list(deep, t("d"))
		out = append(out, row(deep), row(t("a"), deep))
	}
	return out
}

// P9.1, P9.5: what a kind does not use is not told; other kinds are as 0; no bound of a form is asked.
func TestEncode(tc *testing.T) {
	for _, l := range edges() {
		got := Encode(l)
		if got != plain(l) {
			tc.Errorf("Encode of %.60v.. is %.300x..", l, got)
		}
		if len(got)%32 != 0 {
			tc.Errorf("Encode of %.60v.. has %d bytes", l, len(got))
		}
	}
	other := api.Term{Kind: 3, Num: all, Text: "ab", List: row(n(1))}
	if got := Encode(row(other, t("x"))); got != word(0)+word(64)+word(1)+"x"+strings.Repeat("\x00", 31) {
		tc.Errorf("Encode of another kind is %x", got)
	}
	if Encode(nil) != "" || Encode(row(list())) != word(32)+word(0) || Encode(row(t(""))) != word(32)+word(0) {
		tc.Error("Encode of what is empty")
	}
}

// P9.1: field by field, whatever the kind; an empty list is none.
func TestSame(tc *testing.T) {
	rows := edges()[1:]
	for _, kind := range []int{0, 1, 2, 3} {
		for _, v := range []api.Term{{}, {Num: api.U{1}}, {Num: api.U{0, 0, 0, 1}}, {Text: "a"}, {Text: "a\x00"}, {Text: "b"},
			{List: row(n(0))}, {List: row(n(1))}, {List: row(n(0), n(0))}, {List: row(list(n(1)))}, {List: row(t(""))}} {
			v.Kind = kind
			rows = append(rows, row(v), row(v, n(2)), row(n(2), v), row(list(v)))
		}
	}
	var told []string
	for _, l := range rows {
		told = append(told, fmt.Sprintf("%#v", bared(l)))
	}
	for i, a := range rows {
		for k, b := range rows {
			want := told[i] == told[k]
			if Same(a, b) != want {
				tc.Fatalf("Same of %.200v and %.200v is %v", a, b, !want)
			}
		}
	}
	if !Same(nil, []api.Term{}) || !Same(row(list()), row(api.Term{Kind: api.TmList, List: []api.Term{}})) {
		tc.Error("an empty list is none")
	}
}

// bared is a row whose empty lists are all nil.
func bared(l []api.Term) []api.Term {
	var out []api.Term
	for _, v := range l {
		v.List = bared(v.List)
		out = append(out, v)
	}
	return out
}

// termsOf are the fewest terms of a form.
func termsOf(form string) []api.Term {
	var out []api.Term
	for _, p := range parts(form) {
		switch p[0] {
		case 'n':
			out = append(out, n(0))
		case 't':
			out = append(out, t(""))
		case '(':
			out = append(out, list(termsOf(p[1:len(p)-1])...))
		case '[':
			out = append(out, list())
		}
	}
	return out
}

// holdForm asks of a text whether it is a form, by its fewest terms.
func holdForm(tc *testing.T, form string) {
	tc.Helper()
	is := isForm(form)
	var l []api.Term
	if is {
		l = termsOf(form)
	}
	s := plain(l)
	if Fits(form, l) != is {
		tc.Fatalf("Fits(%q, %v) is %v", form, l, !is)
	}
	got, err := asks(tc, form, s)
	if (err == api.OK) != is || !Same(got, l) {
		tc.Fatalf("Decode(%q, %x) is %v, %v", form, s, got, err)
	}
}

// P9.2, P9.3: all short texts of the marks and of one that is none.
func TestForms(tc *testing.T) {
	short := []string{""}
	for len(short[0]) < 6 {
		var longer []string
		for _, form := range short {
			holdForm(tc, form)
			for _, c := range "nt()[]x" {
				longer = append(longer, form+string(c))
			}
		}
		short = longer
	}
	for c := range 256 {
		holdForm(tc, string([]byte{byte(c)}))
		holdForm(tc, "n"+string([]byte{byte(c)}))
		holdForm(tc, "[n"+string([]byte{byte(c)}))
	}
}

// P9.2, P9.3: at most 8 brackets within one another, of either kind; beside one another as many as one likes.
func TestDeepForms(tc *testing.T) {
	for _, deep := range []int{1, 7, 8, 9, 10, 100} {
		for _, pair := range []string{"()", "[]"} {
			form := strings.Repeat(pair[:1], deep) + "n" + strings.Repeat(pair[1:], deep)
			holdForm(tc, form)
			holdForm(tc, form+form)
			holdForm(tc, "n"+form+"t")
			holdForm(tc, form[1:])
			holdForm(tc, form[:len(form)-1])
			v := n(1)
			for range deep {
				v = list(v)
			}
			if Fits(form, row(v)) != (deep <= 8) {
				tc.Errorf("Fits of %s and what is so deep", form)
			}
			if got, err := asks(tc, form, plain(row(v))); (err == api.OK) != (deep <= 8) || deep <= 8 && !Same(got, row(v)) {
				tc.Errorf("Decode of %s is %v, %v", form, got, err)
			}
		}
	}
	holdForm(tc, strings.Repeat("([", 4)+"n"+strings.Repeat("])", 4))
	holdForm(tc, strings.Repeat("([", 4)+"()"+strings.Repeat("])", 4))
	holdForm(tc, strings.Repeat("[(", 4)+"n[n]"+strings.Repeat(")]", 4))
	holdForm(tc, strings.Repeat("([n]())", 50))
}

// P9.2: terms one by one, of their kinds, with nothing that their kinds do not use, within the bounds.
func TestFits(tc *testing.T) {
	extra := func(v api.Term, change func(*api.Term)) []api.Term {
		change(&v)
		return row(v)
	}
	number := func(v *api.Term) { v.Num = api.U{0, 0, 0, 1} }
	words := func(v *api.Term) { v.Text = "\x00" }
	terms := func(v *api.Term) { v.List = row(api.Term{}) }
	none := func(v *api.Term) { v.List = []api.Term{} }
	kind := func(k int) func(*api.Term) { return func(v *api.Term) { v.Kind = k } }
	for i, c := range []struct {
		form string
		l    []api.Term
		want bool
	}{
		{"", nil, true}, {"", []api.Term{}, true}, {"", row(n(0)), false}, {"n", nil, false}, {"n", row(n(0), n(0)), false},
		{"n", row(api.Term{Num: all}), true}, {"n", row(t("")), false}, {"n", row(list()), false},
		{"t", row(t("")), true}, {"t", row(n(0)), false}, {"t", row(list()), false}, {"t", row(t(text(40))), true},
		{"()", row(list()), true}, {"()", row(list(n(0))), false}, {"()", row(n(0)), false}, {"()", row(t("")), false}, {"()", nil, false},
		{"(n)", row(list(n(1))), true}, {"(n)", row(list()), false}, {"(n)", row(list(n(1), n(1))), false}, {"(n)", row(list(t(""))), false}, {"(n)", row(n(1)), false},
		{"(nt)", row(list(n(1), t("a"))), true}, {"(nt)", row(list(t("a"), n(1))), false},
		{"[n]", row(list()), true}, {"[n]", row(list(times(63, n(1))...)), true}, {"[n]", row(list(times(64, n(1))...)), true}, {"[n]", row(list(times(65, n(1))...)), false},
		{"[n]", row(n(1)), false}, {"[n]", row(t("")), false}, {"[n]", row(list(n(1), t(""))), false}, {"[n]", row(list(t(""), n(1))), false}, {"[n]", row(list(list())), false},
		{"[(nt)]", row(list(list(n(1), t("a")), list(n(2), t("b")))), true}, {"[(nt)]", row(list(list(n(1), t("a")), list(n(2)))), false},
		{"[[t]]", row(list(list(), list(t("a"), t("b")))), true}, {"[[t]]", row(list(list(), list(n(1)))), false},
		{"(" + strings.Repeat("n", 64) + ")", row(list(times(64, n(1))...)), true}, {"(" + strings.Repeat("n", 65) + ")", row(list(times(65, n(1))...)), false},
		{"[(" + strings.Repeat("n", 65) + ")]", row(list()), true}, {"[(" + strings.Repeat("n", 65) + ")]", row(list(list(times(65, n(1))...))), false},
		{strings.Repeat("n", 65), times(65, n(1)), true}, {strings.Repeat("n", 1000), times(1000, n(1)), true}, {strings.Repeat("n", 1000), times(999, n(1)), false},
		{"t", row(t(text(16384))), true}, {"t", row(t(text(16385))), false}, {"([t])", row(list(list(t("a"), t(text(16385))))), false},
		{"n", extra(n(1), words), false}, {"n", extra(n(1), terms), false}, {"n", extra(n(1), none), true},
		{"t", extra(t("a"), number), false}, {"t", extra(t("a"), terms), false}, {"t", extra(t("a"), none), true},
		{"(n)", extra(list(n(1)), number), false}, {"(n)", extra(list(n(1)), words), false}, {"()", extra(list(), none), true}, {"[n]", extra(list(), none), true},
		{"[n]", extra(list(n(1)), number), false}, {"[n]", extra(list(n(1)), words), false}, {"[n]", row(list(extra(n(1), words)...)), false},
		{"n", extra(api.Term{}, kind(3)), false}, {"n", extra(api.Term{}, kind(-1)), false}, {"t", extra(api.Term{}, kind(257)), false}, {"()", extra(api.Term{}, kind(3)), false}, {"[n]", extra(api.Term{}, kind(258)), false},
		{"x", row(n(0)), false}, {"n ", row(n(0)), false}, {"n)", row(n(0)), false}, {"(n", row(list(n(0))), false}, {"(n]", row(list(n(0))), false}, {"[n)", row(list(n(0))), false},
		{"[nn]", row(list(n(0), n(0))), false}, {"[nn]", row(list()), false}, {"[]", row(list()), false}, {"[n][]", row(list(), list()), false}, {"N", row(n(0)), false},
	} {
		if got := Fits(c.form, c.l); got != c.want {
			tc.Errorf("%d: Fits(%.20q, %.40v) is %v", i, c.form, c.l, got)
		}
		if isForm(c.form) && isOf(c.form, c.l) != c.want {
			tc.Errorf("%d: the test's own Fits(%.20q, %.40v) is not %v", i, c.form, c.l, c.want)
		}
	}
}

// P9.2: mixed forms held against one another's terms.
func TestFitsMixed(tc *testing.T) {
	seed := uint64(2)
	yes := 0
	for range 400 {
		form := mixedForm(&seed, 2, 3)
		other := mixedForm(&seed, 2, 2)
		for _, of := range []string{form, other} {
			l := mixedTerms(&seed, of)
			want := isOf(form, l)
			if Fits(form, l) != want {
				tc.Fatalf("Fits(%q, %v) is %v", form, l, !want)
			}
			if want && of == other {
				yes++
			}
		}
	}
	if yes == 0 {
		tc.Error("no terms of another form were of one")
	}
}

// P9.3: bytes that are terms of a form, and those beside them.
func TestDecode(tc *testing.T) {
	pad := func(n int) string { return strings.Repeat("\x00", n) }
	for i, c := range []struct {
		form, s string
		want    []api.Term
		err     api.Errno
	}{
		{"", "", nil, api.OK}, {"", word(0), nil, api.ErrForm}, {"", "\x00", nil, api.ErrForm}, {"n", "", nil, api.ErrForm},
		{"n", word(7), row(n(7)), api.OK}, {"n", word(7)[1:], nil, api.ErrForm}, {"n", word(7) + "\x00", nil, api.ErrForm}, {"n", word(7) + word(0), nil, api.ErrForm},
		{"n", strings.Repeat("\xff", 32), row(api.Term{Num: all}), api.OK},
		{"t", word(32) + word(0), row(t("")), api.OK}, {"t", word(32) + word(0) + word(0), nil, api.ErrForm}, {"t", word(32), nil, api.ErrForm}, {"t", word(0) + word(0), nil, api.ErrForm}, {"t", word(64) + word(0) + word(0), nil, api.ErrForm},
		{"t", word(32) + word(1) + "a" + pad(31), row(t("a")), api.OK}, {"t", word(32) + word(1) + "\x00" + pad(31), row(t("\x00")), api.OK},
		{"t", word(32) + word(1) + "a" + pad(30), nil, api.ErrForm}, {"t", word(32) + word(1) + "a", nil, api.ErrForm}, {"t", word(32) + word(1) + "a" + pad(30) + "b", nil, api.ErrForm}, {"t", word(32) + word(1) + "ab" + pad(30), nil, api.ErrForm},
		{"t", word(32) + word(32) + text(32), row(t(text(32))), api.OK}, {"t", word(32) + word(32) + text(31), nil, api.ErrForm}, {"t", word(32) + word(32) + text(32) + word(0), nil, api.ErrForm}, {"t", word(32) + word(33) + text(33), nil, api.ErrForm},
		{"[n]", word(32) + word(0), row(list()), api.OK}, {"[n]", word(32) + word(1), nil, api.ErrForm}, {"[n]", word(32) + word(1) + word(5), row(list(n(5))), api.OK}, {"[n]", word(32) + word(0) + word(5), nil, api.ErrForm},
		{"()", word(32) + word(0), row(list()), api.OK}, {"()", word(32) + word(1) + word(5), nil, api.ErrForm}, {"()", word(0), nil, api.ErrForm}, {"()", "", nil, api.ErrForm},
		{"(n)", word(32) + word(1) + word(5), row(list(n(5))), api.OK}, {"(n)", word(5), nil, api.ErrForm}, {"(n)", word(32) + word(0) + word(5), nil, api.ErrForm}, {"(n)", word(32) + word(2) + word(5) + word(6), nil, api.ErrForm}, {"(nn)", word(32) + word(1) + word(5) + word(6), nil, api.ErrForm}, {"(n)", word(32) + word(0), nil, api.ErrForm},
		{"nn", word(64) + word(0), row(n(64), n(0)), api.OK},
		{"tt", word(64) + word(96) + word(0) + word(0), row(t(""), t("")), api.OK}, {"tt", word(96) + word(64) + word(0) + word(0), nil, api.ErrForm}, {"tt", word(64) + word(64) + word(0), nil, api.ErrForm}, {"tt", word(64) + word(64) + word(0) + word(0), nil, api.ErrForm}, {"tt", word(64) + word(128) + word(0) + word(0) + word(0), nil, api.ErrForm},
		{"(t)", word(32) + word(1) + word(32) + word(0), row(list(t(""))), api.OK}, {"(t)", word(32) + word(1) + word(64) + word(0), nil, api.ErrForm}, {"(t)", word(32) + word(1) + word(96) + word(0), nil, api.ErrForm},
		{"x", word(7), nil, api.ErrForm}, {"n]", word(7), nil, api.ErrForm}, {"[nn]", word(32) + word(2) + word(7) + word(7), nil, api.ErrForm}, {"[nn]", word(32) + word(0), nil, api.ErrForm}, {"[]", word(32) + word(0), nil, api.ErrForm},
	} {
		got, err := asks(tc, c.form, c.s)
		if err != c.err || !Same(got, c.want) {
			tc.Errorf("%d: Decode(%q, %x) is %v, %v", i, c.form, c.s, got, err)
		}
	}
}

// P9.3: the bounds of lists and texts, and counts far above all that there is.
func TestDecodeBounds(tc *testing.T) {
	for _, many := range []int{0, 1, 63, 64, 65, 66, 300} {
		for _, form := range []string{"[n]", "(" + strings.Repeat("n", many) + ")"} {
			want := row(list(times(many, n(3))...))
			got, err := asks(tc, form, plain(want))
			if (err == api.OK) != (many <= 64) || many <= 64 && !Same(got, want) {
				tc.Errorf("Decode of a list of %d is %v", many, err)
			}
		}
		want := times(many, n(3))
		if got, err := asks(tc, strings.Repeat("n", many), plain(want)); err != api.OK || !Same(got, want) {
			tc.Errorf("Decode of a row of %d is %v", many, err)
		}
	}
	for _, long := range []int{0, 16383, 16384, 16385, 16416, 40000} {
		for _, form := range []string{"t", "tn", "[t]"} {
			want := row(t(text(long)))
			if form == "tn" {
				want = append(want, n(1))
			}
			if form == "[t]" {
				want = row(list(want...))
			}
			got, err := asks(tc, form, plain(want))
			if (err == api.OK) != (long <= 16384) || long <= 16384 && !Same(got, want) {
				tc.Errorf("Decode of a text of %d is %v", long, err)
			}
		}
	}
	// A count of which only low bits would be looked at.
	for _, u := range []api.U{all, {0, 1}, {1, 1}, {0, 0, 1}, {0, 0, 0, 1}, {1, 0, 0, 1 << 63}, {1 << 63}, {1 << 32}, {1<<32 + 1}, {1<<63 + 1}, {top}} {
		for _, form := range []string{"t", "[n]", "(n)", "()"} {
			for _, more := range []string{"", word(0), word(5)} {
				if _, err := asks(tc, form, word(32)+num.Bytes(u)+more); err != api.ErrForm {
					tc.Errorf("Decode of %s with a count of %v is %v", form, u, err)
				}
			}
		}
		far, _ := num.Add(u, num.Of(32))
		for _, form := range []string{"t", "[n]"} {
			if _, err := asks(tc, form, num.Bytes(far)+word(0)); err != api.ErrForm {
				tc.Errorf("Decode of %s with %v ahead is %v", form, far, err)
			}
		}
	}
}

// P9.3: whatever is changed, cut off or put in, what is told is what the bytes are.
func TestDecodeChanged(tc *testing.T) {
	seed := uint64(3)
	for form, l := range map[string][]api.Term{
		"nt":       row(n(7), t("ab")),
		"[(nt)]t":  row(list(list(n(1), t("a")), list(n(2), t(text(33)))), t("end")),
		"([n]())n": row(list(list(n(1), n(2)), list()), n(3)),
		"[[t]]":    row(list(list(), list(t(""), t("a")))),
	} {
		s := plain(l)
		for i := range len(s) {
			for bit := range 8 {
				raw := []byte(s)
				raw[i] ^= 1 << bit
				if got, err := asks(tc, form, string(raw)); err == api.OK && Same(got, l) {
					tc.Fatalf("byte %d of %q changed: still the same", i, form)
				}
			}
			if _, err := asks(tc, form, s[:i]); err != api.ErrForm {
				tc.Fatalf("%q cut at %d is %v", form, i, err)
			}
			asks(tc, form, s[i:])
			asks(tc, form, s[:i]+"\x00"+s[i:])
			asks(tc, form, s[:i]+s[i+1:])
			asks(tc, form, s[:i]+word(below(&seed, 200))+s[min(len(s), i+32):])
		}
		for _, more := range []string{"\x00", word(0), s} {
			if _, err := asks(tc, form, s+more); err != api.ErrForm {
				tc.Fatalf("%q with more behind is %v", form, err)
			}
		}
	}
}

// P9.3: small words in a row, all of them, are what they are of each form, and nothing else.
func TestDecodeRows(tc *testing.T) {
	marks := []int{0, 1, 2, 32, 64, 96}
	forms := []string{"n", "t", "nn", "nt", "tn", "tt", "()", "(n)", "[n]", "[t]", "(t)", "[[n]]", "n()", "()()", "[()]", "(())", "[n]t"}
	met := map[string]int{}
	for _, s := range rowsOf(marks, 4) {
		for _, form := range forms {
			_, err := asks(tc, form, s)
			want := answers(form, s)
			if (err == api.OK) != want {
				tc.Fatalf("Decode(%q, %x) is %v", form, s, err)
			}
			if want {
				met[form]++
			}
		}
	}
	if len(met) != len(forms) {
		tc.Errorf("only these forms were met: %v", met)
	}
}

// rowsOf are all rows of at most so many of these words.
func rowsOf(marks []int, most int) []string {
	out := []string{""}
	last := out
	for range most {
		var longer []string
		for _, s := range last {
			for _, m := range marks {
				longer = append(longer, s+word(m))
			}
		}
		out, last = append(out, longer...), longer
	}
	return out
}

// answers tells whether words are terms of a form, by reading what the words say, wherever, and writing it once more.
func answers(form, s string) bool {
	l, ok := loose(parts(form), s)
	return ok && plain(l) == s
}

// loose reads terms at whatever places the words name.
func loose(want []string, s string) ([]api.Term, bool) {
	var out []api.Term
	for i, p := range want {
		head, ok := small(s, i*32)
		if !ok {
			return nil, false
		}
		if p == "n" {
			out = append(out, n(uint64(head)))
			continue
		}
		many, ok := small(s, head)
		if !ok || many > len(s) {
			return nil, false
		}
		if p == "t" {
			if head+32+many > len(s) {
				return nil, false
			}
			out = append(out, t(s[head+32:head+32+many]))
			continue
		}
		inner := parts(p[1 : len(p)-1])
		if p[0] == '[' {
			inner = parts(strings.Repeat(p[1:len(p)-1], many))
		}
		if many != len(inner) {
			return nil, false
		}
		l, ok := loose(inner, s[head+32:])
		if !ok {
			return nil, false
		}
		out = append(out, list(l...))
	}
	return out, true
}

// small is the number of the word at a place, if there is one.
func small(s string, at int) (int, bool) {
	if at+32 > len(s) {
		return 0, false
	}
	return int(new(big.Int).SetBytes([]byte(s[at : at+32])).Int64()), true
}

// P9.4, P9.5: there and back, and unlike terms of one form have unlike bytes.
func TestThereAndBack(tc *testing.T) {
	seed := uint64(4)
	for range 600 {
		form := mixedForm(&seed, 4, 4)
		seen := map[string][]api.Term{}
		for range 6 {
			l := mixedTerms(&seed, form)
			s := Encode(l)
			if s != plain(l) || len(s)%32 != 0 {
				tc.Fatalf("Encode of %v is %x", l, s)
			}
			got, err := asks(tc, form, s)
			if err != api.OK || !Same(got, l) || !Fits(form, got) {
				tc.Fatalf("Decode(%q, Encode(%v)) is %v, %v", form, l, got, err)
			}
			if before, there := seen[s]; there && !Same(before, l) {
				tc.Fatalf("%v and %v have the same bytes", before, l)
			}
			seen[s] = l
		}
	}
}

// P9.4: of terms at the edges.
func TestEdgesBack(tc *testing.T) {
	met := 0
	for _, form := range []string{"", "n", "nn", "t", "[n]", "[[n]]", "[[n]][n]", "ntt[t]", "()", strings.Repeat("n", 64), strings.Repeat("n", 1000), "((nt)t)", "t((nt)t)"} {
		for _, l := range edges() {
			fits := isOf(form, l)
			if Fits(form, l) != fits {
				tc.Errorf("Fits(%.20q, %.60v) is %v", form, l, !fits)
			}
			got, err := asks(tc, form, Encode(l))
			if fits {
				met++
				if err != api.OK || !Same(got, l) {
					tc.Errorf("Decode(%.20q, Encode(%.60v)) is %.60v, %v", form, l, got, err)
				}
			}
		}
	}
	if met < 25 {
		tc.Errorf("only %d rows were of a form", met)
	}
}

// 0.5: arguments stay, and answers share nothing.
func TestStays(tc *testing.T) {
	l := row(n(7), t("ab"), list(list(n(1), t("c")), list(n(2), t("d"))))
	before := fmt.Sprintf("%#v", l)
	form := "nt[(nt)]"
	s := Encode(l)
	if !Fits(form, l) || !Same(l, l) {
		tc.Fatal("the terms are of no form")
	}
	first, _ := Decode(form, s)
	second, _ := Decode(form, s)
	first[2].List[0].List[1].Text = "x"
	first[2].List[1] = n(5)
	first = append(first[:1], n(9))
	if fmt.Sprintf("%#v", second) != before || fmt.Sprintf("%#v", l) != before {
		tc.Error("an answer's change is seen elsewhere")
	}
	if Encode(l) != s {
		tc.Error("Encode is not the same twice")
	}
	// Lists of one answer share none, either, though there is one shape for all of them.
	second[2].List[0].List = append(second[2].List[0].List, n(8))
	if !Same(second[2].List[1].List, row(n(2), t("d"))) {
		tc.Error("two lists of an answer share memory")
	}
}

// 0.7: an empty list is none.
func TestEmptyIsNone(tc *testing.T) {
	got, err := Decode("[n]()", plain(row(list(), list())))
	if err != api.OK || len(got) != 2 || got[0].List != nil || got[1].List != nil {
		tc.Errorf("Decode is %#v, %v", got, err)
	}
	if got, err := Decode("", ""); err != api.OK || got != nil {
		tc.Errorf("Decode of nothing is %#v, %v", got, err)
	}
}

// 0.1: calls end, and none panics, far outside of what is asked.
func TestFarOutside(tc *testing.T) {
	const deep = 1 << 16
	a, b := n(1), n(1)
	for range deep {
		a, b = list(a), list(b)
	}
	if !Same(row(a), row(b)) || Same(row(a), row(a.List...)) {
		tc.Error("Same of what is deep")
	}
	if got := Encode(row(a)); len(got) != 32*(2*deep+1) {
		tc.Errorf("Encode of what is deep has %d bytes", len(got))
	}
	for _, form := range []string{"n", "[n]", "[[[[[[[[n]]]]]]]]", "((((((((n))))))))", strings.Repeat("(", deep), strings.Repeat("[", deep) + "n" + strings.Repeat("]", deep),
		strings.Repeat(")", deep), strings.Repeat("n", deep), strings.Repeat("[n]", deep), strings.Repeat("\xff", 40)} {
		if Fits(form, row(a)) {
			tc.Errorf("Fits(%.20q..) of what is deep", form)
		}
		if _, err := asks(tc, form, text(32*20)); err != api.ErrForm {
			tc.Errorf("Decode(%.20q..) is %v", form, err)
		}
	}
	seed := uint64(5)
	for range 3000 {
		raw := make([]byte, below(&seed, 12))
		for i := range raw {
			raw[i] = "nt()[]nt()[]\x00x"[below(&seed, 14)]
		}
		holdForm(tc, string(raw))
		s := ""
		for range below(&seed, 8) {
			s += word(below(&seed, 5) * below(&seed, 40))
		}
		asks(tc, string(raw), s[min(len(s), below(&seed, 3)):])
	}
}

// What is no reader's is no answer: it goes on, and is not told as a wrong text.
func TestCaught(tc *testing.T) {
	if caught(func() {}) != api.OK || caught(func() { ask(true) }) != api.OK || caught(func() { ask(false) }) != api.ErrForm {
		tc.Error("caught of what readers throw")
	}
	defer func() {
		if what := recover(); what != "other" {
			tc.Errorf("%v went on", what)
		}
	}()
	caught(func() { panic("other") })
}
