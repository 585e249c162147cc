package codes

import (
	"fmt"
	"slices"
	"strings"
	"testing"

	"truce/api"
)

// P11.1: all that the table says, of each byte, and nothing of those that are none.
func TestTable(t *testing.T) {
	if len(plain) != 46+32+16+16 {
		t.Fatalf("the test's table has %d rows", len(plain))
	}
	for i := range 256 {
		op := byte(i)
		want := plain[op]
		if got := Name(op); got != want.name {
			t.Errorf("Name(%02x) is %q, want %q", op, got, want.name)
		}
		if takes, lays := Takes(op); takes != want.takes || lays != want.lays {
			t.Errorf("Takes(%02x) is %d, %d, want %d, %d", op, takes, lays, want.takes, want.lays)
		}
		if got := Gas(op); got != want.gas {
			t.Errorf("Gas(%02x) is %d, want %d", op, got, want.gas)
		}
	}
}

// P11.1: those whose numbers go by their own, written out.
func TestNumbered(t *testing.T) {
	for _, c := range []struct {
		op               byte
		name             string
		takes, lays, gas int
	}{
		{0x5f, "PUSH0", 0, 1, 2},
		{0x60, "PUSH1", 0, 1, 3},
		{0x69, "PUSH10", 0, 1, 3},
		{0x7f, "PUSH32", 0, 1, 3},
		{0x80, "DUP1", 1, 2, 3},
		{0x81, "DUP2", 2, 3, 3},
		{0x8f, "DUP16", 16, 17, 3},
		{0x90, "SWAP1", 2, 2, 3},
		{0x91, "SWAP2", 3, 3, 3},
		{0x9f, "SWAP16", 17, 17, 3},
		{0x0c, "", 0, 0, 0},
		{0x0f, "", 0, 0, 0},
		{0x1e, "", 0, 0, 0},
		{0x21, "", 0, 0, 0},
		{0x34, "", 0, 0, 0},
		{0x3a, "", 0, 0, 0},
		{0x54, "", 0, 0, 0},
		{0x5c, "", 0, 0, 0},
		{0x5e, "", 0, 0, 0},
		{0xa0, "", 0, 0, 0},
		{0xf2, "", 0, 0, 0},
		{0xff, "", 0, 0, 0},
	} {
		takes, lays := Takes(c.op)
		if Name(c.op) != c.name || takes != c.takes || lays != c.lays || Gas(c.op) != c.gas {
			t.Errorf("%02x: %q, %d, %d, %d, want %q, %d, %d, %d", c.op, Name(c.op), takes, lays, Gas(c.op), c.name, c.takes, c.lays, c.gas)
		}
	}
}

// P11.1, P11.5: Op of Name is the operation, and of what is no name there is none.
func TestOp(t *testing.T) {
	for i := range 256 {
		op := byte(i)
		got, ok := Op(Name(op))
		if _, there := plain[op]; there && (got != op || !ok) {
			t.Errorf("Op(Name(%02x)) is %02x, %t", op, got, ok)
		}
	}
	for name, op := range plainBytes {
		if got, ok := Op(name); got != op || !ok {
			t.Errorf("Op(%q) is %02x, %t, want %02x", name, got, ok, op)
		}
	}
}

func TestOpOfNone(t *testing.T) {
	none := []string{
		"", " ", "\n", "stop", "Stop", "PUSH", "PUSH33", "PUSH00", "PUSH01", "PUSH-1", "PUSH+1", "PUSH1 ", "PUSH100",
		"DUP", "DUP0", "DUP01", "DUP17", "SWAP", "SWAP0", "SWAP01", "SWAP17", "KECCAK", "SHA3", "CALL", "0x01", "01", "\x01",
		"ADD\x00", "\xff", "ADD\xff", strings.Repeat("ADD", 20000), strings.Repeat("1", 65536),
	}
	for name := range plainBytes {
		none = append(none, strings.ToLower(name), " "+name, name+" ", name+"\n", name+"_", name[1:], name[:1]+"\x00"+name[1:])
		for k := range len(name) {
			none = append(none, name[:k])
		}
		for _, digit := range "0123456789" {
			none = append(none, name+string(digit))
		}
	}
	for _, name := range none {
		if _, there := plainBytes[name]; there {
			continue
		}
		if op, ok := Op(name); op != 0 || ok {
			t.Errorf("Op(%.40q) is %02x, %t, want none", name, op, ok)
		}
	}
}

// sameDests holds Dests against the plain way.
func sameDests(t *testing.T, code string) {
	t.Helper()
	got, want := Dests(code), plainDests(code)
	if len(got) != len(code) || !slices.Equal(got, want) {
		t.Errorf("Dests(%.40x), of %d bytes, is %.80v, want %.80v", code, len(code), got, want)
	}
}

// P11.2: the chapter's examples, and the edges of a PUSH's own.
func TestDests(t *testing.T) {
	for _, c := range []struct {
		code string
		want []int
	}{
		{"", nil},
		{"\x5b", []int{0}},
		{"\x00", nil},
		{"\x5b\x5b\x5b", []int{0, 1, 2}},
		{"\x60\x05\x5b", []int{2}},
		{"\x60\x5b\x5b", []int{2}},
		{"\x60\x60\x5b", []int{2}},
		{"\x60\x5b\x60\x5b", nil},
		{"\x5b\x61\x01", []int{0}},
		{"\x5b\x61\x5b", []int{0}},
		{"\x61\x5b\x5b\x5b", []int{3}},
		{"\x5f\x5b", []int{1}},
		{"\x80\x5b\x90\x5b", []int{1, 3}},
		{"\x00\x5b\xfe\x5b\x0c\x5b\xff\x5b", []int{1, 3, 5, 7}},
		{"\x7f", nil},
		{"\x7f" + strings.Repeat("\x5b", 31), nil},
		{"\x7f" + strings.Repeat("\x5b", 32), nil},
		{"\x7f" + strings.Repeat("\x5b", 33), []int{33}},
	} {
		got := Dests(c.code)
		want := make([]bool, len(c.code))
		for _, at := range c.want {
			want[at] = true
		}
		if !slices.Equal(got, want) {
			t.Errorf("Dests(%x) is %v, want %v", c.code, got, want)
		}
	}
	for n := 0; n <= 32; n++ {
		for behind := range 40 {
			code := string([]byte{0x5b, byte(0x5f + n)}) + strings.Repeat("\x5b", behind)
			got := Dests(code)
			for at, can := range got {
				if want := at == 0 || at > n+1; can != want {
					t.Errorf("a PUSH%d with %d bytes behind: byte %d is %t", n, behind, at, can)
				}
			}
			sameDests(t, code)
		}
	}
}

// P11.2: mixed codes, and those of most bytes.
func TestDestsMixed(t *testing.T) {
	seed := uint64(1)
	for range 3000 {
		sameDests(t, mixedCode(&seed, below(&seed, 90)))
	}
	for _, piece := range []string{"\x5b", "\x60", "\x60\x5b\x5b", "\x7f", "\x00", "\xff"} {
		sameDests(t, strings.Repeat(piece, 65536)[:65536])
	}
	sameDests(t, mixedCode(&seed, 65536))
}

// P11.5: one can jump just to bytes JUMPDEST, and each byte that is no operation's own counts by itself.
func TestJustJumpdests(t *testing.T) {
	for i := range 256 {
		got := Dests(string([]byte{byte(i)}))
		if len(got) != 1 || got[0] != (i == 0x5b) {
			t.Errorf("Dests of the byte %02x is %v", i, got)
		}
	}
	seed := uint64(2)
	for range 1000 {
		code := mixedCode(&seed, 60)
		for at, can := range Dests(code) {
			if can && code[at] != 0x5b {
				t.Fatalf("one can jump to byte %d of %x", at, code)
			}
		}
	}
}

// P11.5: behind a code that lacks nothing, another code's places stay.
func TestPlacesStay(t *testing.T) {
	seed := uint64(3)
	checked := 0
	for checked < 1500 {
		a, b := mixedCode(&seed, below(&seed, 40)), mixedCode(&seed, below(&seed, 40))
		if missing(a, plainOwn(a)) {
			continue
		}
		checked++
		if got, want := Dests(a+b), append(Dests(a), Dests(b)...); !slices.Equal(got, want) {
			t.Fatalf("Dests of %x and %x is %v, want %v", a, b, got, want)
		}
		if got, want := Listing(a+b), Listing(a)+Listing(b); got != want {
			t.Fatalf("Listing of %x and %x is %q, want %q", a, b, got, want)
		}
	}
	if got := Dests("\x61\x01" + "\x5b"); got[2] {
		t.Error("what a PUSH lacks is taken from the code behind it")
	}
}

// 0.5: what Dests told is new memory each time.
func TestDestsAreNew(t *testing.T) {
	code := "\x5b\x00\x5b"
	first := Dests(code)
	for i := range first {
		first[i] = !first[i]
	}
	if got := Dests(code); !slices.Equal(got, []bool{true, false, true}) {
		t.Errorf("Dests is %v behind a change of what it told", got)
	}
}

// P11.2: the chapter's examples, and the edges of a PUSH's own.
func TestListing(t *testing.T) {
	for _, c := range []struct{ code, want string }{
		{"", ""},
		{"\x00", "STOP\n"},
		{"\x60\x05\x5b", "PUSH1 05\nJUMPDEST\n"},
		{"\x5b\x61\x01", "JUMPDEST\n0x61\n0x01\n"},
		{"\x5f", "PUSH0\n"},
		{"\x5f\x5f\x01", "PUSH0\nPUSH0\nADD\n"},
		{"\x60", "0x60\n"},
		{"\x61\x01\x02", "PUSH2 0102\n"},
		{"\x61\xab\xCD\x60\xef", "PUSH2 abcd\nPUSH1 ef\n"},
		{"\x62\x5b\x61", "0x62\n0x5b\n0x61\n"},
		{"\x7f\x01", "0x7f\n0x01\n"},
		{"\x60\x00\x60\x0a", "PUSH1 00\nPUSH1 0a\n"},
		{"\x0c\xff\xa0", "0x0c\n0xff\n0xa0\n"},
		{"\xfe\xfd\xf3", "INVALID\nREVERT\nRETURN\n"},
		{"\x80\x8f\x90\x9f", "DUP1\nDUP16\nSWAP1\nSWAP16\n"},
		{"\x60\x60\x60\x60\x60", "PUSH1 60\nPUSH1 60\n0x60\n"},
		{"\x7f" + strings.Repeat("\xa7", 32), "PUSH32 " + strings.Repeat("a7", 32) + "\n"},
		{"\x7f" + strings.Repeat("\x01", 31), "0x7f\n" + strings.Repeat("0x01\n", 31)},
	} {
		if got := Listing(c.code); got != c.want {
			t.Errorf("Listing(%x) is %q, want %q", c.code, got, c.want)
		}
	}
	for i := range 256 {
		op := byte(i)
		for behind := range 35 {
			sameListing(t, string([]byte{op})+strings.Repeat("\x5b", behind))
			sameListing(t, "\x01"+string([]byte{op})+strings.Repeat("\x9e", behind))
		}
	}
}

// sameListing holds Listing against the plain way.
func sameListing(t *testing.T, code string) {
	t.Helper()
	if got, want := Listing(code), plainListing(code); got != want {
		t.Errorf("Listing(%.40x), of %d bytes, is %.80q, want %.80q", code, len(code), got, want)
	}
}

func TestListingMixed(t *testing.T) {
	seed := uint64(4)
	for range 3000 {
		sameListing(t, mixedCode(&seed, below(&seed, 90)))
	}
}

// back asks that Assemble of Listing is the code.
func back(t *testing.T, code string) {
	t.Helper()
	got, at, err := Assemble(Listing(code))
	if got != code || at != 0 || err != api.OK {
		t.Errorf("Assemble of Listing of %.40x, of %d bytes, is %.40x, %d, %d", code, len(code), got, at, err)
	}
}

// P11.4: there and back.
func TestThereAndBack(t *testing.T) {
	back(t, "")
	for i := range 256 {
		back(t, string([]byte{byte(i)}))
		for k := range 256 {
			back(t, string([]byte{byte(i), byte(k)}))
		}
		for n := range 35 {
			back(t, string([]byte{byte(i)})+strings.Repeat("\x60", n))
		}
	}
	seed := uint64(5)
	for range 3000 {
		back(t, mixedCode(&seed, below(&seed, 120)))
	}
	for _, piece := range []string{"\x5b", "\x60", "\x60\x5b\x5b", "\x7f", "\xff", "\x9f"} {
		back(t, strings.Repeat(piece, 65536)[:65536])
	}
	back(t, mixedCode(&seed, 65536))
}

// P11.3: texts that are codes.
func TestAssemble(t *testing.T) {
	for _, c := range []struct{ text, want string }{
		{"", ""},
		{" ", ""},
		{"\n", ""},
		{" \n \n\n  ", ""},
		{"STOP", "\x00"},
		{"ADD", "\x01"},
		{"ADD\n", "\x01"},
		{"\n  ADD", "\x01"},
		{"ADD MUL\nSUB", "\x01\x02\x03"},
		{"  ADD  \n\n  MUL  ", "\x01\x02"},
		{"PUSH1 05 JUMPDEST", "\x60\x05\x5b"},
		{"PUSH1\n05\nJUMPDEST\n", "\x60\x05\x5b"},
		{"PUSH1 \n \n 05", "\x60\x05"},
		{"PUSH0 ADD", "\x5f\x01"},
		{"PUSH0 PUSH0", "\x5f\x5f"},
		{"PUSH2 abcd", "\x61\xab\xcd"},
		{"PUSH2 0900 PUSH1 ff", "\x61\x09\x00\x60\xff"},
		{"PUSH32 " + strings.Repeat("0f", 32), "\x7f" + strings.Repeat("\x0f", 32)},
		{"0x00", "\x00"},
		{"0x60", "\x60"},
		{"0x60 ADD", "\x60\x01"},
		{"0x61\n0x01\n", "\x61\x01"},
		{"0xff 0x0c 0xa0", "\xff\x0c\xa0"},
		{"0x7f 0x5b JUMPDEST", "\x7f\x5b\x5b"},
		{"INVALID REVERT RETURN", "\xfe\xfd\xf3"},
		{"DUP1 DUP16 SWAP1 SWAP16", "\x80\x8f\x90\x9f"},
	} {
		got, at, err := Assemble(c.text)
		if got != c.want || at != 0 || err != api.OK {
			t.Errorf("Assemble(%q) is %x, %d, %d, want %x", c.text, got, at, err, c.want)
		}
	}
	for name, op := range plainBytes {
		text, want := name, string([]byte{op})
		if n := plain[op].own; n > 0 {
			text, want = text+" "+strings.Repeat("5b", n), want+strings.Repeat("\x5b", n)
		}
		if got, at, err := Assemble(text); got != want || at != 0 || err != api.OK {
			t.Errorf("Assemble(%q) is %x, %d, %d, want %x", text, got, at, err, want)
		}
	}
	for i := range 256 {
		text := fmt.Sprintf("0x%02x", i)
		if got, at, err := Assemble(text); got != string([]byte{byte(i)}) || at != 0 || err != api.OK {
			t.Errorf("Assemble(%q) is %x, %d, %d", text, got, at, err)
		}
	}
}

// P11.3: texts that are none, and the place of what is wrong.
func TestAssembleWrong(t *testing.T) {
	for _, c := range []struct {
		text string
		at   int
	}{
		{"PUSH1 5", 6},
		{"PUSH1", 5},
		{"PUSH1 ", 6},
		{"PUSH1 \n\n ", 9},
		{"ADD PUSH32", 10},
		{"ADD PUSH32\n", 11},
		{"PUSH1 050", 6},
		{"PUSH1 0506", 6},
		{"PUSH2 05", 6},
		{"PUSH2 05 06", 6},
		{"PUSH1 0x05", 6},
		{"PUSH2 0x05", 6},
		{"PUSH1 AB", 6},
		{"PUSH1 aB", 6},
		{"PUSH1 0g", 6},
		{"PUSH1 g0", 6},
		{"PUSH1 -1", 6},
		{"PUSH1 ADD", 6},
		{"PUSH1 PUSH1", 6},
		{"PUSH1 PUSH1 05", 6},
		{"PUSH1   5", 8},
		{"PUSH1 05 06", 9},
		{"PUSH0 05", 6},
		{"PUSH0 0", 6},
		{"PUSH32 " + strings.Repeat("0f", 31), 7},
		{"PUSH32 " + strings.Repeat("0f", 33), 7},
		{"PUSH32 " + strings.Repeat("0f", 31) + "0G", 7},
		{"PUSH33 " + strings.Repeat("0f", 33), 0},
		{"05", 0},
		{"add", 0},
		{"ADD add MUL mul", 4},
		{"  what", 2},
		{"ADD\n\nwhat", 5},
		{"ADDMUL", 0},
		{"ADD,MUL", 0},
		{"ADD\tMUL", 0},
		{"ADD\r\nMUL", 0},
		{"ADD\n\rMUL", 4},
		{"ADD \x00", 4},
		{"ADD \xc2\xa0", 4},
		{"0x", 0},
		{"0x0", 0},
		{"0x000", 0},
		{"0x0000", 0},
		{"0x0A", 0},
		{"0xA0", 0},
		{"0xg0", 0},
		{"0X00", 0},
		{"x00", 0},
		{"00x", 0},
		{"ADD 0x 00", 4},
		{"0x60 05", 5},
		{"0x00 0x0", 5},
		{"DUP0", 0},
		{"DUP17", 0},
		{"SWAP17", 0},
		{"PUSH", 0},
		{"PUSH 05", 0},
		{"PUSH01 05", 0},
		{"STOP STOP\nPUSH1 zz what", 16},
		{"what PUSH1", 0},
	} {
		got, at, err := Assemble(c.text)
		if got != "" || at != c.at || err != api.ErrSyntax {
			t.Errorf("Assemble(%q) is %x, %d, %d, want ErrSyntax at %d", c.text, got, at, err, c.at)
		}
	}
	for n := 1; n <= 32; n++ {
		name := fmt.Sprintf("PUSH%d ", n)
		for digits := 1; digits <= 70; digits++ {
			got, at, err := Assemble(name + strings.Repeat("0", digits))
			if digits == 2*n {
				if len(got) != n+1 || at != 0 || err != api.OK {
					t.Errorf("%s with %d digits is %x, %d, %d", name, digits, got, at, err)
				}
			} else if got != "" || at != len(name) || err != api.ErrSyntax {
				t.Errorf("%s with %d digits is %x, %d, %d, want ErrSyntax", name, digits, got, at, err)
			}
		}
	}
}

// P11.3: of all bytes, a blank and a byte 10 alone part words; of all bytes, sixteen are digits.
func TestAssembleBytes(t *testing.T) {
	for i := range 256 {
		c := string([]byte{byte(i)})
		got, at, err := Assemble("ADD" + c + "MUL")
		if c == " " || c == "\n" {
			if got != "\x01\x02" || at != 0 || err != api.OK {
				t.Errorf("parted by %q: %x, %d, %d", c, got, at, err)
			}
		} else if got != "" || at != 0 || err != api.ErrSyntax {
			t.Errorf("not parted by %q: %x, %d, %d", c, got, at, err)
		}
		for _, text := range []string{"STOP PUSH1 0" + c, "STOP PUSH1 " + c + "0", "STOP 0x0" + c, "STOP 0x" + c + "0", "STOP " + c} {
			sameAssemble(t, text)
		}
	}
}

// sameAssemble holds Assemble against the plain way.
func sameAssemble(t *testing.T, text string) {
	t.Helper()
	got, at, err := Assemble(text)
	want, wantAt, wantErr := plainAssemble(text)
	if got != want || at != wantAt || err != wantErr {
		t.Errorf("Assemble(%.80q), of %d bytes, is %.40x, %d, %d, want %.40x, %d, %d", text, len(text), got, at, err, want, wantAt, wantErr)
	}
}

// P11.3: texts of words that may or may not stand there, and listings with a change.
func TestAssembleMixed(t *testing.T) {
	pieces := []string{
		"ADD", "PUSH1", "PUSH1 05", "PUSH2", "PUSH2 abcd", "05", "abcd", "0x05", "0x60", "0x6", "JUMPDEST", "PUSH0", "add", "DUP16", "SWAP1", "PUSH33",
		" ", "\n", "  \n",
	}
	seed := uint64(6)
	good := 0
	for range 20000 {
		text := ""
		for range below(&seed, 6) {
			text += pieces[below(&seed, len(pieces))] + []string{" ", "\n", " \n ", ""}[below(&seed, 4)]
		}
		sameAssemble(t, text)
		if _, _, err := Assemble(text); err == api.OK {
			good++
		}
	}
	if good < 1000 || good > 19000 {
		t.Errorf("%d of 20000 mixed texts are codes: the test asks too little of one kind", good)
	}
	for range 5000 {
		raw := []byte(Listing(mixedCode(&seed, 1+below(&seed, 20))))
		raw[below(&seed, len(raw))] = []byte(" \n0afgAPx\t")[below(&seed, 10)]
		sameAssemble(t, string(raw))
		cut := below(&seed, len(raw))
		sameAssemble(t, string(raw[:cut]))
		sameAssemble(t, string(raw[cut:]))
	}
}

// P11.3: texts of most bytes.
func TestAssembleMost(t *testing.T) {
	const most = 65536
	for _, piece := range []string{" ", "\n", "A", "0", "0x", "ADD ", "0x5b\n", "PC ", "PUSH1 05\n", "PUSH1 ", "RETURN ", "SWAP16 ", "\x00", "\xff"} {
		text := strings.Repeat(piece, most/len(piece))
		sameAssemble(t, text+strings.Repeat(" ", most-len(text)))
		sameAssemble(t, strings.Repeat(" ", most-len(text))+text)
	}
	text := strings.Repeat("ADD ", most/4-1) + "what"
	if got, at, err := Assemble(text); got != "" || at != most-4 || err != api.ErrSyntax {
		t.Errorf("the last word of %d bytes: %.20x, %d, %d", len(text), got, at, err)
	}
	text = strings.Repeat("ADD ", most/4-2) + "   PUSH1"
	if got, at, err := Assemble(text); got != "" || at != most || err != api.ErrSyntax {
		t.Errorf("what is missing behind %d bytes: %.20x, %d, %d", len(text), got, at, err)
	}
}

// The codes of the document's examples of the whole, as far as they are this layer's.
func TestWhole(t *testing.T) {
	for _, c := range []struct{ code, want string }{
		{"\x60\x05\x5b", "PUSH1 05\nJUMPDEST\n"},
		{"\x7f\x01", "0x7f\n0x01\n"},
		{"\x60\x05\x5f\x52\x60\x20\x5f\xf3", "PUSH1 05\nPUSH0\nMSTORE\nPUSH1 20\nPUSH0\nRETURN\n"},
	} {
		if got := Listing(c.code); got != c.want {
			t.Errorf("Listing(%x) is %q, want %q", c.code, got, c.want)
		}
	}
}
