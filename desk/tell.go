package desk

import (
	"strconv"
	"strings"

	"truce/acct"
	"truce/api"
	"truce/book"
	"truce/codes"
	"truce/num"
	"truce/vm"
)

const digits = "0123456789abcdef"

// maxAmount is the highest amount that is told as a number.
const maxAmount = 1 << 62

// gasRun is how much gas a run has.
const gasRun = 1000

// told is what a line puts out that has no more to tell than its error.
func told(err api.Errno) string {
	if err == api.OK {
		return "ok\n"
	}
	return err.Error() + "\n"
}

// coins tells what an address has of both assets.
func coins(l []api.Coin, who string) string {
	return amount(acct.Get(l, who, gold)) + " " + amount(acct.Get(l, who, fees)) + "\n"
}

func amount(n api.U) string {
	if num.Cmp(n, num.Of(maxAmount)) > 0 {
		return "many"
	}
	return strconv.FormatUint(n[0], 10)
}

// kept tells what a book keeps of a channel.
func kept(b api.Book, channel string) string {
	c, ok := book.Find(b, channel)
	if !ok {
		return told(api.ErrNone)
	}
	out := []string{"mine", turn(c.Mine), "kept"}
	for _, k := range c.Kept {
		out = append(out, turn(k.Var.Turn))
	}
	last := "none"
	for _, s := range book.Best(c) {
		last = turn(s.Var.Turn)
	}
	return strings.Join(append(out, "best", last), " ") + "\n"
}

func turn(n uint64) string { return strconv.FormatUint(n, 10) }

// run tells how a run of a code ends.
func run(code string) string {
	f := vm.Run(code, "", gasRun)
	out := "done"
	switch f.Stand {
	case api.RnWrong:
		return told(f.Err)
	case api.RnBack:
		out = "back"
	}
	if f.Out != "" {
		out += " " + toHex(f.Out)
	}
	return out + "\n"
}

// listing tells a code as text.
func listing(code string) string {
	var out []byte
	for text := range lines(codes.Listing(code)) {
		out = append(out, "| "+text+"\n"...)
	}
	return string(out)
}

// toHex is bytes in hex.
func toHex(raw string) string {
	var out []byte
	for _, b := range []byte(raw) {
		out = append(out, digits[b/16], digits[b%16])
	}
	return string(out)
}

// fromHex is the bytes of a word in hex; false: it is none, since they are told by another.
func fromHex(word string) (string, bool) {
	var out []byte
	for at := 0; at < len(word); at += 2 {
		// What is no number counts as 0, and is not told as it stands there.
		b, _ := strconv.ParseUint(word[at:min(at+2, len(word))], 16, 8)
		out = append(out, byte(b))
	}
	raw := string(out)
	return raw, toHex(raw) == word
}
