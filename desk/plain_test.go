package desk

import (
	"fmt"
	"math/big"
	"regexp"
	"strconv"
	"strings"
	"sync"
	"testing"

	"truce/api"
	"truce/book"
	"truce/codes"
	"truce/gen"
	"truce/hash"
	"truce/num"
	"truce/state"
	"truce/vm"
	"truce/world"
)

// mix is a fixed row of numbers that look mixed: the tests must go alike each time.
func mix(seed *uint64) uint64 {
	*seed += 0x9e3779b97f4a7c15
	z := *seed
	z = (z ^ z>>30) * 0xbf58476d1ce4e5b9
	z = (z ^ z>>27) * 0x94d049bb133111eb
	return z ^ z>>31
}

func below(seed *uint64, n int) int { return int(mix(seed) % uint64(n)) }

func rep(b byte, n int) string { return strings.Repeat(string([]byte{b}), n) }

// short is the beginning of a text that may be long.
func short(s string) string {
	if len(s) > 300 {
		return fmt.Sprintf("%q and %d bytes more", s[:300], len(s)-300)
	}
	return strconv.Quote(s)
}

// wantPlay plays what is told as DOC.md tells its examples: "line -> what is put out; line -> ...", a line without an arrow putting out ok, and of several that are put out each behind ", ".
func wantPlay(t testing.TB, told string) {
	t.Helper()
	script, all := "", ""
	for _, one := range strings.Split(told, "; ") {
		line, out, ok := strings.Cut(one, " -> ")
		if !ok {
			out = "ok"
		}
		script += line + "\n"
		all += strings.ReplaceAll(out, ", ", "\n") + "\n"
		// One line after another, so that a fault tells its place.
		if got := Play(script); got != all {
			got = strings.TrimPrefix(got, strings.TrimSuffix(all, strings.ReplaceAll(out, ", ", "\n")+"\n"))
			t.Fatalf("%s\nbehind %s: %s, want %q", told, line, short(got), out)
		}
	}
}

// wantOut holds what a text puts out to what is said, byte by byte.
func wantOut(t testing.TB, s, want string) {
	t.Helper()
	if got := Play(s); got != want {
		t.Errorf("Play of %s\nis   %s\nwant %s", short(s), short(got), short(want))
	}
}

// plain is a console in the chapter's words: lines by what they look like.
type plain struct {
	world api.World
	none  bool
}

// kind is a kind of lines: what they look like, and what they put out.
type kind struct {
	like  *regexp.Regexp
	needs bool // a world
	do    func(p *plain, a []string) string
}

// looks is what lines look like: N is a number, D a word, X hex.
func looks(like string) *regexp.Regexp {
	like = strings.NewReplacer("N", `([0-9]{1,12})`, "D", `([^ ]+)`, "X", `((?:[0-9a-f][0-9a-f])+)`, " ", " +").Replace(like)
	return regexp.MustCompile(`^ *` + like + ` *$`)
}

func (k kind) words(line string) []string {
	m := k.like.FindStringSubmatch(line)
	if m == nil {
		return nil
	}
	return m[1:]
}

func atoi(s string) int {
	n, _ := new(big.Int).SetString(s, 10)
	return int(n.Int64())
}

func (p *plain) step(m api.Move) string {
	w, err := world.Step(p.world, m)
	p.world = w
	return okOr(err)
}

func okOr(err api.Errno) string {
	if err == 0 {
		return "ok"
	}
	return fmt.Sprintf("error %d", int(err))
}

func (p *plain) act(who string, a api.Act) string {
	return p.step(api.Move{Kind: api.MvAct, Who: atoi(who), Act: a})
}

func (p *plain) mint(who, n, asset string) string {
	return p.step(api.Move{Kind: api.MvMint, Who: atoi(who), Amount: num.Of(uint64(atoi(n))), Asset: asset})
}

func (p *plain) turn(a []string, final bool) string {
	f, l := gen.Channel(uint64(atoi(a[1])))
	first, second := l[0].Allocs[0], l[0].Allocs[1]
	first.Amount, second.Amount = num.Of(uint64(atoi(a[3]))), num.Of(uint64(atoi(a[4])))
	outcome := []api.Exit{{Asset: rep('t', 20), Allocs: []api.Alloc{first, second}}}
	return p.act(a[0], api.Act{Kind: api.AcMove, Channel: state.Id(f), Data: a[2], Exits: outcome, Final: final})
}

// total is all of an asset that a row of coins has for an address, as a number or many.
func total(l []api.Coin, who, asset string) string {
	for _, c := range l {
		if c.Who == who && c.Asset == asset {
			return many(c.Amount)
		}
	}
	return "0"
}

func many(n api.U) string {
	all := new(big.Int).SetBytes([]byte(num.Bytes(n)))
	if all.Cmp(new(big.Int).Lsh(big.NewInt(1), 62)) > 0 {
		return "many"
	}
	return all.String()
}

func (p *plain) kept(who, seed string) string {
	f, _ := gen.Channel(uint64(atoi(seed)))
	for place, w := range p.world.Wallets {
		for _, c := range w.Book.Chans {
			if place != atoi(who) || c.Id != state.Id(f) {
				continue
			}
			out := fmt.Sprintf("mine %d kept ", c.Mine)
			for _, k := range c.Kept {
				out += fmt.Sprintf("%d ", k.Var.Turn)
			}
			best := book.Best(c)
			if len(best) == 0 {
				return out + "best none"
			}
			return out + fmt.Sprintf("best %d", best[len(best)-1].Var.Turn)
		}
	}
	return "error 9"
}

func (p *plain) held(seed string) string {
	f, _ := gen.Channel(uint64(atoi(seed)))
	for _, h := range p.world.Chain.Judge.Holds {
		if h.Channel == state.Id(f) && h.Asset == rep('t', 20) {
			return many(h.Amount)
		}
	}
	return "0"
}

func (p *plain) coins(who string) string {
	if atoi(who) >= len(p.world.Wallets) {
		return "error 9"
	}
	w, l := p.world.Wallets[atoi(who)].Book.Who, p.world.Chain.Coins
	return total(l, w, rep('t', 20)) + " " + total(l, w, rep(0, 20))
}

func bytesOf(hex string) string {
	out := ""
	for i := 0; i < len(hex); i += 2 {
		b, _ := strconv.ParseUint(hex[i:i+2], 16, 8)
		out += string([]byte{byte(b)})
	}
	return out
}

func plainRun(hex string) string {
	f := vm.Run(bytesOf(hex), "", 1000)
	if f.Stand == api.RnWrong {
		return okOr(f.Err)
	}
	out := map[int]string{api.RnDone: "done", api.RnBack: "back"}[f.Stand]
	return strings.TrimSpace(out + " " + fmt.Sprintf("%x", f.Out))
}

func plainList(hex string) string {
	l := strings.TrimSuffix(codes.Listing(bytesOf(hex)), "\n")
	return "| " + strings.ReplaceAll(l, "\n", "\n| ")
}

// kinds are all kinds of lines, made once, since that is slow.
var kinds = sync.OnceValue(allKinds)

func allKinds() []kind {
	channel := func(seed string) api.Fixed {
		f, _ := gen.Channel(uint64(atoi(seed)))
		return f
	}
	numbered := func(k int) func(p *plain, a []string) string {
		return func(p *plain, a []string) string { return p.step(api.Move{Kind: k, N: atoi(a[0])}) }
	}
	power := func(k int) func(p *plain, a []string) string {
		return func(p *plain, a []string) string { return p.step(api.Move{Kind: k, Who: atoi(a[0]), N: atoi(a[1])}) }
	}
	begin := func(p *plain, w api.World) string {
		p.world, p.none = w, false
		return "ok"
	}
	return []kind{
		{looks("new N"), false, func(p *plain, a []string) string { return begin(p, world.New(atoi(a[0]))) }},
		{looks("honest N N"), false, func(p *plain, a []string) string {
			return begin(p, world.Run(2, gen.Honest(uint64(atoi(a[0])), atoi(a[1]))))
		}},
		{looks("hash D"), false, func(p *plain, a []string) string { return fmt.Sprintf("%x", hash.Sum(a[0])) }},
		{looks("run X"), false, func(p *plain, a []string) string { return plainRun(a[0]) }},
		{looks("list X"), false, func(p *plain, a []string) string { return plainList(a[0]) }},
		{looks("coins N"), true, func(p *plain, a []string) string { return p.coins(a[0]) }},
		{looks("held N"), true, func(p *plain, a []string) string { return p.held(a[0]) }},
		{looks("kept N N"), true, func(p *plain, a []string) string { return p.kept(a[0], a[1]) }},
		{looks("mint N N"), true, func(p *plain, a []string) string { return p.mint(a[0], a[1], rep('t', 20)) }},
		{looks("fee N N"), true, func(p *plain, a []string) string { return p.mint(a[0], a[1], rep(0, 20)) }},
		{looks("open N N"), true, func(p *plain, a []string) string {
			return p.act(a[0], api.Act{Kind: api.AcOpen, Fixed: channel(a[1])})
		}},
		{looks("move N N D N N"), true, func(p *plain, a []string) string { return p.turn(a, false) }},
		{looks("final N N D N N"), true, func(p *plain, a []string) string { return p.turn(a, true) }},
		{looks("exit N N"), true, func(p *plain, a []string) string {
			return p.act(a[0], api.Act{Kind: api.AcExit, Channel: state.Id(channel(a[1]))})
		}},
		{looks("look N"), true, func(p *plain, a []string) string { return p.act(a[0], api.Act{Kind: api.AcLook}) }},
		{looks("post N"), true, numbered(api.MvPost)},
		{looks("take N"), true, numbered(api.MvTake)},
		{looks("tick N"), true, numbered(api.MvTick)},
		{looks("arm N N"), true, power(api.MvArm)},
		{looks("crash N N"), true, power(api.MvCrash)},
	}
}

// put is what a line puts out; false: nothing.
func (p *plain) put(line string) (string, bool) {
	if blank := strings.TrimLeft(line, " "); blank == "" || blank[0] == '#' {
		return "", false
	}
	for _, k := range kinds() {
		if a := k.words(line); a != nil && k.needs && p.none {
			return "error 24", true
		} else if a != nil {
			return k.do(p, a), true
		}
	}
	return "error 28", true
}
