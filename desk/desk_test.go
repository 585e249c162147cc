package desk

import (
	"fmt"
	"sort"
	"strings"
	"testing"

	"truce/api"
	"truce/gen"
	"truce/state"
)

// P32.1: the chapter's examples.
func TestExample(t *testing.T) {
	wantPlay(t, "run 01 -> error 19; run 60055f5260205ff3 -> done "+rep('0', 62)+"05; list 6005 -> | PUSH1 05; honest 7 1 -> ok; coins 0 -> 20 47")
}

// P32.1: DOC.md's ten examples.
func TestTenExamples(t *testing.T) {
	for _, told := range []string{
		"run 01 -> error 19; run 60055f5260205ff3 -> done " + rep('0', 62) + "05; list 60055b -> | PUSH1 05, | JUMPDEST; hash abc -> 4e03657aea45a94fc7d47ba826c8d667c0d1e6e33a64a036ec44f58fa12d6c45",
		"honest 7 1 -> ok; held 7 -> 0; coins 0 -> 20 47; coins 1 -> 20 49; kept 0 7 -> mine 6 kept 3 4 5 best 5",
		"new 2; mint 0 9; fee 0 9; open 0 3; open 1 3; move 0 3 d 4 5; post 0; kept 1 3 -> mine 0 kept 0 best none; move 1 3 d 4 5; post 1; kept 0 3 -> mine 1 kept 0 1 best 1; look 0; take 0; held 3 -> 4; coins 0 -> 5 8",
		"new 2; open 0 3; open 1 3; move 0 3 d 1 1 -> ok; move 0 3 d 1 1 -> error 11; move 1 3 d 1 1 -> error 11; post 0 -> ok; post 0 -> ok; move 1 3 e 1 1 -> error 12",
		"new 2; open 0 3; arm 0 9; move 0 3 d 1 1 -> error 26; look 0 -> error 26; crash 0 4 -> ok; move 0 3 d 2 2 -> ok; post 0 -> error 9",
		"new 2; open 0 3; open 1 3; fee 0 5; move 0 3 d 0 0; post 0; move 1 3 d 0 0; post 1; look 0; kept 0 3 -> mine 3 kept 0 1 2 best 2; exit 0 3; look 0; take 0; tick 30; held 3 -> 0",
		"look 0 -> error 24; new 9; coins 2 -> 0 0; coins 3 -> error 9; mint 5 1 -> error 9; post 0 -> error 9; take 0 -> error 9",
		"new 1; tick 5; arm 0 3; open 0 3 -> error 26; open 0 3 -> error 26; crash 0 0 -> ok; open 0 3 -> ok; open 0 3 -> error 10",
		"run 5f5ffd -> back; run 600556 -> error 20; run 60 -> done; list 7f01 -> | 0x7f, | 0x01; run 0G -> error 28; what -> error 28",
		"honest 0 0; coins 0 -> 20 47; honest 4 2; coins 1 -> 20 49; kept 1 4 -> mine 7 kept 4 5 6 best 6",
	} {
		wantPlay(t, told)
	}
}

// P32.1: without a world all that needs one is error 24, and all else goes.
func TestWorldless(t *testing.T) {
	needs := []string{
		"mint 0 1", "fee 0 1", "open 0 3", "move 0 3 d 1 1", "final 0 3 d 1 1", "exit 0 3", "look 0", "post 0", "take 0", "tick 1",
		"arm 0 1", "crash 0 1", "coins 0", "held 3", "kept 0 3",
		// Without a wallet, too, and without a channel, which there is none of either.
		"mint 9 1", "coins 9", "kept 9 3", "kept 0 4", "look 999999999999",
	}
	for _, line := range needs {
		wantOut(t, line, "error 24\n")
		wantOut(t, "run 60\nlist 00\n# new 1\nhash abc\nnew\n"+line+"\n"+line+"\nnew 1", "done\n| STOP\n4e03657aea45a94fc7d47ba826c8d667c0d1e6e33a64a036ec44f58fa12d6c45\nerror 28\nerror 24\nerror 24\nok\n")
		if got := Play("new 2\n" + line); strings.Contains(got, "error 24") {
			t.Errorf("%s in a world: %q", line, got)
		}
	}
	// What is no line of these words is that, world or not.
	for _, line := range []string{"mint 0", "mint x 1", "look", "look 0 0", "held x", "coins 0x", "kept 0", "move 0 3 d 1", "post -1", "Look 0"} {
		wantOut(t, line, "error 28\n")
		wantOut(t, "new 1\n"+line, "ok\nerror 28\n")
	}
}

// P32.1: which move a line is, also where little of it is to be seen from outside.
func TestMoveOf(t *testing.T) {
	f, l := gen.Channel(3)
	l[0].Allocs[0].Amount, l[0].Allocs[1].Amount = api.U{8}, api.U{9}
	id := state.Id(f)
	act := func(a api.Act) api.Move { return api.Move{Kind: api.MvAct, Who: 2, Act: a} }
	for text, want := range map[string]api.Move{
		"mint 2 7":        {Kind: api.MvMint, Who: 2, Asset: rep('t', 20), Amount: api.U{7}},
		"fee 2 7":         {Kind: api.MvMint, Who: 2, Asset: rep(0, 20), Amount: api.U{7}},
		"post 7":          {Kind: api.MvPost, N: 7},
		"take 7":          {Kind: api.MvTake, N: 7},
		"tick 7":          {Kind: api.MvTick, N: 7},
		"arm 2 7":         {Kind: api.MvArm, Who: 2, N: 7},
		"crash 2 7":       {Kind: api.MvCrash, Who: 2, N: 7},
		"look 2":          act(api.Act{Kind: api.AcLook}),
		"open 2 3":        act(api.Act{Kind: api.AcOpen, Fixed: f}),
		"exit 2 3":        act(api.Act{Kind: api.AcExit, Channel: id}),
		"move 2 3 e 8 9":  act(api.Act{Kind: api.AcMove, Channel: id, Data: "e", Exits: l}),
		"final 2 3 e 8 9": act(api.Act{Kind: api.AcMove, Channel: id, Data: "e", Exits: l, Final: true}),
	} {
		got, ok := read(strings.Split(text, " "))
		if m := moveOf(got); !ok || fmt.Sprintf("%+v", m) != fmt.Sprintf("%+v", want) {
			t.Errorf("%s is %+v\nwant %+v", text, m, want)
		}
	}
}

// P32.1: a world has 1 to 3 wallets, and begins anew with each new, and with each honest.
func TestNew(t *testing.T) {
	for n, last := range map[string]int{"0": 0, "1": 0, "2": 1, "3": 2, "4": 2, "9": 2, "000000000002": 1, "999999999999": 2} {
		wantPlay(t, fmt.Sprintf("new %s; coins %d -> 0 0; coins %d -> error 9", n, last, last+1))
	}
	wantPlay(t, "new 1; mint 0 5; open 0 3; coins 0 -> 5 0; new 1; coins 0 -> 0 0; kept 0 3 -> error 9; open 0 3")
	wantPlay(t, "new 3; mint 2 5; coins 2 -> 5 0; honest 1 0; coins 2 -> error 9; coins 0 -> 20 47; held 1 -> 0; new 2; coins 0 -> 0 0; kept 0 1 -> error 9")
	// A line that is none makes no world, and leaves the one that is there.
	wantPlay(t, "new 1; mint 0 5; new -> error 28; new x -> error 28; honest 1 -> error 28; new 1 1 -> error 28; coins 0 -> 5 0")
}

// P32.1: money for wallets, of both assets.
func TestMint(t *testing.T) {
	wantPlay(t, "new 3; mint 1 9; fee 1 4; coins 0 -> 0 0; coins 1 -> 9 4; coins 2 -> 0 0; mint 1 1; coins 1 -> 10 4; fee 1 6; coins 1 -> 10 10; fee 2 7; coins 2 -> 0 7; mint 0 3; coins 0 -> 3 0")
	wantPlay(t, "new 1; mint 0 0; fee 0 0; coins 0 -> 0 0; mint 0 999999999999; mint 0 999999999999; coins 0 -> 1999999999998 0; fee 0 000000000012; coins 0 -> 1999999999998 12")
	wantPlay(t, "new 2; mint 2 1 -> error 9; fee 2 1 -> error 9; mint 999999999999 1 -> error 9; coins 2 -> error 9; coins 1 -> 0 0; coins 0 -> 0 0")
}

// P32.1: moves of a wallet that is none, or of what it has not, are error 9, and change nothing.
func TestNobody(t *testing.T) {
	for _, line := range []string{
		"mint 2 1", "fee 2 1", "open 2 3", "move 2 3 d 1 1", "final 2 3 d 1 1", "exit 2 3", "look 2", "arm 2 0", "crash 2 0",
		"coins 2", "kept 2 3", "post 0", "take 0", "post 999999999999", "take 999999999999", "kept 0 7", "kept 1 3", "exit 0 7", "exit 1 3", "move 0 7 d 1 1", "final 1 3 d 1 1",
	} {
		wantPlay(t, "new 2; open 0 3; "+line+" -> error 9; kept 0 3 -> mine 0 kept best none; kept 1 3 -> error 9; coins 0 -> 0 0; coins 1 -> 0 0; move 0 3 d 1 1; open 1 3; post 0")
	}
}

// P32.1: which channel a seed names, and which wallet opens it.
func TestOpen(t *testing.T) {
	wantPlay(t, "new 3; open 2 3 -> error 5; open 1 3; open 1 3 -> error 10; open 1 003 -> error 10; open 1 4; kept 1 3 -> mine 0 kept best none; kept 1 4 -> mine 0 kept best none; kept 1 5 -> error 9; kept 0 3 -> error 9; kept 2 3 -> error 9")
	many := "new 2"
	for seed := range 8 {
		many += fmt.Sprintf("; open 0 %d", seed)
	}
	wantPlay(t, many+"; open 0 8 -> error 8; open 0 7 -> error 10; open 0 999999999999 -> error 8; open 1 999999999999; kept 1 999999999999 -> mine 0 kept best none; kept 1 999999999998 -> error 9")
}

// P32.1: what a move's outcome is: the first amount is the first wallet's, the second one the second's, both of t.
func TestAmounts(t *testing.T) {
	funded := "; post 0; move 1 3 d 4 9; post 1; mint 0 30; mint 1 30; fee 0 9; fee 1 9; look 0; take 0; held 3 -> 4; look 1; take 1; held 3 -> 13; coins 0 -> 26 8; coins 1 -> 21 8"
	begun := "new 2; open 0 3; open 1 3; move 0 3 d 4 9"
	wantPlay(t, begun+funded+"; look 0; post 2; look 1; post 3; kept 0 3 -> mine 3 kept 1 2 3 best 3; final 0 3 d 4 9; post 4; post 5; exit 0 3; look 0; take 2; look 0; take 3; held 3 -> 0; coins 0 -> 30 6; coins 1 -> 30 8")
	// Whatever channel it is, and whatever its own amounts are: here 0, 0.
	wantPlay(t, "new 2; open 0 441; open 1 441; move 0 441 d 4 0; post 0; move 1 441 d 4 1 -> error 12; move 1 441 d 5 0 -> error 12; move 1 441 d 0 4 -> error 12; move 1 441 d 4 0; post 1; mint 0 5; fee 0 1; look 0; take 0; held 441 -> 4; coins 0 -> 1 0")
	wantPlay(t, "new 2; open 0 3; move 0 3 d 999999999999 999999999999; kept 0 3 -> mine 1 kept 0 best none")
}

// P32.1: Data is the word that stands there, of at most 256 bytes.
func TestData(t *testing.T) {
	x := rep('x', 255)
	wantPlay(t, "new 2; open 0 3; open 1 3; move 0 3 "+x+"yz 1 1 -> error 2; move 0 3 "+x+"y 1 1; post 0; move 1 3 "+x+" 1 1 -> error 12; move 1 3 "+x+"z 1 1 -> error 12; move 1 3 "+x+"y 1 1")
	for _, d := range []string{"7", "#", "move", "\x00", "\xff\xfe", "d\r", "\t", "é"} {
		wantPlay(t, "new 2; open 0 3; open 1 3; move 0 3 "+d+" 1 1; post 0; move 1 3 d 1 1 -> error 12; move 1 3 "+d+" 1 1")
	}
}

// P32.1: behind a final turn nothing but another one comes, where behind a move some more can come.
func TestFinal(t *testing.T) {
	begun := "new 2; open 0 %[1]d; open 1 %[1]d; fee 0 9; final 0 %[1]d d 0 0 -> error 12; move 0 %[1]d d 0 0; post 0; move 1 %[1]d d 0 0; post 1; look 0; post 2; look 1; post 3; "
	// With a rule, and without one.
	for seed, behind := range map[int]string{
		0: "move 0 0 d 0 0; post 4; final 1 0 d 0 0; post 5; post 6; kept 0 0 -> mine 6 kept 3 4 5 best 5; move 0 0 d 0 0 -> error 14; final 0 0 d 1 0 -> error 12; final 1 0 d 0 0 -> error 11; final 0 0 e 0 0; kept 0 0 -> mine 7 kept 4 5 6 best 6; exit 0 0; look 0; take 0; look 0; take 1 -> error 9",
		3: "final 0 3 d 0 0; post 4; kept 1 3 -> mine 5 kept 2 3 4 best 4; post 5; kept 0 3 -> mine 5 kept 2 3 4 best 4; move 1 3 d 0 0 -> error 14; exit 1 3; fee 1 1; look 1; take 0; coins 1 -> 0 0; final 1 3 e 0 0",
	} {
		wantPlay(t, fmt.Sprintf(begun, seed)+behind)
	}
}

// P32.1: letters and transactions come by their numbers, late, more than once, or never.
func TestPostTake(t *testing.T) {
	wantPlay(t, "new 2; open 0 3; open 0 7; move 0 3 d 1 1; move 0 7 d 1 1; post 2 -> error 9; post 1 -> error 9; open 1 3; open 1 7; post 1; kept 1 7 -> mine 0 kept 0 best none; kept 1 3 -> mine 0 kept best none; post 0; kept 1 3 -> mine 0 kept 0 best none; post 00; move 1 3 d 1 1; move 1 7 d 1 1; post 3; post 2; mint 0 3; fee 0 9; look 0; take 2 -> error 9; take 1 -> error 17; take 0; held 3 -> 1; held 7 -> 0; take 0 -> error 17; take 1; held 7 -> 1; coins 0 -> 1 7")
}

// P32.1: moments go by, up to the last one; a challenge ends with them.
func TestTick(t *testing.T) {
	wantPlay(t, "new 1; tick 0; tick 999999999999; tick 99511627777 -> error 23; tick 99511627775; tick 1; tick 1 -> error 23; tick 0")
	// The channel 3 is one of a challenge of 16 moments.
	begun := "new 2; open 0 3; open 1 3; move 0 3 d 4 9; post 0; move 1 3 d 4 9; post 1; mint 0 4; mint 1 9; fee 0 9; fee 1 9; look 0; take 0; look 1; take 1; exit 0 3; look 0; take 2; "
	wantPlay(t, begun+"tick 15; look 0; take 3 -> error 9; held 3 -> 13; tick 1; look 0; take 3; held 3 -> 0; coins 0 -> 4 6; coins 1 -> 9 8")
}

// P32.1: power that fails behind so many bytes, and comes back with so many of what does not last yet.
func TestPower(t *testing.T) {
	wantPlay(t, "new 2; arm 0 0; open 0 3 -> error 26; arm 0 999999999999; open 0 3 -> error 26; open 1 3; crash 0 999999999999; open 0 3; arm 0 999999999999; move 0 3 d 1 1; kept 0 3 -> mine 1 kept 0 best none; crash 0 0; kept 0 3 -> mine 1 kept 0 best none")
	// A record that is not whole is none.
	wantPlay(t, "new 1; arm 0 3; open 0 3 -> error 26; crash 0 3; kept 0 3 -> error 9; open 0 3; kept 0 3 -> mine 0 kept best none")
}

// P32.1: the byte from which on the power is enough, and the least bytes of a whole record that must be kept.
func TestFuse(t *testing.T) {
	enough := func(n int) bool { return Play(fmt.Sprintf("new 1\narm 0 %d\nopen 0 3", n)) == "ok\nok\nok\n" }
	n := sort.Search(5000, enough)
	if n < 300 || n > 2000 || enough(n-1) {
		t.Fatalf("a channel's record is of %d bytes", n)
	}
	wantPlay(t, fmt.Sprintf("new 1; arm 0 %d; open 0 3 -> error 26; crash 0 %d; kept 0 3 -> error 9", n-1, n))
	// A fuse of all its bytes is burnt down by them: the next one is too much.
	wantPlay(t, fmt.Sprintf("new 1; arm 0 %d; open 0 3; open 0 4 -> error 26; crash 0 0; kept 0 3 -> mine 0 kept best none; kept 0 4 -> error 9; open 0 4", n))
}

// P32.1: what is kept of a channel: nothing yet; states that nothing supports; some.
func TestKept(t *testing.T) {
	wantPlay(t, "new 2; open 0 0; open 1 0; kept 0 0 -> mine 0 kept best none; move 0 0 d 16 5; kept 0 0 -> mine 1 kept 0 best none; kept 1 0 -> mine 0 kept best none; post 0; kept 1 0 -> mine 0 kept 0 best none; move 1 0 d 16 5; kept 1 0 -> mine 2 kept 0 1 best 1; kept 0 0 -> mine 1 kept 0 best none; post 1; kept 0 0 -> mine 1 kept 0 1 best 1; held 0 -> 0")
	wantPlay(t, "honest 0 20; kept 0 0 -> mine 25 kept 22 23 24 best 24; kept 1 0 -> mine 25 kept 22 23 24 best 24; kept 0 1 -> error 9; kept 2 0 -> error 9")
}

// P32.3: behind honest, whatever the seed is, and how many turns, both wallets have 20 of t, and nothing is held.
func TestHonest(t *testing.T) {
	seeds := []string{"0", "1", "3", "390", "424", "9", "105", "441", "636", "31765", "000000000009", "999999999999"}
	seed := uint64(32)
	for range 24 {
		seeds = append(seeds, fmt.Sprint(mix(&seed)%1000000000000))
	}
	for i, s := range seeds {
		t.Run(s, func(t *testing.T) {
			t.Parallel()
			n := []string{"0", "1", "2", "3", "20", "21", "999999999999"}[i%7]
			got := strings.Split(Play("honest "+s+" "+n+"\ncoins 0\ncoins 1\nheld "+s+"\ncoins 2"), "\n")
			if len(got) != 6 || got[0] != "ok" || !strings.HasPrefix(got[1], "20 ") || !strings.HasPrefix(got[2], "20 ") || got[3] != "0" || got[4] != "error 9" {
				t.Errorf("honest %s %s: %q", s, n, got)
			}
		})
	}
}

// P32.1: honest tells so many turns more as it says, and at most 20.
func TestTurns(t *testing.T) {
	for n, last := range map[string]int{"0": 4, "1": 5, "2": 6, "00005": 9, "19": 23, "20": 24, "21": 24, "999999999999": 24} {
		wantPlay(t, fmt.Sprintf("honest 0 %s; kept 1 0 -> mine %d kept %d %d %d best %d", n, last+1, last-2, last-1, last, last))
	}
}
