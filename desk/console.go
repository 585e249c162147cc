package desk

import (
	"truce/api"
	"truce/gen"
	"truce/hash"
	"truce/judge"
	"truce/world"
)

// console is what stays from line to line: a world, once it has begun.
type console struct {
	world api.World
	begun bool
}

// answer is what a line puts out.
func (c *console) answer(words []string) string {
	l, ok := read(words)
	if !ok {
		return told(api.ErrSyntax)
	}
	switch l.verb {
	case "new":
		return c.begin(world.New(l.nums[0]))
	case "honest":
		return c.begin(world.Run(2, gen.Honest(uint64(l.nums[0]), l.nums[1])))
	case "hash":
		return toHex(hash.Sum(l.text)) + "\n"
	case "run":
		return run(l.text)
	case "list":
		return listing(l.text)
	}
	if !c.begun {
		return told(api.ErrState)
	}
	return c.ofWorld(l)
}

func (c *console) begin(w api.World) string {
	c.world, c.begun = w, true
	return told(api.OK)
}

// ofWorld is the answer to a line that moves the world, or asks what is in it.
func (c *console) ofWorld(l line) string {
	switch l.verb {
	case "coins", "kept":
		return c.ofWallet(l)
	case "held":
		return amount(judge.Held(c.world.Chain.Judge, channelOf(l.nums[0]), gold)) + "\n"
	}
	w, err := world.Step(c.world, moveOf(l))
	// Beside an error, too: what was done ahead of it stays.
	c.world = w
	return told(err)
}

// ofWallet is the answer to a line that asks for what a wallet has, or keeps.
func (c *console) ofWallet(l line) string {
	if l.nums[0] >= len(c.world.Wallets) {
		return told(api.ErrNone)
	}
	b := c.world.Wallets[l.nums[0]].Book
	if l.verb == "coins" {
		return coins(c.world.Chain.Coins, b.Who)
	}
	return kept(b, channelOf(l.nums[1]))
}
