package desk

import (
	"truce/api"
	"truce/gen"
	"truce/num"
	"truce/state"
)

// The assets that a console knows: that of channels, and that of fees.
const (
	gold = "tttttttttttttttttttt"
	fees = "\x00\x00\x00\x00\x00\x00\x00\x00\x00\x00\x00\x00\x00\x00\x00\x00\x00\x00\x00\x00"
)

// moveOf is the move that a line asks for: an act, if it is nothing else.
func moveOf(l line) api.Move {
	switch l.verb {
	case "mint":
		return mintOf(l, gold)
	case "fee":
		return mintOf(l, fees)
	case "post":
		return api.Move{Kind: api.MvPost, N: l.nums[0]}
	case "take":
		return api.Move{Kind: api.MvTake, N: l.nums[0]}
	case "tick":
		return api.Move{Kind: api.MvTick, N: l.nums[0]}
	case "arm":
		return api.Move{Kind: api.MvArm, Who: l.nums[0], N: l.nums[1]}
	case "crash":
		return api.Move{Kind: api.MvCrash, Who: l.nums[0], N: l.nums[1]}
	}
	return api.Move{Kind: api.MvAct, Who: l.nums[0], Act: actOf(l)}
}

func mintOf(l line, asset string) api.Move {
	return api.Move{Kind: api.MvMint, Who: l.nums[0], Asset: asset, Amount: amountOf(l.nums[1])}
}

// actOf is what a line tells a wallet: a turn, if it is nothing else.
func actOf(l line) api.Act {
	if l.verb == "look" {
		return api.Act{Kind: api.AcLook}
	}
	f, exits := gen.Channel(uint64(l.nums[1]))
	switch l.verb {
	case "open":
		return api.Act{Kind: api.AcOpen, Fixed: f}
	case "exit":
		return api.Act{Kind: api.AcExit, Channel: state.Id(f)}
	}
	for at := range exits[0].Allocs {
		exits[0].Allocs[at].Amount = amountOf(l.nums[2+at])
	}
	return api.Act{Kind: api.AcMove, Channel: state.Id(f), Data: l.text, Exits: exits, Final: l.verb == "final"}
}

func amountOf(n int) api.U { return num.Of(uint64(n)) }

// channelOf is a seed's channel, as it is named everywhere.
func channelOf(seed int) string {
	f, _ := gen.Channel(uint64(seed))
	return state.Id(f)
}
