package codes

import (
	"fmt"
	"regexp"
	"strconv"
	"strings"

	"truce/api"
)

// table is the chapter's, without those that go by a number.
const table = `
| 00 | STOP | 0 | 0 | 0 |
| 01 | ADD | 2 | 1 | 3 |
| 02 | MUL | 2 | 1 | 5 |
| 03 | SUB | 2 | 1 | 3 |
| 04 | DIV | 2 | 1 | 5 |
| 05 | SDIV | 2 | 1 | 5 |
| 06 | MOD | 2 | 1 | 5 |
| 07 | SMOD | 2 | 1 | 5 |
| 08 | ADDMOD | 3 | 1 | 8 |
| 09 | MULMOD | 3 | 1 | 8 |
| 0a | EXP | 2 | 1 | 10 |
| 0b | SIGNEXTEND | 2 | 1 | 5 |
| 10 | LT | 2 | 1 | 3 |
| 11 | GT | 2 | 1 | 3 |
| 12 | SLT | 2 | 1 | 3 |
| 13 | SGT | 2 | 1 | 3 |
| 14 | EQ | 2 | 1 | 3 |
| 15 | ISZERO | 1 | 1 | 3 |
| 16 | AND | 2 | 1 | 3 |
| 17 | OR | 2 | 1 | 3 |
| 18 | XOR | 2 | 1 | 3 |
| 19 | NOT | 1 | 1 | 3 |
| 1a | BYTE | 2 | 1 | 3 |
| 1b | SHL | 2 | 1 | 3 |
| 1c | SHR | 2 | 1 | 3 |
| 1d | SAR | 2 | 1 | 3 |
| 20 | KECCAK256 | 2 | 1 | 30 |
| 35 | CALLDATALOAD | 1 | 1 | 3 |
| 36 | CALLDATASIZE | 0 | 1 | 2 |
| 37 | CALLDATACOPY | 3 | 0 | 3 |
| 38 | CODESIZE | 0 | 1 | 2 |
| 39 | CODECOPY | 3 | 0 | 3 |
| 50 | POP | 1 | 0 | 2 |
| 51 | MLOAD | 1 | 1 | 3 |
| 52 | MSTORE | 2 | 0 | 3 |
| 53 | MSTORE8 | 2 | 0 | 3 |
| 56 | JUMP | 1 | 0 | 8 |
| 57 | JUMPI | 2 | 0 | 10 |
| 58 | PC | 0 | 1 | 2 |
| 59 | MSIZE | 0 | 1 | 2 |
| 5a | GAS | 0 | 1 | 2 |
| 5b | JUMPDEST | 0 | 0 | 1 |
| f3 | RETURN | 2 | 0 | 0 |
| fd | REVERT | 2 | 0 | 0 |
| fe | INVALID | 0 | 0 | 0 |
| 5f | PUSH0 | 0 | 1 | 2 |`

// plainRow is a row of the table.
type plainRow struct {
	name             string
	takes, lays, gas int
	own              int
}

// plainRows is the table, read, and what goes by a number.
func plainRows() map[byte]plainRow {
	out := map[byte]plainRow{}
	for _, line := range strings.Split(strings.TrimSpace(table), "\n") {
		cells := strings.Split(strings.Trim(line, "| "), " | ")
		op, err := strconv.ParseUint(cells[0], 16, 8)
		if err != nil || len(cells) != 5 {
			panic("a test's row is none: " + line)
		}
		var n [3]int
		for i := range n {
			if n[i], err = strconv.Atoi(cells[2+i]); err != nil {
				panic(err)
			}
		}
		out[byte(op)] = plainRow{name: cells[1], takes: n[0], lays: n[1], gas: n[2]}
	}
	for n := 1; n <= 32; n++ {
		out[byte(0x5f+n)] = plainRow{fmt.Sprintf("PUSH%d", n), 0, 1, 3, n}
	}
	for n := 1; n <= 16; n++ {
		out[byte(0x7f+n)] = plainRow{fmt.Sprintf("DUP%d", n), n, n + 1, 3, 0}
		out[byte(0x8f+n)] = plainRow{fmt.Sprintf("SWAP%d", n), n + 1, n + 1, 3, 0}
	}
	return out
}

// plain is the chapter's table by bytes.
var plain = plainRows()

// plainBytes is the bytes of names.
var plainBytes = func() map[string]byte {
	out := map[string]byte{}
	for op, row := range plain {
		out[row.name] = op
	}
	return out
}()

// plainOwn tells of each byte of a code whether it is a PUSH's own.
func plainOwn(code string) []bool {
	out := make([]bool, len(code))
	for i := range out {
		if out[i] {
			continue
		}
		for k := 1; k <= plain[code[i]].own && i+k < len(code); k++ {
			out[i+k] = true
		}
	}
	return out
}

// plainDests is Dests by the chapter's words.
func plainDests(code string) []bool {
	out := make([]bool, len(code))
	for i, own := range plainOwn(code) {
		out[i] = !own && code[i] == 0x5b
	}
	return out
}

// plainListing is Listing by the chapter's words.
func plainListing(code string) string {
	var out strings.Builder
	own := plainOwn(code)
	// bare is from where on each byte is a line of its own.
	bare := len(code)
	if missing(code, own) {
		bare = lastOp(code, own)
	}
	for i := 0; i < len(code); i++ {
		row, there := plain[code[i]]
		switch {
		case i >= bare || !own[i] && !there:
			fmt.Fprintf(&out, "0x%02x\n", code[i])
		case own[i]:
		case row.own > 0:
			fmt.Fprintf(&out, "%s %x\n", row.name, code[i+1:i+1+row.own])
		default:
			fmt.Fprintf(&out, "%s\n", row.name)
		}
	}
	return out.String()
}

// lastOp is the place of a code's last operation.
func lastOp(code string, own []bool) int {
	i := len(code) - 1
	for i >= 0 && own[i] {
		i--
	}
	return i
}

// missing tells whether a code's last operation has not all of its own.
func missing(code string, own []bool) bool {
	i := lastOp(code, own)
	return i >= 0 && i+plain[code[i]].own >= len(code)
}

var (
	plainWord = regexp.MustCompile(`(?s)[^ \n]+`)
	plainByte = regexp.MustCompile(`^0x[0-9a-f][0-9a-f]$`)
	plainHex  = regexp.MustCompile(`^([0-9a-f][0-9a-f])+$`)
)

// plainAssemble is Assemble by the chapter's words.
func plainAssemble(text string) (string, int, api.Errno) {
	var code []byte
	all := plainWord.FindAllStringIndex(text, -1)
	for i := 0; i < len(all); i++ {
		word := text[all[i][0]:all[i][1]]
		if plainByte.MatchString(word) {
			b, _ := strconv.ParseUint(word[2:], 16, 8)
			code = append(code, byte(b))
			continue
		}
		op, there := plainBytes[word]
		if !there {
			return "", all[i][0], api.ErrSyntax
		}
		code = append(code, op)
		if plain[op].own == 0 {
			continue
		}
		if i++; i == len(all) {
			return "", len(text), api.ErrSyntax
		}
		word = text[all[i][0]:all[i][1]]
		if !plainHex.MatchString(word) || len(word) != 2*plain[op].own {
			return "", all[i][0], api.ErrSyntax
		}
		for k := 0; k < len(word); k += 2 {
			b, _ := strconv.ParseUint(word[k:k+2], 16, 8)
			code = append(code, byte(b))
		}
	}
	return string(code), 0, api.OK
}

// mix is a fixed row of numbers that look mixed: the tests must go alike each time.
func mix(seed *uint64) uint64 {
	*seed += 0x9e3779b97f4a7c15
	z := *seed
	z = (z ^ z>>30) * 0xbf58476d1ce4e5b9
	z = (z ^ z>>27) * 0x94d049bb133111eb
	return z ^ z>>31
}

func below(seed *uint64, n int) int { return int(mix(seed) % uint64(n)) }

// mixedCode is some code of so many bytes, with PUSHes, JUMPDESTs and bytes that are none more often than by chance.
func mixedCode(seed *uint64, n int) string {
	raw := make([]byte, n)
	for i := range raw {
		switch below(seed, 5) {
		case 0:
			raw[i] = 0x5b
		case 1:
			raw[i] = 0x5f + byte(below(seed, 6))
		case 2:
			raw[i] = 0x5f + byte(below(seed, 34))
		default:
			raw[i] = byte(mix(seed))
		}
	}
	return string(raw)
}
