package abacus_test

import (
	"strings"
	"testing"

	"abacus/abacus"
)

// upTo40 is what `iota 40` shows.
const upTo40 = "1 2 3 4 5 6 7 8 9 10 11 12 13 14 15 16 17 18 19 20 21 22 23 24 25 26 27 28 29 30 31 32 33 34 35 36 37 38 39 40"

func TestP6ByItem(t *testing.T) {
	s := sessionWith(t, "e: iota 0")
	checkLines(t, s, []lineCase{
		{"1 2 3 + 10 20 30", "11 22 33", abacus.OK, 0},
		{"1 2 3 - 1", "0 1 2", abacus.OK, 0},
		{"1 - 1 2 3", "0 ~1 ~2", abacus.OK, 0},
		{"2 * 3", "6", abacus.OK, 0},
		{"1 2 3 % 2 4 0/7", "", abacus.ErrZero, 6},
		{"1 2 % 2 3", "1/2 2/3", abacus.OK, 0},
		{"3 | ~7 7 0", "2 1 0", abacus.OK, 0},
		{"2 ^ 0 1 ~1", "1 2 1/2", abacus.OK, 0},
		{"1 2 3 < 2", "1 0 0", abacus.OK, 0},
		{"1 2 3 > 2", "0 0 1", abacus.OK, 0},
		{"1 2 3 = 2", "0 1 0", abacus.OK, 0},
		{"1 5 min 3 3", "1 3", abacus.OK, 0},
		{"1 5 max 3 3", "3 5", abacus.OK, 0},
		{"(iota 40) + 0", upTo40, abacus.OK, 0},
		{"0 + iota 40", upTo40, abacus.OK, 0},
		{"(iota 40) - iota 40", strings.TrimSuffix(strings.Repeat("0 ", 40), " "), abacus.OK, 0},
		{"e + e", "", abacus.OK, 0},
		{"e + 1", "", abacus.OK, 0},
		{"1 % e", "", abacus.OK, 0},
		{"e + 1 2", "", abacus.ErrShape, 2},
		{"1 2 + e", "", abacus.ErrShape, 4},
		{"1 2 + 1 2 3", "", abacus.ErrShape, 4},
		{"1 2 3 + 1 2", "", abacus.ErrShape, 6},
		{"1 2 min 1 2 3", "", abacus.ErrShape, 4},
		{"0 0 % 0 0 0", "", abacus.ErrShape, 4},
	})
}

// TestP6FirstError: by the items' order.
func TestP6FirstError(t *testing.T) {
	checkLines(t, abacus.New(), []lineCase{
		{"0 2 10 ^ ~1 1/2 60", "", abacus.ErrZero, 7},
		{"2 0 10 ^ 1/2 ~1 60", "", abacus.ErrArg, 7},
		{"10 2 0 ^ 60 1/2 ~1", "", abacus.ErrBig, 7},
		{"1 1 1 10 2 0 ^ 1 1 1 60 1/2 ~1", "", abacus.ErrBig, 13},
		{"0 2 ^@ ~1 1/2", "", abacus.ErrZero, 4},
		{"0 10 ^@ 60 ~1", "", abacus.ErrZero, 5},
		{"10 0 ^@ 60 ~1", "", abacus.ErrBig, 5},
		{"1 2 ^@ 1 1/2", "", abacus.ErrArg, 4},
		{"1 2 | 1 1/2", "", abacus.ErrArg, 4},
		{"99999999999999999999 ^ 4", "", abacus.ErrBig, 21},
		{"2 ^ 100", "", abacus.ErrArg, 2},
	})
}

func TestP6AllPairs(t *testing.T) {
	s := sessionWith(t, "e: iota 0")
	checkLines(t, s, []lineCase{
		{"1 2 3 *@ 1 10", "1 10 2 20 3 30", abacus.OK, 0},
		{"1 2 -@ 10 20 30", "~9 ~19 ~29 ~8 ~18 ~28", abacus.OK, 0},
		{"5 -@ 2", "3", abacus.OK, 0},
		{"1 2 -@ 1", "0 1", abacus.OK, 0},
		{"1 -@ 1 2", "0 ~1", abacus.OK, 0},
		{"1 2 min@ 2 1", "1 1 2 1", abacus.OK, 0},
		{"(iota 40) *@ 1", upTo40, abacus.OK, 0},
		{"1 *@ iota 40", upTo40, abacus.OK, 0},
		{"len (iota 8) +@ iota 5", "40", abacus.OK, 0},
		{"len (iota 5) +@ iota 8", "40", abacus.OK, 0},
		{"(iota 41) +@ 1", "", abacus.ErrArg, 1},
		{"(iota 7) +@ iota 6", "", abacus.ErrShape, 9},
		{"1 2 3 *@ iota 14", "", abacus.ErrShape, 6},
		{"1 2 %@ (iota 20), 0", "", abacus.ErrShape, 4},
		{"1 2 %@ (iota 19), 0", "", abacus.ErrZero, 4},
		{"e +@ iota 40", "", abacus.OK, 0},
		{"(iota 40) +@ e", "", abacus.OK, 0},
		{"e %@ e", "", abacus.OK, 0},
	})
}

func TestP7ItemMonads(t *testing.T) {
	s := sessionWith(t, "e: iota 0")
	checkLines(t, s, []lineCase{
		{"- 1 ~2 0 3/4", "~1 2 0 ~3/4", abacus.OK, 0},
		{"% 1 ~2 3/4", "1 ~1/2 4/3", abacus.OK, 0},
		{"% 1 0", "", abacus.ErrZero, 0},
		{"1 + % 0", "", abacus.ErrZero, 4},
		{"abs ~1 2 ~3/4 0", "1 2 3/4 0", abacus.OK, 0},
		{"abs -10 ^ 59", tenTo(59), abacus.OK, 0},
		{"- e", "", abacus.OK, 0},
		{"% e", "", abacus.OK, 0},
		{"abs e", "", abacus.OK, 0},
		{"- iota 3", "~1 ~2 ~3", abacus.OK, 0},
		{"-(1 2)", "~1 ~2", abacus.OK, 0},
		{"% - 2", "~1/2", abacus.OK, 0},
		{"abs - 1 + 1", "2", abacus.OK, 0},
	})
}

func TestP7RevLenIota(t *testing.T) {
	s := sessionWith(t, "e: iota 0", "v: 1 2 3")
	checkLines(t, s, []lineCase{
		{"rev 1 2 3", "3 2 1", abacus.OK, 0},
		{"rev v", "3 2 1", abacus.OK, 0},
		{"v", "1 2 3", abacus.OK, 0},
		{"v - rev v", "~2 0 2", abacus.OK, 0},
		{"rev 5", "5", abacus.OK, 0},
		{"rev e", "", abacus.OK, 0},
		{"rev rev iota 40", upTo40, abacus.OK, 0},
		{"len 5", "1", abacus.OK, 0},
		{"len v", "3", abacus.OK, 0},
		{"len e", "0", abacus.OK, 0},
		{"len iota 40", "40", abacus.OK, 0},
		{"iota 0", "", abacus.OK, 0},
		{"iota 1", "1", abacus.OK, 0},
		{"iota 3", "1 2 3", abacus.OK, 0},
		{"iota 6/2", "1 2 3", abacus.OK, 0},
		{"iota 40", upTo40, abacus.OK, 0},
		{"iota 41", "", abacus.ErrArg, 0},
		{"1, iota 41", "", abacus.ErrArg, 3},
		{"iota ~1", "", abacus.ErrArg, 0},
		{"iota 1/2", "", abacus.ErrArg, 0},
		{"iota 81/2", "", abacus.ErrArg, 0},
		{"iota 4294967297", "", abacus.ErrArg, 0},
		{"iota 99999999999999999999", "", abacus.ErrArg, 0},
		{"iota 1 2", "", abacus.ErrShape, 0},
		{"iota 41 41", "", abacus.ErrShape, 0},
		{"iota e", "", abacus.ErrShape, 0},
		{"iota iota 1", "1", abacus.OK, 0},
		{"iota iota 2", "", abacus.ErrShape, 0},
	})
}

func TestP7Reduce(t *testing.T) {
	s := sessionWith(t, "e: iota 0")
	checkLines(t, s, []lineCase{
		{"+/ 1 2 3", "6", abacus.OK, 0},
		{"-/ 1 2 3", "2", abacus.OK, 0},
		{"-/ 10 2 3 4", "7", abacus.OK, 0},
		{"%/ 8 4 2", "4", abacus.OK, 0},
		{"^/ 2 3 2", "512", abacus.OK, 0},
		{"|/ 7 5 3", "3", abacus.OK, 0},
		{"</ 1 2 3", "0", abacus.OK, 0},
		{">/ 1 0 1", "1", abacus.OK, 0},
		{"=/ 1 2 2", "1", abacus.OK, 0},
		{"min/ 3 1 2", "1", abacus.OK, 0},
		{"max/ 1 3 2", "3", abacus.OK, 0},
		{"+/ 5", "5", abacus.OK, 0},
		{"%/ 0", "0", abacus.OK, 0},
		{"+/ e", "", abacus.ErrShape, 0},
		{"1 , min/ e", "", abacus.ErrShape, 4},
		{"*/ iota 40", "815915283247897734345611269596115894272000000000", abacus.OK, 0},
		{"%/ 1 0 0", "", abacus.ErrZero, 0},
		{"1 + %/ 1 0", "", abacus.ErrZero, 4},
		{"^/ 0 ~1 1/2", "", abacus.ErrArg, 0}, // ~1 ^ 1/2 is worked out first
		{"^/ 2 10 60", "", abacus.ErrBig, 0},
		{"- / 1 2 3", "2", abacus.OK, 0},
		{"-/ -/ 1 2 3", "2", abacus.OK, 0},
		{"+/ 2 * 1 2 3", "12", abacus.OK, 0},
	})
}

func TestP7Scan(t *testing.T) {
	s := sessionWith(t, "e: iota 0")
	checkLines(t, s, []lineCase{
		{"+\\ 1 2 3", "1 3 6", abacus.OK, 0},
		{"-\\ 1 2 3", "1 ~1 2", abacus.OK, 0},
		{"-\\ 1 2 3 4", "1 ~1 2 ~2", abacus.OK, 0},
		{"%\\ 8 4 2", "8 2 4", abacus.OK, 0},
		{"min\\ 3 1 2", "3 1 1", abacus.OK, 0},
		{"max \\ 1 3 2", "1 3 3", abacus.OK, 0},
		{"+\\ 5", "5", abacus.OK, 0},
		{"+\\ e", "", abacus.ErrShape, 0},
		{"1, -\\ e", "", abacus.ErrShape, 3},
		{"+\\ 40 # 1", upTo40, abacus.OK, 0},
		{"^\\ 0 ~1 1/2", "", abacus.ErrZero, 0}, // the first two come ahead of all three
		{"^\\ 10 60 1/2", "", abacus.ErrBig, 0},
		{"^\\ 10 1/2 60", "", abacus.ErrArg, 0},
		{"1 2 + %\\ 1 0", "", abacus.ErrZero, 6},
		{"+/ +\\ iota 40", "11480", abacus.OK, 0},
	})
}

func TestP8Follow(t *testing.T) {
	s := sessionWith(t, "e: iota 0")
	checkLines(t, s, []lineCase{
		{"1, 2", "1 2", abacus.OK, 0},
		{"1 2 , 3 4", "1 2 3 4", abacus.OK, 0},
		{"1, 2, 3", "1 2 3", abacus.OK, 0},
		{"e, e", "", abacus.OK, 0},
		{"e, 1", "1", abacus.OK, 0},
		{"1, e", "1", abacus.OK, 0},
		{"(iota 39), 40", upTo40, abacus.OK, 0},
		{"1, 1 + iota 39", upTo40, abacus.OK, 0},
		{"(iota 40), e", upTo40, abacus.OK, 0},
		{"(iota 40), 1", "", abacus.ErrShape, 9},
		{"1, iota 40", "", abacus.ErrShape, 1},
		{"(iota 20), iota 21", "", abacus.ErrShape, 9},
		{"(iota 40), iota 40", "", abacus.ErrShape, 9},
	})
}

func TestP8Repeat(t *testing.T) {
	s := sessionWith(t, "e: iota 0")
	checkLines(t, s, []lineCase{
		{"5 # 1 2", "1 2 1 2 1", abacus.OK, 0},
		{"2 # 1 2 3", "1 2", abacus.OK, 0},
		{"3 # 1 2 3", "1 2 3", abacus.OK, 0},
		{"1 # 7", "7", abacus.OK, 0},
		{"6/3 # 7", "7 7", abacus.OK, 0},
		{"0 # 1", "", abacus.OK, 0},
		{"0 # e", "", abacus.OK, 0},
		{"40 # iota 40", upTo40, abacus.OK, 0},
		{"40 # 1", row(40), abacus.OK, 0},
		{"41 # 1", "", abacus.ErrArg, 3},
		{"41 # e", "", abacus.ErrArg, 3},
		{"~1 # 1", "", abacus.ErrArg, 3},
		{"1/2 # 1", "", abacus.ErrArg, 4},
		{"1/2 # e", "", abacus.ErrArg, 4},
		{"4294967297 # 1", "", abacus.ErrArg, 11},
		{"1 2 # 3", "", abacus.ErrShape, 4},
		{"41 41 # 3", "", abacus.ErrShape, 6},
		{"e # 3", "", abacus.ErrShape, 2},
		{"e # e", "", abacus.ErrShape, 2},
		{"1 # e", "", abacus.ErrShape, 2},
		{"40 # e", "", abacus.ErrShape, 3},
	})
}
