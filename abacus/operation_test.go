package abacus_test

import (
	"runtime/debug"
	"strings"
	"sync"
	"testing"
	"unsafe"

	"abacus/abacus"
)

// tower defines the operations a to l: each but the first is as many uses of the one before it as a line can hold.
func tower(t *testing.T, first string) *abacus.Session {
	t.Helper()
	s := sessionWith(t, "def a x: "+first)
	for c := 'b'; c <= 'l'; c++ {
		line := "def " + string(c) + " x: " + strings.Repeat(string(c-1)+" ", 55) + "x"
		checkLines(t, s, []lineCase{{line, "", abacus.OK, 0}})
	}
	return s
}

// TestP1OperationsEnd: the last one uses the first one 55 ^ 11 times, and that may make no step.
func TestP1OperationsEnd(t *testing.T) {
	checkShown(t, tower(t, "x"), [][2]string{{"l 1 2 3", "1 2 3"}, {"l iota 0", ""}})
	checkShown(t, tower(t, "rev x"), [][2]string{{"l 1 2 3", "3 2 1"}, {"l l 1 2 3", "1 2 3"}})
	checkShown(t, tower(t, "(rev 2 # rev x), 1 # x"), [][2]string{{"l 1 2 3", "2 3 1"}})
	checkShown(t, tower(t, "len x"), [][2]string{{"l 1 2 3", "1"}})
	checkLines(t, tower(t, "x + x"), []lineCase{{"l iota 0", "", abacus.OK, 0}, {"- l 0", "", abacus.ErrSteps, 2}, {"- l 1", "", abacus.ErrBig, 2}})
	checkLines(t, tower(t, "x, x"), []lineCase{{"l iota 0", "", abacus.OK, 0}, {" l 1", "", abacus.ErrShape, 1}})
}

// TestP1OperationsDoubled: a name can be made anew out of what it was without end.
func TestP1OperationsDoubled(t *testing.T) {
	s := sessionWith(t, "def f x: rev x", "def g x: 1 - x")
	for range 1000 {
		checkLines(t, s, []lineCase{{"def f x: f f x", "", abacus.OK, 0}, {"def g x: (g x) max g x", "", abacus.OK, 0}})
	}
	checkLines(t, s, []lineCase{{"f 1 2 3", "1 2 3", abacus.OK, 0}, {"g iota 0", "", abacus.OK, 0}, {"g 1", "", abacus.ErrSteps, 0}})
}

// TestP1OperationsInARow: a long chain needs no deep stack, on which a program would end.
func TestP1OperationsInARow(t *testing.T) {
	defer debug.SetMaxStack(debug.SetMaxStack(1 << 20))
	s := sessionWith(t, "def f x: x", "def g x: x")
	for range 30000 {
		checkLines(t, s, []lineCase{{"def f x: 1 + f x", "", abacus.OK, 0}, {"def g x: rev g x", "", abacus.OK, 0}})
	}
	checkLines(t, s, []lineCase{{"f 0", "", abacus.ErrSteps, 0}, {"f iota 0", "", abacus.OK, 0}, {"g 1 2 3", "1 2 3", abacus.OK, 0}})
}

func TestP1LongDefinitions(t *testing.T) {
	s := abacus.New()
	line := "def f x: x, 1"
	checkLines(t, s, []lineCase{
		{line + strings.Repeat(" ", 121-len(line)), "", abacus.ErrLong, 0},
		{"f 1", "", abacus.ErrName, 0},
		{line + strings.Repeat(" ", 120-len(line)), "", abacus.OK, 0},
		{"f 1", "1 1", abacus.OK, 0},
	})
}

// TestP1RefusedDefinitions: behind them all is as it was.
func TestP1RefusedDefinitions(t *testing.T) {
	s := sessionWith(t, "v: 1 2 3", "k: 2", "def f x: k * x", "def g x: f f x")
	for _, line := range []string{"def", "def f", "def f x", "def f x:", "def f x 0", "def f: 0", "def f f: 0", "def f x: x +", "def f x: 0 )", "def f x: y", "def f x: 00", "def f x: (((((((((0",
		"def f x: " + row(41), "def v x: 0", "def new new: 0", "def new x: new x", "def new x: x x", "def new x: 0 0 0 )", "f: 0", "g: 0", "def k v: v", "def f x: 0" + strings.Repeat(" ", 120), "f 1 % 0", "v: f 1 % 0", "v: g 9 * 10 ^ 59", "v: f"} {
		if text, errno, _ := s.Line(line); text != "" || errno == abacus.OK {
			t.Errorf("Line(%q) = %q, %d, want an error", line, text, errno)
		}
		checkLines(t, s, []lineCase{{"f v", "2 4 6", abacus.OK, 0}, {"g v", "4 8 12", abacus.OK, 0}, {"v, k", "1 2 3 2", abacus.OK, 0},
			{"new 1", "", abacus.ErrName, 0}, {"x", "", abacus.ErrName, 0}, {"y", "", abacus.ErrName, 0}})
	}
	// Nor did one of them take up a name.
	for _, name := range strings.Split("abcdehij", "") {
		checkLines(t, s, []lineCase{{"def " + name + " x: x", "", abacus.OK, 0}})
	}
	checkLines(t, s, []lineCase{{"def l x: x", "", abacus.ErrMany, 4}})
}

func TestP2OperationsOfSessions(t *testing.T) {
	a, b := sessionWith(t, "k: 2", "def f x: x * k", "def only x: x"), sessionWith(t, "k: 5", "def f x: x + k", "only: 7")
	checkShown(t, a, [][2]string{{"f 10", "20"}, {"only 3", "3"}})
	checkShown(t, b, [][2]string{{"f 10", "15"}, {"only", "7"}})
	checkLines(t, a, []lineCase{{"def f x: f f x", "", abacus.OK, 0}, {"k: 0", "", abacus.OK, 0}})
	checkShown(t, b, [][2]string{{"f 10", "15"}, {"k", "5"}})
	checkShown(t, a, [][2]string{{"f 10", "40"}})
	checkLines(t, abacus.New(), []lineCase{{"f 10", "", abacus.ErrName, 0}, {"f: 1", "", abacus.OK, 0}, {"f", "1", abacus.OK, 0}})
}

// TestP2OperationsSideBySide: in goroutines of their own.
func TestP2OperationsSideBySide(t *testing.T) {
	var all sync.WaitGroup
	for i := range 16 {
		all.Add(1)
		go func() {
			defer all.Done()
			s := sessionWith(t, "k: "+[]string{"2", "3"}[i%2])
			for range 50 {
				checkLines(t, s, []lineCase{
					{"def f x: k * x", "", abacus.OK, 0},
					{"def g x: f f x", "", abacus.OK, 0},
					{"g 1 2", []string{"4 8", "9 18"}[i%2], abacus.OK, 0},
					{"1 % g 0", "", abacus.ErrZero, 2},
					{"1 + g 9 * 10 ^ 59", "", abacus.ErrBig, 4},
				})
			}
		}()
	}
	all.Wait()
}

// TestP2LinesAreNotKept: the memory of a line may become something else behind the call.
func TestP2LinesAreNotKept(t *testing.T) {
	s := abacus.New()
	for _, line := range []string{"k: 2 3", "def half a: a % 2 + 0 , 1/2 - 1/2", "def both b: (half b) , k"} {
		memory := []byte(line)
		checkLines(t, s, []lineCase{{unsafe.String(&memory[0], len(memory)), "", abacus.OK, 0}})
		for i := range memory {
			memory[i] = 'q'
		}
	}
	checkShown(t, s, [][2]string{{"k", "2 3"}, {"half 3", "3/2 3/2"}, {"both 5", "5/2 5/2 2 3"}})
}

func TestP4Definitions(t *testing.T) {
	s := sessionWith(t, "v: 1 2 3", "def half a: a % 2", "  def  inc  x  :  x + 1  ", "def dec x:x-1", "def five x: 5", "def same x: x", "def abcdef uvwxyz: uvwxyz, 0")
	checkShown(t, s, [][2]string{
		{"half v", "1/2 1 3/2"}, {"inc 1", "2"}, {"dec 1 2", "0 1"}, {"five v", "5"}, {"five iota 0", "5"}, {"same v", "1 2 3"}, {"same iota 0", ""}, {"abcdef 7", "7 0"},
	})
}

// TestP4DefinitionsBreakOff at the head.
func TestP4DefinitionsBreakOff(t *testing.T) {
	s := sessionWith(t, "v: 1", "def o y: y")
	checkRefused(t, s, abacus.ErrForm, map[string]int{
		// it ends too early
		"def": 3, "def ": 4, "  def  ": 7, "def f": 5, "def f ": 6, "def f x": 7, "def f x ": 8, "def f x:": 8, "def f x: ": 9, "def o": 5, "def v": 5, "def o v": 7, "def v o": 7,
		// a sign that cannot stand there
		"def: 1": 3, "def : 1": 4, "def:": 3, "def(": 3, "def 1": 4, "def 1 x: 1": 4, "def (f) x: 1": 4, "def + x: 1": 4, "def - 1": 4, "def, f x: 1": 3, "def @": 4, "def )": 4,
		"def f:": 5, "def f: 1": 5, "def f : 1": 6, "def f 1": 6, "def f 1: 1": 6, "def f (x): 1": 6, "def f, x: 1": 5, "def f + x: 1": 6, "def f / x: 1": 6, "def o: 1": 5, "def v: 1": 5, "def o 1": 6,
		"def f x 1": 8, "def f x (1)": 8, "def f x y: 1": 8, "def f x + 1": 8, "def f x, 1": 7, "def f x)": 7, "def f x:: 1": 8, "def f x @: 1": 8, "def v x 1": 8, "def o v v": 8, "def f x def": 8,
		// words that are no names
		"def def x: 1": 4, "def min x: 1": 4, "def max x: 1": 4, "def abs x: 1": 4, "def iota x: 1": 4, "def rev x: 1": 4, "def len x: 1": 4,
		"def f def: 1": 6, "def f min: 1": 6, "def f max: 1": 6, "def f abs: 1": 6, "def f iota: 1": 6, "def f rev: 1": 6, "def f len: 1": 6,
		"def abcdefg x: 1": 4, "def f abcdefg: 1": 6, "def F x: 1": 4, "def f X: 1": 6, "def fF x: 1": 5, "def f1 x: 1": 5, "def f x1: 1": 7, "def f x abcdefg": 8,
		// a byte or digits that are none of a line's
		"def $": 4, "def$": 3, "def f $": 6, "def f x $": 8, "def f x: $": 9, "def\tf x: 1": 3, "def f x\x00: 1": 7, "def 00": 4, "def f ~": 6, "def f x 1/0": 8, "def f é: 1": 6,
		// a def that does not begin the line
		"(def f x: 1)": 1, "1 def f x: 1": 2, "-def f x: 1": 1, "v: def f x: 1": 3, "def f x: def g y: 1": 9, "v def": 2, "o def f x: 1": 2, "1 + def f x: 1": 4,
	})
	checkLines(t, s, []lineCase{{"deff x: 1", "", abacus.ErrName, 0}, {"de f: 1", "", abacus.ErrName, 0}, {"def f x: 1", "", abacus.OK, 0}})
}

// TestP4DefinitionsAreRead: what is wrong behind the ":" of a "def" is found there, and not when it is used.
func TestP4DefinitionsAreRead(t *testing.T) {
	s := sessionWith(t, "v: 1", "def o y: y")
	checkRefused(t, s, abacus.ErrForm, map[string]int{
		"def f x: x +": 12, "def f x: (x": 11, "def f x: )": 9, "def f x: 1 )": 11, "def f x: x x": 11, "def f x: x 1": 11, "def f x: 1 x": 11, "def f x: + x": 9, "def f x: x: 1": 10, "def f x: v: 1": 10,
		"def f x: 00": 9, "def f x: abcdefg": 9, "def f x: o": 10, "def f x: x o x": 11, "def f x: o + x": 11, "def f x: x /": 11, "def f x: x,, x": 11,
	})
	checkRefused(t, s, abacus.ErrName, map[string]int{"def f x: y": 9, "def f x: f x": 9, "def f x: x + f": 13, "def f x: y )": 9, "def f x: xx": 9, "def f y: x": 9, "def o x: y": 9})
	checkLines(t, s, []lineCase{
		{"def f x: (((((((((x", "", abacus.ErrDeep, 17},
		{"def f x: " + row(41), "", abacus.ErrShape, 89},
		{"def f x: ((((((((o x))))))))", "", abacus.OK, 0},
		{"((((((((f 1))))))))", "1", abacus.OK, 0}, // it is no deeper by what the operation is made of
		{"def f x: " + row(40), "", abacus.OK, 0},
		{"f 1", row(40), abacus.OK, 0},
	})
}

// TestP4DefinitionsAreNotWorkedOut: what would be wrong then comes up where they are used.
func TestP4DefinitionsAreNotWorkedOut(t *testing.T) {
	for body, errno := range map[string]abacus.Errno{"1 % 0": abacus.ErrZero, "iota 41": abacus.ErrArg, "+/ iota 0": abacus.ErrShape, "1 2 + 1 2 3": abacus.ErrShape, "10 ^ 60": abacus.ErrBig,
		"+\\ +\\ +\\ +\\ iota 40": abacus.ErrSteps, "(iota 21), iota 20": abacus.ErrShape, "1/2 # 1": abacus.ErrArg, "(iota 9) +@ iota 9": abacus.ErrShape} {
		s := sessionWith(t, "def f x: "+body)
		checkLines(t, s, []lineCase{{"f 1", "", errno, 0}, {"  1 , f 1", "", errno, 6}, {"v: f 1", "", errno, 3}, {"def g x: f x", "", abacus.OK, 0}, {"g 1", "", errno, 0}})
	}
}

func TestP4Twice(t *testing.T) {
	s := sessionWith(t, "v: 1", "def f x: x + 1", "def g v: v")
	checkRefused(t, s, abacus.ErrTwice, map[string]int{
		// a list is to become an operation
		"def v x: 1": 4, "   def   v  x : 1": 9, "def v f: 1": 4, "def v x:": 4, "def v x: )": 4, "def v x: y": 4, "def v x: 00": 4, "def v x: (((((((((1": 4, "def v x: " + row(41): 4,
		// an operation is to become a list
		"f: 1": 0, "  f : 1": 2, "f:": 0, "f: )": 0, "f: y": 0, "f: 1 % 0": 0, "f:: 1": 0, "f: f": 0, "f: f 1": 0, "f: (((((((((1": 0, "g: 1": 0,
		// the second name is the first one: that stands ahead of the ":", and of all that comes up behind it
		"def f f: 1": 6, "def new new: 1": 8, "def   f   f: 1": 10, "def v v: 1": 6, "def f f: )": 6, "def f f: y": 6, "def f f": 6, "def f f 1": 6,
	})
	checkLines(t, s, []lineCase{{"v", "1", abacus.OK, 0}, {"f 1", "2", abacus.OK, 0}, {"new", "", abacus.ErrName, 0}, {"def v x", "", abacus.ErrForm, 7}, {"def v x 1", "", abacus.ErrForm, 8},
		{"def v 1: 1", "", abacus.ErrForm, 6}, {"f f: 1", "", abacus.ErrForm, 3}, {"v: 2", "", abacus.OK, 0}, {"def f x: x + 2", "", abacus.OK, 0}, {"f v", "4", abacus.OK, 0}})
}

func TestP4OperationsMany(t *testing.T) {
	s := abacus.New()
	for i, name := range strings.Split("abcdefghijk", "") {
		checkLines(t, s, []lineCase{{[]string{"def " + name + " y" + name + ": y" + name, name + ": 5"}[i%2], "", abacus.OK, 0}})
	}
	// What is given to an operation takes up no name.
	checkLines(t, s, []lineCase{{"def l other: other + 1", "", abacus.OK, 0}, {"ya", "", abacus.ErrName, 0}, {"other", "", abacus.ErrName, 0}})
	checkRefused(t, s, abacus.ErrMany, map[string]int{"def m x: 1": 4, "  def  m  x: 1": 7, "def m x:": 4, "def m x: )": 4, "def m x: y": 4, "def m a: 1": 4, "def m b: 1": 4, "def m x: 00": 4, "m: 1": 0, "m: )": 0})
	checkLines(t, s, []lineCase{
		{"def m x", "", abacus.ErrForm, 7}, {"def m x 1", "", abacus.ErrForm, 8}, {"def m m: 1", "", abacus.ErrTwice, 6}, {"def b x: 1", "", abacus.ErrTwice, 4}, {"a: 1", "", abacus.ErrTwice, 0},
		{"def a m: m, 1", "", abacus.OK, 0}, {"a 7", "7 1", abacus.OK, 0}, {"b: 6", "", abacus.OK, 0}, {"a b", "6 1", abacus.OK, 0}, {"l 1", "2", abacus.OK, 0}, {"m", "", abacus.ErrName, 0},
	})
}

// TestP4FirstInDefinitions: of several errors the first from the left.
func TestP4FirstInDefinitions(t *testing.T) {
	s := sessionWith(t, "v: 1", "def f x: 1 % x")
	checkLines(t, s, []lineCase{
		{"def g x: y + )", "", abacus.ErrName, 9}, {"def g x: ) + y", "", abacus.ErrForm, 9}, {"def g x: (((((((((y", "", abacus.ErrDeep, 17}, {"def g x: y + (((((((((1", "", abacus.ErrName, 9},
		{"def g x: (1 % 0) + y", "", abacus.ErrName, 19}, {"def g x: y + " + row(41), "", abacus.ErrName, 9}, {"def 1 v: y", "", abacus.ErrForm, 4}, {"def min min: y", "", abacus.ErrForm, 4},
		{"(f 0) + y", "", abacus.ErrName, 8}, {"(f 0) + )", "", abacus.ErrForm, 8}, {"w: f 0 )", "", abacus.ErrForm, 7}, {"f: y", "", abacus.ErrTwice, 0}, {"y + f: 1", "", abacus.ErrName, 0}, {"f y", "", abacus.ErrName, 2},
	})
}

// TestP4OperationsAreMonads: they stand where a monad does, and nowhere else.
func TestP4OperationsAreMonads(t *testing.T) {
	s := sessionWith(t, "v: 1 2 3", "def f x: x * 10")
	checkShown(t, s, [][2]string{
		{"f v", "10 20 30"}, {"f(v)", "10 20 30"}, {"f 1 + 2", "30"}, {"(f 1) + 2", "12"}, {"1 + f 2", "21"}, {"f f 2", "200"}, {"f - 2", "~20"}, {"-f 2", "~20"}, {"f +/ v", "60"}, {"+/ f v", "60"}, {"+/f v", "60"},
		{"f 2 # v", "10 20"}, {"2 # f v", "10 20"}, {"v , f v", "1 2 3 10 20 30"}, {"v +@ f 1 2", "11 21 12 22 13 23"}, {"f abs ~1", "10"}, {"abs f ~1", "10"}, {"f rev v", "30 20 10"}, {"iota f len 1", "1 2 3 4 5 6 7 8 9 10"},
		{"f ~1/2~3", "~5 ~30"}, {"f3", "30"},
	})
	checkRefused(t, s, abacus.ErrForm, map[string]int{
		"f": 1, "f ": 2, "f f": 3, "1 + f": 5, "(f)": 2, "2 f 3": 2, "v f 3": 2, "(1) f 3": 4, "f + 1": 2, "f , 1": 2, "f # 1": 2, "f )": 2, "f / 1": 2, "f\\ 1": 1, "f @ 1": 2, "f 1 f": 4, "f 1 f 2": 4, "f min 1": 2, "f/ 1": 1, "1 + f: 1": 5,
	})
	checkLines(t, s, []lineCase{{"ff 1", "", abacus.ErrName, 0}, {"fv", "", abacus.ErrName, 0}})
}

// TestP4GivenNames: what is given may have the name of a list or of another operation, which then is hidden in that line alone.
func TestP4GivenNames(t *testing.T) {
	s := sessionWith(t, "v: 1 2 3", "def inv x: 1 % x", "def a inv: inv + 1", "def b v: v, v", "def c inv: (inv * 2), -inv", "def d v: inv v", "def inv v: 2 % v")
	checkShown(t, s, [][2]string{{"a 8", "9"}, {"b 7", "7 7"}, {"c 4", "8 ~4"}, {"d 4", "1/4"}, {"inv 4", "1/2"}, {"v", "1 2 3"}, {"inv v", "2 1 2/3"}})
	checkLines(t, s, []lineCase{{"def e inv: inv inv", "", abacus.ErrForm, 15}, {"def e inv: 1 + inv 2", "", abacus.ErrForm, 19}, {"def e x: inv inv x", "", abacus.OK, 0}, {"e 4", "4", abacus.OK, 0}})
	// One that is defined anew may be hidden too, but not by what is given to itself.
	checkLines(t, s, []lineCase{{"def e inv: inv", "", abacus.OK, 0}, {"e 4", "4", abacus.OK, 0}, {"def inv inv: inv", "", abacus.ErrTwice, 8}})
}

// TestP4PlacesWithin: of all that comes up within an operation, the operation's name in the line.
func TestP4PlacesWithin(t *testing.T) {
	s := sessionWith(t, "def inv x: 1 % x", "def two x:                        inv inv x", "def four x: two (two x) + 0", "def sh x: x + 1 2", "def io x: (iota x), 1", "def rp x: x # 1 2", "def nn x: - %  x", "def big x: x ^ 60", "def all x: x +@ iota 9")
	checkLines(t, s, []lineCase{
		{"inv 0", "", abacus.ErrZero, 0}, {"   inv 0", "", abacus.ErrZero, 3}, {"1 + inv 0", "", abacus.ErrZero, 4}, {"1 + two 3 0", "", abacus.ErrZero, 4}, {"four 0", "", abacus.ErrZero, 0}, {"1 , 2 , four 0", "", abacus.ErrZero, 8},
		{"two two two 0", "", abacus.ErrZero, 8}, {"(two 0) , (two 1)", "", abacus.ErrZero, 1}, {"(two 1) , (two 0)", "", abacus.ErrZero, 11}, {"(two 0) , (four 0)", "", abacus.ErrZero, 11}, {"+/ inv 0", "", abacus.ErrZero, 3},
		{"sh 1 2 3", "", abacus.ErrShape, 0}, {"len sh 1 2 3", "", abacus.ErrShape, 4}, {"io 41", "", abacus.ErrArg, 0}, {"io 1 2", "", abacus.ErrShape, 0}, {"io 40", "", abacus.ErrShape, 0}, {"- io ~1", "", abacus.ErrArg, 2},
		{"rp 1 2", "", abacus.ErrShape, 0}, {"rp 1/2", "", abacus.ErrArg, 0}, {"1, nn 0", "", abacus.ErrZero, 3}, {"1, big 10", "", abacus.ErrBig, 3}, {"1, big 1/10", "", abacus.ErrBig, 3}, {"1 , all iota 5", "", abacus.ErrShape, 4},
		// what comes up beside it
		{"two 1 % 0", "", abacus.ErrZero, 6}, {"inv iota 41", "", abacus.ErrArg, 4}, {"(inv 0) % 1 2 + 1 2 3", "", abacus.ErrShape, 14}, {"(inv 2) % 0", "", abacus.ErrZero, 8}, {"% (inv 2) - inv 2", "", abacus.ErrZero, 0},
		{"(inv 0) + iota 41", "", abacus.ErrArg, 10}, {"(iota 41) + inv 0", "", abacus.ErrZero, 12}, {"1 2 + sh 1 2 + 1 2 3", "", abacus.ErrShape, 13}, {"1 2 3 + sh 1", "", abacus.ErrShape, 6},
	})
}

// TestP5OperationsKeep what names meant when they were defined.
func TestP5OperationsKeep(t *testing.T) {
	s := sessionWith(t, "k: 2", "def f x: k * x", "def g x: (f x) + k", "k: 100", "def f x: 0 * x")
	checkShown(t, s, [][2]string{{"g 3", "8"}, {"f 3", "0"}, {"k", "100"}})
	checkLines(t, s, []lineCase{{"k: k, k", "", abacus.OK, 0}, {"g 3", "8", abacus.OK, 0}, {"def g x: (f x) + k", "", abacus.OK, 0}, {"g 3", "100 100", abacus.OK, 0}, {"k: 1", "", abacus.OK, 0}, {"g 3", "100 100", abacus.OK, 0}})
	// A list is what it was worth, also if it came out of an operation that is another one now.
	checkLines(t, s, []lineCase{{"w: g 3", "", abacus.OK, 0}, {"def g x: 7", "", abacus.OK, 0}, {"w", "100 100", abacus.OK, 0}, {"g 3", "7", abacus.OK, 0}})
}

// TestP5DefinedAnew out of its own former meaning, again and again.
func TestP5DefinedAnew(t *testing.T) {
	s := sessionWith(t, "def f x: x * 2", "def g x: f x", "def f x: 5 + f x")
	checkShown(t, s, [][2]string{{"f 1", "7"}, {"g 1", "2"}})
	checkLines(t, s, []lineCase{{"def f y: f f y", "", abacus.OK, 0}, {"f 1", "19", abacus.OK, 0}, {"def f x: (f x), g x", "", abacus.OK, 0}, {"f 1", "19 2", abacus.OK, 0}, {"g 1", "2", abacus.OK, 0},
		{"def g x: f g x", "", abacus.OK, 0}, {"g 1", "23 4", abacus.OK, 0}, {"f 1", "19 2", abacus.OK, 0}, {"def f x: x", "", abacus.OK, 0}, {"g 1", "23 4", abacus.OK, 0}})
}

// TestP5StepsWithin: those made within operations are the line's, as often as they are used.
func TestP5StepsWithin(t *testing.T) {
	s := sessionWith(t, "def s x: +\\ x", "def n x: - x", "def m x: n x", "def b x: - - x", "def t x: b b b b b b b b b b x", "def h x: t t t t t t t t t t x")
	checkLines(t, s, []lineCase{
		{"(len s s s iota 40), (len s iota 36), len m iota 30", "40 36 30", abacus.OK, 0},
		{"(len s s s iota 40), (len s iota 36), len m iota 31", "", abacus.ErrSteps, 5},
		{"(len s iota 40), len s s s iota 40", "", abacus.ErrSteps, 5},
		{"s s s iota 40", "1 5 15 35 70 126 210 330 495 715 1001 1365 1820 2380 3060 3876 4845 5985 7315 8855 10626 12650 14950 17550 20475 23751 27405 31465 35960 40920 46376 52360 58905 66045 73815 82251 91390 101270 111930 123410", abacus.OK, 0},
		{"s s s s iota 40", "", abacus.ErrSteps, 0},
		{"(n 1), " + steps2999, "~1 40 36 29", abacus.OK, 0},
		{"(n 1), " + steps3000, "", abacus.ErrSteps, 1},
		{"(  m 1), " + steps3000, "", abacus.ErrSteps, 3},
		{"(m 1 2), " + steps2999, "", abacus.ErrSteps, 1},
		{"(m iota 0), " + steps3000, "40 36 30", abacus.OK, 0},
		// 15 * 10 * 10 * 2
		{strings.Repeat("h ", 15) + "5", "5", abacus.OK, 0},
		{"-" + strings.Repeat("h ", 15) + "5", "", abacus.ErrSteps, 0},
		{strings.Repeat("h ", 15) + "-5", "", abacus.ErrSteps, 0},
		{"1 , " + strings.Repeat("h ", 15) + "-5", "", abacus.ErrSteps, 4},
		{"n " + strings.Repeat("h ", 15) + "5", "", abacus.ErrSteps, 0},
		{strings.Repeat("h ", 14) + strings.Repeat("t ", 9) + strings.Repeat("b ", 10) + "5", "5", abacus.OK, 0},
		{"n" + strings.Repeat(" h", 14) + strings.Repeat(" t", 9) + strings.Repeat(" b", 10) + " 5", "", abacus.ErrSteps, 0},
		{strings.Repeat("h ", 7) + "5 6", "5 6", abacus.OK, 0},
		{strings.Repeat("h ", 8) + "5 6", "", abacus.ErrSteps, 0},
	})
}

// TestP5WithinAndOthers: ErrSteps comes ahead of the step, and behind what comes up before.
func TestP5WithinAndOthers(t *testing.T) {
	s := sessionWith(t, "def inv x: % x", "def sh x: x + 1 2")
	checkLines(t, s, []lineCase{
		{"(inv 0), " + steps2999, "", abacus.ErrZero, 1}, {"(inv 0), " + steps3000, "", abacus.ErrSteps, 1}, {"(inv 0 1), " + steps2999, "", abacus.ErrZero, 1}, {"(inv 1 0), " + steps2999, "", abacus.ErrSteps, 1},
		{"(sh 1 2 3), " + steps3000, "", abacus.ErrShape, 1}, {"(sh 1 2), " + steps3000, "", abacus.ErrSteps, 1},
	})
}

// TestP7Operations: the list stands in the place of what is given, wherever that is.
func TestP7Operations(t *testing.T) {
	s := sessionWith(t, "v: 1 2 3", "def half a: a % 2", "def sq x: x * x", "def mean x: (+/ x) % len x", "def fact x: */ iota x", "def poly x: 1 + x + x * x", "def tab x: x *@ x", "def three x: 3",
		"def f x: x + 1", "def g x: (f x * 2) + x", "def h x: x - f x * 2", "def i x: (x, g x), x, h x")
	checkShown(t, s, [][2]string{
		{"half v", "1/2 1 3/2"}, {"half 1 + 2", "3/2"}, {"sq 1 + 2", "9"}, {"sq ~3", "9"}, {"mean v", "2"}, {"mean 1 2", "3/2"}, {"fact 5", "120"}, {"poly 3", "13"}, {"poly v", "3 7 13"},
		{"tab 1 2", "1 2 2 4"}, {"three v", "3"}, {"three iota 0", "3"}, {"sq iota 0", ""}, {"half half v", "1/4 1/2 3/4"}, {"sq half 6", "9"}, {"half sq 6", "18"}, {"mean sq half v", "7/6"}, {"- mean v", "~2"},
		// what is given to one within is not what is given to the one around it
		{"g 3", "10"}, {"h 3", "~4"}, {"g f 3", "13"}, {"f g 3", "11"}, {"g 1 2", "4 7"}, {"i 3", "3 10 3 ~4"}, {"(f 1) , g 3", "2 10"},
	})
	// The list is worked out first, also if it is not used.
	checkLines(t, s, []lineCase{{"three iota 41", "", abacus.ErrArg, 6}, {"three 1 % 0", "", abacus.ErrZero, 8}, {"mean iota 0", "", abacus.ErrShape, 0}, {"fact 41", "", abacus.ErrArg, 0}, {"tab iota 7", "", abacus.ErrShape, 0}})
}
