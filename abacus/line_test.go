package abacus_test

import (
	"math/rand"
	"runtime"
	"strings"
	"sync"
	"testing"
	"time"

	"abacus/abacus"
)

type lineCase struct {
	line, want string
	errno      abacus.Errno
	place      int
}

func checkLines(t *testing.T, s *abacus.Session, cases []lineCase) {
	t.Helper()
	for _, c := range cases {
		if text, errno, place := s.Line(c.line); text != c.want || errno != c.errno || place != c.place {
			t.Errorf("Line(%.130q) = %q, %d, %d, want %q, %d, %d", c.line, text, errno, place, c.want, c.errno, c.place)
		}
	}
}

// checkShown does lines that are worth something.
func checkShown(t *testing.T, s *abacus.Session, pairs [][2]string) {
	t.Helper()
	for _, p := range pairs {
		checkLines(t, s, []lineCase{{p[0], p[1], abacus.OK, 0}})
	}
}

func checkRefused(t *testing.T, s *abacus.Session, errno abacus.Errno, places map[string]int) {
	t.Helper()
	for line, place := range places {
		checkLines(t, s, []lineCase{{line, "", errno, place}})
	}
}

// sessionWith does lines that name something.
func sessionWith(t *testing.T, lines ...string) *abacus.Session {
	t.Helper()
	s := abacus.New()
	for _, line := range lines {
		checkLines(t, s, []lineCase{{line, "", abacus.OK, 0}})
	}
	return s
}

// row is so many NUMBERs, each of them 1.
func row(count int) string { return strings.TrimSuffix(strings.Repeat("1 ", count), " ") }

// Each of these has made so many steps when what is to its left is worked out.
const (
	steps2999 = `(len +\+\+\iota 40),(len +\iota 36),len -iota 29`
	steps3000 = `(len +\+\+\iota 40),(len +\iota 36),len -iota 30`
)

func TestP1LongLines(t *testing.T) {
	const size = 1 << 24
	start := time.Now()
	s := sessionWith(t, "v: 1")
	for _, long := range []string{strings.Repeat(" ", size), strings.Repeat("(", size), strings.Repeat("-", size) + "1", "v: " + strings.Repeat("1 ", size/2), strings.Repeat("$", size)} {
		for range 2000 {
			checkLines(t, s, []lineCase{{long, "", abacus.ErrLong, 0}})
			if time.Since(start) > 5*time.Second {
				t.Fatal("the time hangs on the length")
			}
		}
	}
	checkShown(t, s, [][2]string{{"v", "1"}})
}

// TestP1AllLines: no line panics, with an error the text is empty, and no place is outside of the line.
func TestP1AllLines(t *testing.T) {
	random := rand.New(rand.NewSource(6))
	pieces := []string{"1", "2", "0", "~", "/", "\\", "1/2", "~3", " ", " ", "+", "-", "*", "%", "|", "^", "<", ">", "=", "min", "max", "@", ",", "#",
		"abs", "iota", "rev", "len", "def", "def f y:", "def g v: f ", "f ", "g ", "y", "v", "w", "x", "(", ")", ":", "40", "$", "\x00", "\xff", "\t", "A", "abcdefg", "99999999999999999999"}
	s := sessionWith(t, "v: 1 2 3", "w: iota 40")
	for range 200000 {
		var line string
		for range random.Intn(14) {
			line += pieces[random.Intn(len(pieces))]
		}
		text, errno, place := s.Line(line)
		if errno != abacus.OK && text != "" || errno == abacus.OK && place != 0 || place < 0 || place > len(line) {
			t.Fatalf("Line(%q) = %q, %d, %d", line, text, errno, place)
		}
	}
}

// TestP1Deep: as many functions within each other as a line can hold.
func TestP1Deep(t *testing.T) {
	checkLines(t, abacus.New(), []lineCase{
		{strings.Repeat("-", 119) + "1", "~1", abacus.OK, 0},
		{strings.Repeat("-", 120), "", abacus.ErrForm, 120},
		{strings.Repeat("1-", 59) + "1", "0", abacus.OK, 0},
		{strings.Repeat("(", 120), "", abacus.ErrDeep, 8},
		{strings.Repeat("1,", 39) + "1", row(40), abacus.OK, 0},
		{strings.Repeat("1,", 40) + "1", "", abacus.ErrShape, 1},
		{strings.Repeat("1,", 59) + "1", "", abacus.ErrShape, 39},
	})
}

func TestP1NothingChanged(t *testing.T) {
	s := sessionWith(t, "v: 1 2 3", "w: 5")
	for _, line := range []string{"v: 1 % 0", "v: 4 +", "v: 4 )", "v: x", "v: " + row(41), "v: (((((((((4", "v: iota 41", "v: +/ iota 0", "v: 10 ^ 60",
		"v: +/ +\\ +\\ +\\ +\\ iota 40", "v: 4" + strings.Repeat(" ", 120), "v:", "v: w: 4", "x: 1 % 0", "y: 4 +", "v: 00", "v: v, v,"} {
		if text, errno, _ := s.Line(line); text != "" || errno == abacus.OK {
			t.Errorf("Line(%q) = %q, %d, want an error", line, text, errno)
		}
		checkLines(t, s, []lineCase{{"v", "1 2 3", abacus.OK, 0}, {"w", "5", abacus.OK, 0}, {"x", "", abacus.ErrName, 0}, {"y", "", abacus.ErrName, 0}})
	}
}

func TestP2SessionsShareNothing(t *testing.T) {
	a, b := sessionWith(t, "v: 1 2", "only: 3"), sessionWith(t, "v: 7")
	checkLines(t, a, []lineCase{{"v", "1 2", abacus.OK, 0}, {"v: v, only", "", abacus.OK, 0}})
	checkLines(t, b, []lineCase{{"v", "7", abacus.OK, 0}, {"only", "", abacus.ErrName, 0}, {"v: 8", "", abacus.OK, 0}})
	checkLines(t, a, []lineCase{{"v", "1 2 3", abacus.OK, 0}})
	checkLines(t, abacus.New(), []lineCase{{"v", "", abacus.ErrName, 0}, {"only", "", abacus.ErrName, 0}})
}

// TestP2NamesAreCounted in each session alone.
func TestP2NamesAreCounted(t *testing.T) {
	for range 3 {
		s := abacus.New()
		for _, name := range strings.Split("abcdefghijkl", "") {
			checkLines(t, s, []lineCase{{name + ": 1", "", abacus.OK, 0}})
		}
		checkLines(t, s, []lineCase{{"m: 1", "", abacus.ErrMany, 0}})
	}
}

// TestP2StepsAreCounted in each line alone.
func TestP2StepsAreCounted(t *testing.T) {
	s := abacus.New()
	for range 3 {
		checkShown(t, s, [][2]string{{steps3000, "40 36 30"}})
	}
}

// TestP2NotTheGoroutines: the answer is the same however they run.
func TestP2NotTheGoroutines(t *testing.T) {
	s := sessionWith(t, "w: iota 40", "z: 0, iota 39", "u: (rev iota 20), 0, iota 19")
	cases := []lineCase{
		{"+/ +\\ w", "11480", abacus.OK, 0},
		{"w % u", "", abacus.ErrZero, 2},
		{"(w % 2) | w", "", abacus.ErrArg, 8},
		{"0 2 3 4 5 6 7 8 ^ ~1 100 100 100 100 100 100 100", "", abacus.ErrZero, 16},
		{"2 0 3 4 5 6 7 8 ^ 100 ~1 1 1 1 1 1 1", "", abacus.ErrArg, 16},
		{"10 0 2 ^ 60 ~1 1/2", "", abacus.ErrBig, 7},
		{"(1 2 0 % 0 1 0) , " + steps3000, "", abacus.ErrSteps, 7},
		{"(1 2 0 % 0 1 0) , " + steps2999, "", abacus.ErrZero, 7},
		{"(1 2 0 % 1 0 0) , " + steps2999, "", abacus.ErrSteps, 7},
		{"rev w *@ 1", "40 39 38 37 36 35 34 33 32 31 30 29 28 27 26 25 24 23 22 21 20 19 18 17 16 15 14 13 12 11 10 9 8 7 6 5 4 3 2 1", abacus.OK, 0},
	}
	defer runtime.GOMAXPROCS(runtime.GOMAXPROCS(0))
	for _, processors := range []int{1, 2, 8} {
		runtime.GOMAXPROCS(processors)
		for range 100 {
			checkLines(t, s, cases)
		}
	}
}

// TestP2GoroutinesEnd with the call, also where it is refused.
func TestP2GoroutinesEnd(t *testing.T) {
	s := abacus.New()
	before := runtime.NumGoroutine()
	for range 200 {
		checkShown(t, s, [][2]string{{"len +\\ +\\ iota 40", "40"}})
		checkLines(t, s, []lineCase{{"%\\ 0 0 1 2 3 4 5 6 7 8 9", "", abacus.ErrZero, 0}})
	}
	// One that has joined may take a moment to be gone.
	for range 100 {
		if runtime.NumGoroutine() <= before {
			return
		}
		time.Sleep(10 * time.Millisecond)
	}
	t.Errorf("%d goroutines, %d before", runtime.NumGoroutine(), before)
}

// TestP2SideBySide: sessions in goroutines of their own do not disturb each other.
func TestP2SideBySide(t *testing.T) {
	var all sync.WaitGroup
	for i := range 16 {
		all.Add(1)
		go func() {
			defer all.Done()
			s := abacus.New()
			for range 50 {
				checkLines(t, s, []lineCase{
					{"v: iota " + []string{"3", "4"}[i%2], "", abacus.OK, 0},
					{"+/ v *@ v", []string{"36", "100"}[i%2], abacus.OK, 0},
					{"v % 0", "", abacus.ErrZero, 2},
				})
			}
		}()
	}
	all.Wait()
}

func TestP4Examples(t *testing.T) {
	s := sessionWith(t, "v: 1 2 3")
	checkShown(t, s, [][2]string{{"10 - 2 - 3", "11"}, {"+/ v * 10", "60"}, {"-\\ v", "1 ~1 2"}, {"v *@ 1 10", "1 10 2 20 3 30"}, {"def half a: a % 2", ""}, {"half v", "1/2 1 3/2"}})
}

func TestP4Long(t *testing.T) {
	checkLines(t, abacus.New(), []lineCase{
		{"7" + strings.Repeat(" ", 119), "7", abacus.OK, 0},
		{"7" + strings.Repeat(" ", 120), "", abacus.ErrLong, 0},
		{strings.Repeat(" ", 119) + "7", "7", abacus.OK, 0},
		{strings.Repeat(" ", 120) + "7", "", abacus.ErrLong, 0},
		{strings.Repeat(" ", 120), "", abacus.ErrForm, 120},
		{strings.Repeat(" ", 121), "", abacus.ErrLong, 0},
		{strings.Repeat(")", 120), "", abacus.ErrForm, 0},
		{strings.Repeat(")", 121), "", abacus.ErrLong, 0},
		{strings.Repeat("\xff", 121), "", abacus.ErrLong, 0},
	})
}

func TestP4Numbers(t *testing.T) {
	twenty := nines(20)
	checkShown(t, abacus.New(), [][2]string{
		{"0", "0"}, {"7", "7"}, {"~7", "~7"}, {"10", "10"}, {"1/2", "1/2"}, {"~1/2", "~1/2"}, {"2/4", "1/2"}, {"~6/4", "~3/2"}, {"4/2", "2"}, {"5/1", "5"}, {"0/5", "0"},
		{"1~2", "1 ~2"}, {"1/2~3/4 5", "1/2 ~3/4 5"}, {"0 0", "0 0"}, {"~1~1", "~1 ~1"}, {"1 2/3 4", "1 2/3 4"},
		{twenty, twenty}, {"~" + twenty, "~" + twenty}, {"1/" + twenty, "1/" + twenty}, {twenty + "/" + nines(19) + "8", twenty + "/" + nines(19) + "8"},
		{"~" + twenty + "/7 " + twenty, "~" + twenty + "/7 " + twenty},
		{"+/1 2", "3"}, {"-/1/2 1/2", "0"}, {"2min3", "2"}, {"iota3", "1 2 3"}, {"max/3 4", "4"}, {"+\\1 2", "1 3"},
	})
}

// TestP4NoNumber: the place is the first byte of what should be the NUMBER.
func TestP4NoNumber(t *testing.T) {
	long := nines(21)
	for text := range map[string]int{"~": 0, "~0": 0, "~0/5": 0, "00": 0, "01": 0, "~01": 0, "~00": 0, "1/0": 0, "0/0": 0, "1/00": 0, "1/01": 0, "~1/0": 0, "01/2": 0, "~/2": 0, "~/": 0,
		long: 0, "~" + long: 0, "1/" + long: 0, long + "/" + long: 0, "0" + nines(19): 0, "~~1": 0, "~ 1": 0, "~a": 0, "~(1)": 0, "1/0/2": 0} {
		checkRefused(t, sessionWith(t, "v: 1"), abacus.ErrForm, map[string]int{
			text: 0, "  " + text + " ": 2, "1 2 " + text: 4, "1 +" + text: 3, "1 +@ " + text: 5, "-" + text: 1, "+/" + text: 2, "(" + text + ")": 1, "v:" + text: 2,
			"v , v # " + text + " 3": 8, "iota " + text: 5,
			"(1)" + text: 3, // nor could a NUMBER stand there
			"v " + text:  2,
		})
	}
}

func TestP4SlashOfItsOwn(t *testing.T) {
	checkRefused(t, abacus.New(), abacus.ErrForm, map[string]int{
		"1/": 1, "1/ 2": 1, "1 /2": 2, "1 / 2": 2, "~1/": 2, "1/~2": 1, "1/a": 1, "1//2": 1, "1/2/": 3, "1/2/3": 3, "1/2 /3": 4, "/": 0, "/2": 0, "1 2/": 3,
		"20/(3)": 2, "1\\2": 1, "1\\": 1,
	})
}

func TestP4Letters(t *testing.T) {
	s := sessionWith(t, "abcdef: 1", "z: 2", "abcde:3", "mi: 4", "minx: 5", "defx: 6", "lenrev: 7", "de: 8")
	checkShown(t, s, [][2]string{{"abcdef", "1"}, {"z", "2"}, {"abcde", "3"}, {"abcdef,z", "1 2"}, {"mi", "4"}, {"minx", "5"}, {"defx", "6"}, {"lenrev", "7"}, {"mi min de", "4"}})
	checkRefused(t, s, abacus.ErrForm, map[string]int{
		"abcdefg": 0, " abcdefg: 1": 1, "1 + abcdefg": 4, "1 abcdefg": 2, "z abcdefg": 2, "z: abcdefgh": 3, "minminmin/ 1": 0, "(iotaiota 3)": 1, strings.Repeat("a", 120): 0,
		"A": 0, "zB": 1, "z_: 1": 1, "z1": 1, "z1: 1": 1, "1z": 1, "é: 1": 0,
	})
}

// TestP4WordsAreNoNames: they keep their own meaning wherever they stand.
func TestP4WordsAreNoNames(t *testing.T) {
	checkRefused(t, abacus.New(), abacus.ErrForm, map[string]int{
		"min: 1": 0, "max: 1": 0, "abs: 1": 3, "iota: 1": 4, "rev: 1": 3, "len: 1": 3, "1 + def": 4, "(def": 1, "v: def": 3, "1 def": 2,
		"1 abs": 2, "1 iota 2": 2, "1 + min": 4, "len": 3, "rev ": 4, "1 rev": 2, "abs + 1": 4,
	})
}

func TestP4BreaksOff(t *testing.T) {
	s := sessionWith(t, "v: 1 2 3")
	checkRefused(t, s, abacus.ErrForm, map[string]int{
		// it ends too early
		"": 0, " ": 1, "   ": 3, "1 +": 3, "1 +  ": 5, "1 +@": 4, "1 ,": 3, "1 #": 3, "(": 1, "(1": 2, "(1 ": 3, "((1)": 4, "-": 1, "%": 1, "- ": 2, "abs": 3, "iota ": 5,
		"+/": 2, "+ / ": 4, "max\\": 4, "v:": 2, "v : ": 4, "1 - -": 5, "1 - (": 5,
		// a dyad that begins an expr, is no monad, and has no "/" or "\" behind it
		"+": 0, "+ 3": 0, "* 3": 0, " | 3": 1, "^": 0, "< 1": 0, "> 1": 0, "= 1": 0, "min 3": 0, "max": 0, "+@ 3": 0, "1 + + 2": 4, "1 - * 2": 4, "(min 3)": 1, "- + 3": 2, "abs + 3": 4,
		"+/ * 3": 3, "v: = 3": 3, "+ )": 0, "+ 00": 0, "+ $": 0, "1 , min": 4, "1 # max 3": 4, "1 +@ * 2": 5, "+ + / 1": 0,
		// a sign that cannot stand there
		")": 0, "()": 1, "1 )": 2, "(1))": 3, "(1) (2)": 4, "(1) 2": 4, "1 (2)": 2, "v v": 2, "v 1": 2, "1 v": 2, "v (1)": 2, "(1) v": 4, "1: 2": 1, "1 : 2": 2, "(v): 2": 3, "v:: 2": 2, "v: v: 2": 4,
		":": 0, ": 1": 0, "@": 0, "1 @ 2": 2, "-@ 3": 1, "%@ 1": 1, "1 +@@ 2": 4, "1 ,@ 2": 3, "1 #@ 2": 3, "1 +, 2": 3, ", 1": 0, "# 1": 0, "1 ,, 2": 3, "1 ## 2": 3,
		"2 +/ 3": 3, "2 + / 3": 4, "2 +\\ 3": 3, "2 ,/ 3": 3, ",/ 1": 0, "#/ 1": 0, "+// 1": 2, "+/\\ 1": 2, "abs/ 1": 3, "-/@ 1": 2, "+/ )": 3, "1 + )": 4, "v: )": 3, "v )": 2, "v: 1 )": 5, "v: 1: 2": 4,
		// a byte that is none of a line's
		"$": 0, "1 $": 2, "1$": 1, "1 + $": 4, "1 + 2 ;": 6, "\t1": 0, "1\t": 1, "1\n": 1, "\x00": 0, "1 \x00": 2, "\xff": 0, "1 ÷ 2": 2, "1.5": 1, "1 & 2": 2, "v = = 1": 4, "1 == 1": 3, "1 + \u00a01": 4, "[1]": 0, "v; v": 1,
	})
}

// TestP4Blanks: they may stand ahead of and behind everything, or be missing.
func TestP4Blanks(t *testing.T) {
	s := sessionWith(t, "  v  :  1   2 3  ", "w:4")
	checkShown(t, s, [][2]string{
		{"v", "1 2 3"}, {"  w  ", "4"}, {"+ / v", "6"}, {" + \\ v", "1 3 6"}, {"+/v", "6"}, {"max  /  v", "3"}, {"v + @ w", "5 6 7"}, {"v+@w", "5 6 7"}, {" ( v ) ", "1 2 3"}, {"(v),(w)", "1 2 3 4"},
		{"2#v", "1 2"}, {"-v", "~1 ~2 ~3"}, {"- - v", "1 2 3"}, {"--v", "1 2 3"}, {"%w", "1/4"}, {"1--1", "2"}, {"1 - - 1", "2"}, {"v min w", "1 2 3"}, {"(v)min(w)", "1 2 3"}, {"3min 2", "2"}, {"rev(v)", "3 2 1"}, {"1,-/v", "1 2"},
	})
}

func TestP4Deep(t *testing.T) {
	checkLines(t, abacus.New(), []lineCase{
		{"((((((((1))))))))", "1", abacus.OK, 0},
		{"(((((((((1)))))))))", "", abacus.ErrDeep, 8},
		{"- (1) + ((((((((1))))))))", "~2", abacus.OK, 0},
		{"((((((((1)))))))) + ((((((((1))))))))", "2", abacus.OK, 0},
		{"(((((((1 + (1)))))))) + 1", "3", abacus.OK, 0},
		{"(1) + (((((((((1", "", abacus.ErrDeep, 14},
		{"((((((((1 + (2", "", abacus.ErrDeep, 12},
		{"((((((((1) + (1)) + (((2", "", abacus.ErrDeep, 22},
		{"((((((((-(", "", abacus.ErrDeep, 9},
		{"((((((((1 (2", "", abacus.ErrForm, 10}, // no "(" can stand there
		{"((((((((1", "", abacus.ErrForm, 9},
		{"(((((((()", "", abacus.ErrForm, 8},
		{"((((((((()", "", abacus.ErrDeep, 8},
	})
}

func TestP4RowOfNumbers(t *testing.T) {
	s := sessionWith(t, "v: 1")
	forty := strings.TrimSuffix(strings.Repeat("1 ", 40), " ")
	checkLines(t, s, []lineCase{
		{forty, forty, abacus.OK, 0},
		{forty + " 1", "", abacus.ErrShape, 80},
		{forty + " ~12/7", "", abacus.ErrShape, 80},
		{forty + " 1 )", "", abacus.ErrShape, 80},
		{forty + " )", "", abacus.ErrForm, 80},
		{forty + " 00", "", abacus.ErrForm, 80}, // that is no NUMBER
		{forty + " ~", "", abacus.ErrForm, 80},
		{forty + " v", "", abacus.ErrForm, 80},
		{"len (" + forty + ") = 1 2 3", "", abacus.ErrShape, 86},
		{"(" + row(30) + ") + " + row(11), "", abacus.ErrShape, 62},
		{"v, " + forty + " 1", "", abacus.ErrShape, 83},
		{"+/ " + forty, "40", abacus.OK, 0},
	})
}

func TestP4NamesNobodyHas(t *testing.T) {
	s := sessionWith(t, "v: 1")
	checkRefused(t, s, abacus.ErrName, map[string]int{
		"x": 0, " x ": 1, "x 1": 0, "x )": 0, "x + 00": 0, "1 + x": 4, "(x": 1, "- x": 2, "v, x +": 3, "x: x": 3, "v: x": 3, "v: y: 3": 3, "x y: 3": 0, "x $": 0, "vv": 0, "+/ x": 3, "w: v, w": 6,
	})
}

func TestP4NamesMany(t *testing.T) {
	s := abacus.New()
	for _, name := range strings.Split("abcdefghijkl", "") {
		checkLines(t, s, []lineCase{{"new" + name + ": 5", "", abacus.OK, 0}})
	}
	checkLines(t, s, []lineCase{
		{"m: 5", "", abacus.ErrMany, 0},
		{"  m : 5", "", abacus.ErrMany, 2},
		{"m", "", abacus.ErrName, 0},
		{"newa: newa, 6", "", abacus.OK, 0},
		{"newl: 7", "", abacus.OK, 0},
		{"newa, newl", "5 6 7", abacus.OK, 0},
		{"m: 5", "", abacus.ErrMany, 0},
	})
}

// TestP4ManyComesFirst: it comes up behind the ":", ahead of all that follows.
func TestP4ManyComesFirst(t *testing.T) {
	s := abacus.New()
	for _, name := range strings.Split("abcdefghijkl", "") {
		checkLines(t, s, []lineCase{{name + ": 5", "", abacus.OK, 0}})
	}
	checkRefused(t, s, abacus.ErrMany, map[string]int{" x:": 1, " x: )": 1, "x: 00": 0, "x: y": 0, "x: (((((((((1": 0, "x: " + row(41): 0, "x: 1 % 0": 0, "x: $": 0, "x:: 1": 0, "x: + 1": 0})
	checkLines(t, s, []lineCase{{"$x: 1", "", abacus.ErrForm, 0}, {"x $: 1", "", abacus.ErrName, 0}, {"toolong: 1", "", abacus.ErrForm, 0}, {"x", "", abacus.ErrName, 0}, {"x, y: 1", "", abacus.ErrName, 0}})
}

// TestP4FirstFromTheLeft: of several errors in a line.
func TestP4FirstFromTheLeft(t *testing.T) {
	s := sessionWith(t, "v: 1")
	checkLines(t, s, []lineCase{
		{"x + )", "", abacus.ErrName, 0},
		{") + x", "", abacus.ErrForm, 0},
		{"v + ) x", "", abacus.ErrForm, 4},
		{"(x + (((((((((1", "", abacus.ErrName, 1},
		{"(((((((((x", "", abacus.ErrDeep, 8},
		{"((((((((x(", "", abacus.ErrName, 8},
		{"x + " + row(41), "", abacus.ErrName, 0},
		{row(41) + " + x", "", abacus.ErrShape, 80},
		{row(41) + " 00", "", abacus.ErrShape, 80},
		{"00 " + row(41), "", abacus.ErrForm, 0},
		{"(1 % 0) + x", "", abacus.ErrName, 10}, // all is read ahead of being worked out
		{"(1 % 0) + )", "", abacus.ErrForm, 10},
		{"(iota 41) + (", "", abacus.ErrForm, 13},
	})
}

// TestP4Text: a named line shows nothing, any other its list.
func TestP4Text(t *testing.T) {
	s := abacus.New()
	checkLines(t, s, []lineCase{
		{"v: 1 2", "", abacus.OK, 0},
		{"v", "1 2", abacus.OK, 0},
		{"v: v * 10", "", abacus.OK, 0},
		{"v", "10 20", abacus.OK, 0},
		{"e: iota 0", "", abacus.OK, 0},
		{"e", "", abacus.OK, 0},
		{"len e", "0", abacus.OK, 0},
		{"iota 0", "", abacus.OK, 0},
		{"1/2 ~3 0", "1/2 ~3 0", abacus.OK, 0},
	})
}

func TestP5FromTheRight(t *testing.T) {
	s := sessionWith(t, "v: 1 2 3", "w: v", "v: 9")
	checkLines(t, s, []lineCase{
		{"w", "1 2 3", abacus.OK, 0}, // what v was worth then
		{"v: v, v", "", abacus.OK, 0},
		{"v", "9 9", abacus.OK, 0},
		{"2 * 3 + 4", "14", abacus.OK, 0},
		{"(2 * 3) + 4", "10", abacus.OK, 0},
		{"- 2 + 3", "~5", abacus.OK, 0},
		{"len 1, 2 3", "3", abacus.OK, 0},
		{"2 # 1, 2", "1 2", abacus.OK, 0},
		{"1, 2 # 3", "1 3 3", abacus.OK, 0},
		{"5 = len 5", "0", abacus.OK, 0},
		{"10 % 2 % 5", "25", abacus.OK, 0},
		{"2 ^ 3 ^ 2", "512", abacus.OK, 0},
	})
	// The right side is worked out first, so that its error counts.
	checkLines(t, s, []lineCase{
		{"(1 % 0) + iota 41", "", abacus.ErrArg, 10},
		{"(iota 41) + 1 % 0", "", abacus.ErrZero, 14},
		{"(1 % 0) , iota 41", "", abacus.ErrArg, 10},
		{"(1 % 0) # iota 41", "", abacus.ErrArg, 10},
		{"(1 % 0) +@ iota 41", "", abacus.ErrArg, 11},
		{"(1 % 0) , iota 1 2", "", abacus.ErrShape, 10},
		{"(1 % 0) + 1", "", abacus.ErrZero, 3},
		{"1 2 + 1 2 3 % 0", "", abacus.ErrZero, 12},
		{"(iota 41) # 1 2 + 1 2 3", "", abacus.ErrShape, 16},
	})
}

func TestP5Steps(t *testing.T) {
	checkLines(t, abacus.New(), []lineCase{
		{steps2999, "40 36 29", abacus.OK, 0},
		{steps3000, "40 36 30", abacus.OK, 0},
		{`(len +\+\+\iota 40),(len +\iota 36),len -iota 31`, "", abacus.ErrSteps, 1 + 4},
		{`(len +\+\+\iota 40),(len +\iota 36),len %iota 31`, "", abacus.ErrSteps, 1 + 4},
		{`(len +\+\+\iota 40),(len +\iota 36),len abs iota 31`, "", abacus.ErrSteps, 1 + 4},
		{`(len +\+\+\+\iota 40)`, "", abacus.ErrSteps, 5},
		{"(1 + 1), " + steps2999, "2 40 36 29", abacus.OK, 0},
		{"(1 + 1), " + steps3000, "", abacus.ErrSteps, 3},
		{"(1 +@ 1), " + steps3000, "", abacus.ErrSteps, 3},
		{"(-1), " + steps2999, "~1 40 36 29", abacus.OK, 0},
		{"(-1), " + steps3000, "", abacus.ErrSteps, 1},
		{"(%2), " + steps3000, "", abacus.ErrSteps, 1},
		{"(abs ~1), " + steps2999, "1 40 36 29", abacus.OK, 0},
		{"(abs ~1), " + steps3000, "", abacus.ErrSteps, 1},
		{"(abs ~1 ~2), " + steps2999, "", abacus.ErrSteps, 1},
		{"(max/ 1 2), " + steps2999, "2 40 36 29", abacus.OK, 0},
		{"(max/ 1 2), " + steps3000, "", abacus.ErrSteps, 1},
		{"(max/ 1 2 3), " + steps2999, "", abacus.ErrSteps, 1},
		{"( +\\ 1 2), " + steps2999, "1 3 40 36 29", abacus.OK, 0},
		{"( +\\ 1 2), " + steps3000, "", abacus.ErrSteps, 2},
		{"( +\\ 1 2 3), " + steps2999, "", abacus.ErrSteps, 2},
	})
}

// TestP5NoSteps: what does not make any still works when all are made.
func TestP5NoSteps(t *testing.T) {
	s := sessionWith(t, "e: iota 0")
	for _, p := range [][2]string{{"(rev 1 2)", "2 1"}, {"(len 7 8)", "2"}, {"(iota 3)", "1 2 3"}, {"(1, 2)", "1 2"}, {"(3 # 4)", "4 4 4"}, {"(+/ 5)", "5"}, {"(+\\ 5)", "5"},
		{"(1 + e)", ""}, {"(e +@ 1)", ""}, {"(abs e)", ""}, {"(-e)", ""}, {"((7))", "7"}} {
		checkShown(t, s, [][2]string{{p[0] + ", " + steps3000, strings.TrimSpace(p[1] + " 40 36 30")}})
	}
}

// TestP5StepsAndOthers: ErrSteps comes ahead of the step, behind the errors of earlier items.
func TestP5StepsAndOthers(t *testing.T) {
	checkLines(t, abacus.New(), []lineCase{
		{"(1 % 0), " + steps3000, "", abacus.ErrSteps, 3},
		{"(1 % 0), " + steps2999, "", abacus.ErrZero, 3},
		{"(% 0 1), " + steps2999, "", abacus.ErrZero, 1},
		{"(% 1 0), " + steps2999, "", abacus.ErrSteps, 1},
		{"(%/ 0 0 1), " + steps2999, "", abacus.ErrSteps, 1},
		{"(%/ 1 1 0), " + steps2999, "", abacus.ErrZero, 1},
		{"(%\\ 1 0 2), " + steps2999, "", abacus.ErrZero, 1},
		{"(%\\ 1 1 0), " + steps2999, "", abacus.ErrSteps, 1},
		{"(1 2 + 1 2 3), " + steps3000, "", abacus.ErrShape, 5},
		{"(iota 41), " + steps3000, "", abacus.ErrArg, 1},
		{"(+/ iota 0), " + steps3000, "", abacus.ErrShape, 1},
	})
}
