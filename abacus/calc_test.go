package abacus_test

import (
	"math/big"
	"math/rand"
	"strings"
	"testing"
	"time"

	"abacus/abacus"
)

const (
	maxDigits = 60
	maxPower  = 99
)

var dyads = [...]string{"+", "-", "*", "%", "|", "^", "<", ">", "=", "min", "max"}

type calcCase struct {
	op, a, b, want string
	errno          abacus.Errno
}

func checkCalc(t *testing.T, cases []calcCase) {
	t.Helper()
	for _, c := range cases {
		if text, errno := abacus.Calc(c.op, c.a, c.b); text != c.want || errno != c.errno {
			t.Errorf("Calc(%.80q, %.80q, %.80q) = %q, %d, want %q, %d", c.op, c.a, c.b, text, errno, c.want, c.errno)
		}
	}
}

func nines(n int) string { return strings.Repeat("9", n) }

func tenTo(n int) string { return "1" + strings.Repeat("0", n) }

func TestP3SumDifferenceProduct(t *testing.T) {
	checkCalc(t, []calcCase{
		{"+", "1/3", "~1/2", "~1/6", abacus.OK},
		{"+", "2", "3", "5", abacus.OK},
		{"+", "1/6", "1/3", "1/2", abacus.OK},
		{"+", "~5", "5", "0", abacus.OK},
		{"+", "~5", "~5/2", "~15/2", abacus.OK},
		{"+", "0", "0", "0", abacus.OK},
		{"-", "3", "5", "~2", abacus.OK},
		{"-", "~3", "~5", "2", abacus.OK},
		{"-", "1/2", "1/3", "1/6", abacus.OK},
		{"-", "0", "1/7", "~1/7", abacus.OK},
		{"-", "7/3", "0", "7/3", abacus.OK},
		{"*", "6", "7", "42", abacus.OK},
		{"*", "~6", "7", "~42", abacus.OK},
		{"*", "~2/3", "~3/4", "1/2", abacus.OK},
		{"*", "0", "~5", "0", abacus.OK},
		{"*", "~5", "0", "0", abacus.OK},
	})
}

func TestP3Divided(t *testing.T) {
	checkCalc(t, []calcCase{
		{"%", "6", "3", "2", abacus.OK},
		{"%", "3", "6", "1/2", abacus.OK},
		{"%", "1", "~3", "~1/3", abacus.OK},
		{"%", "~1/2", "~1/4", "2", abacus.OK},
		{"%", "0", "5", "0", abacus.OK},
		{"%", "0", "~5", "0", abacus.OK},
		{"%", "5", "0", "", abacus.ErrZero},
		{"%", "0", "0", "", abacus.ErrZero},
		{"%", "1/2", "0/3", "", abacus.ErrZero},
	})
}

func TestP3Left(t *testing.T) {
	checkCalc(t, []calcCase{
		{"|", "3", "7", "1", abacus.OK},
		{"|", "3", "~7", "2", abacus.OK},
		{"|", "~3", "7", "~2", abacus.OK},
		{"|", "~3", "~7", "~1", abacus.OK},
		{"|", "3", "2", "2", abacus.OK},
		{"|", "3", "~2", "1", abacus.OK},
		{"|", "~3", "2", "~1", abacus.OK},
		{"|", "~3", "~2", "~2", abacus.OK},
		{"|", "3", "6", "0", abacus.OK},
		{"|", "3", "~6", "0", abacus.OK},
		{"|", "~3", "6", "0", abacus.OK},
		{"|", "~3", "~6", "0", abacus.OK},
		{"|", "3", "0", "0", abacus.OK},
		{"|", "~3", "0", "0", abacus.OK},
		{"|", "1", "5", "0", abacus.OK},
		{"|", "0", "7", "7", abacus.OK},
		{"|", "0", "~7", "~7", abacus.OK},
		{"|", "0", "0", "0", abacus.OK},
		{"|", "6/2", "14/2", "1", abacus.OK},
		{"|", "1/2", "3", "", abacus.ErrArg},
		{"|", "3", "1/2", "", abacus.ErrArg},
		{"|", "0", "1/2", "", abacus.ErrArg},
		{"|", "1/2", "0", "", abacus.ErrArg},
		{"|", nines(60), nines(59), nines(59), abacus.OK},
		{"|", "~" + nines(60), "1", "~" + nines(59) + "8", abacus.OK},
		{"|", "10", nines(60), "9", abacus.OK},
	})
}

func TestP3Power(t *testing.T) {
	checkCalc(t, []calcCase{
		{"^", "2", "10", "1024", abacus.OK},
		{"^", "~2", "3", "~8", abacus.OK},
		{"^", "~2", "4", "16", abacus.OK},
		{"^", "2", "~2", "1/4", abacus.OK},
		{"^", "~2/3", "~3", "~27/8", abacus.OK},
		{"^", "5/7", "0", "1", abacus.OK},
		{"^", "~5", "0", "1", abacus.OK},
		{"^", "0", "0", "1", abacus.OK},
		{"^", "0", "1", "0", abacus.OK},
		{"^", "0", "99", "0", abacus.OK},
		{"^", "0", "~1", "", abacus.ErrZero},
		{"^", "0", "~99", "", abacus.ErrZero},
		{"^", "1", "99", "1", abacus.OK},
		{"^", "1", "~99", "1", abacus.OK},
		{"^", "1", "100", "", abacus.ErrArg},
		{"^", "1", "~100", "", abacus.ErrArg},
		{"^", "~1", "99", "~1", abacus.OK},
		{"^", "~1", "~99", "~1", abacus.OK},
		{"^", "~1", "98", "1", abacus.OK},
		{"^", "2", "99", "633825300114114700748351602688", abacus.OK},
		{"^", "2", "~99", "1/633825300114114700748351602688", abacus.OK},
		{"^", "2", "198/2", "633825300114114700748351602688", abacus.OK},
		{"^", "1", "1/2", "", abacus.ErrArg},
		{"^", "1", "4294967297", "", abacus.ErrArg},
		{"^", "1", "~18446744073709551617", "", abacus.ErrArg},
		{"^", "1", nines(60), "", abacus.ErrArg},
		{"^", nines(60), "1", nines(60), abacus.OK},
		{"^", nines(60), "~1", "1/" + nines(60), abacus.OK},
		{"^", nines(60), "0", "1", abacus.OK},
	})
}

func TestP3Compared(t *testing.T) {
	checkCalc(t, []calcCase{
		{"<", "1", "2", "1", abacus.OK}, {"<", "2", "1", "0", abacus.OK}, {"<", "1", "1", "0", abacus.OK},
		{">", "1", "2", "0", abacus.OK}, {">", "2", "1", "1", abacus.OK}, {">", "1", "1", "0", abacus.OK},
		{"=", "1", "2", "0", abacus.OK}, {"=", "2", "1", "0", abacus.OK}, {"=", "1", "1", "1", abacus.OK},
		{"<", "~2", "~1", "1", abacus.OK}, {"<", "~1", "~2", "0", abacus.OK}, {"<", "~1", "0", "1", abacus.OK},
		{">", "0", "~1/9", "1", abacus.OK}, {">", "1/3", "1/2", "0", abacus.OK},
		{"=", "1", "~1", "0", abacus.OK}, {"=", "3/6", "1/2", "1", abacus.OK}, {"=", "0", "0/7", "1", abacus.OK},
		{"<", "1/" + nines(60), "1/" + nines(59) + "8", "1", abacus.OK},
		{"min", "1", "2", "1", abacus.OK}, {"min", "2", "1", "1", abacus.OK}, {"min", "~1", "~2", "~2", abacus.OK},
		{"max", "1", "2", "2", abacus.OK}, {"max", "2", "1", "2", abacus.OK}, {"max", "~1", "~2", "~1", abacus.OK},
		{"min", "2/4", "1/2", "1/2", abacus.OK}, {"max", "4/2", "~9", "2", abacus.OK},
		{"min", nines(60), "1/" + nines(60), "1/" + nines(60), abacus.OK},
		{"max", "~" + nines(60), nines(60) + "/2", nines(60) + "/2", abacus.OK},
	})
}

// TestP3Big: at MaxDigits digits and at one more, above and below.
func TestP3Big(t *testing.T) {
	checkCalc(t, []calcCase{
		{"+", nines(59) + "8", "1", nines(60), abacus.OK},
		{"+", nines(60), "1", "", abacus.ErrBig},
		{"-", "~" + nines(59) + "8", "1", "~" + nines(60), abacus.OK},
		{"-", "~" + nines(60), "1", "", abacus.ErrBig},
		{"+", nines(60), "1/2", "", abacus.ErrBig},
		{"*", tenTo(30), tenTo(29), tenTo(59), abacus.OK},
		{"*", tenTo(30), tenTo(30), "", abacus.ErrBig},
		{"*", "1/" + tenTo(30), "~1/" + tenTo(29), "~1/" + tenTo(59), abacus.OK},
		{"*", "1/" + tenTo(30), "~1/" + tenTo(30), "", abacus.ErrBig},
		{"*", nines(60), "2/" + nines(60), "2", abacus.OK},
		{"%", tenTo(30), "1/" + tenTo(29), tenTo(59), abacus.OK},
		{"%", tenTo(30), "1/" + tenTo(30), "", abacus.ErrBig},
		{"%", "1/" + tenTo(30), tenTo(29), "1/" + tenTo(59), abacus.OK},
		{"%", "1/" + tenTo(30), tenTo(30), "", abacus.ErrBig},
		{"%", nines(60), "2", nines(60) + "/2", abacus.OK},
		{"+", "1/" + nines(60), "1/" + nines(60), "2/" + nines(60), abacus.OK},
		{"+", "1/" + nines(60), "1/" + nines(59) + "8", "", abacus.ErrBig},
		{"^", "10", "59", tenTo(59), abacus.OK},
		{"^", "10", "60", "", abacus.ErrBig},
		{"^", "10", "~59", "1/" + tenTo(59), abacus.OK},
		{"^", "10", "~60", "", abacus.ErrBig},
		{"^", "~1/10", "59", "~1/" + tenTo(59), abacus.OK},
		{"^", "~1/10", "60", "", abacus.ErrBig},
		{"^", nines(60) + "/7", "99", "", abacus.ErrBig},
	})
}

func TestP3NoNumber(t *testing.T) {
	texts := []string{"", " ", "~", "/", "~/", "~0", "~0/5", "00", "01", "~01", "0/0", "1/0", "1/00", "1/01", "1/", "/2", "~/2", "1/~2",
		"~~1", "1~", "1/2/3", "1//2", "1/2/", "-1", "+1", " 1", "1 ", "1 /2", "1/ 2", "1 2", "1.5", "1e3", "x", "1x", "\x00", "1\x00", "\xff", "\u0661",
		nines(61), "~" + nines(61), "1/" + nines(61), nines(61) + "/" + nines(61), "0" + nines(59), nines(60) + "/" + nines(61), nines(122)}
	for _, op := range dyads {
		for _, text := range texts {
			checkCalc(t, []calcCase{
				{op, text, "1", "", abacus.ErrForm},
				{op, "1", text, "", abacus.ErrForm},
				{op, text, text, "", abacus.ErrForm},
			})
		}
	}
}

func TestP3AnyFraction(t *testing.T) {
	checkCalc(t, []calcCase{
		{"+", "4/2", "0", "2", abacus.OK},
		{"+", "5/1", "0", "5", abacus.OK},
		{"+", "0/5", "0", "0", abacus.OK},
		{"+", "~10/4", "0", "~5/2", abacus.OK},
		{"+", nines(60), "0", nines(60), abacus.OK},
		{"+", "~" + nines(60), "0", "~" + nines(60), abacus.OK},
		{"+", "~" + nines(59) + "8/" + nines(60), "0", "~" + nines(59) + "8/" + nines(60), abacus.OK},
		{"*", nines(60) + "/" + nines(60), "~" + nines(60) + "/" + nines(60), "~1", abacus.OK},
	})
}

func TestP3NoDyad(t *testing.T) {
	for _, op := range []string{"", " ", "+ ", " +", "++", "/", "\\", ",", "#", "@", "~", ":", "abs", "iota", "rev", "len", "def", "mi", "minx", "Min", "MAX", "x", "0", "+\x00", "\xff", "÷", "<="} {
		checkCalc(t, []calcCase{{op, "1", "1", "", abacus.ErrArg}, {op, "1/2", "0", "", abacus.ErrArg}})
	}
}

// TestP1FirstNamed: where several errors apply, the one named first.
func TestP1FirstNamed(t *testing.T) {
	checkCalc(t, []calcCase{
		{"x", "01", "1", "", abacus.ErrForm},
		{"x", "1", nines(61), "", abacus.ErrForm},
		{"", "", "", "", abacus.ErrForm},
		{"%", "~0", "0", "", abacus.ErrForm},
		{"%", nines(61), "0", "", abacus.ErrForm},
		{"^", "0", "~1/0", "", abacus.ErrForm},
		{"x", "1", "0", "", abacus.ErrArg},
		{"^", "0", "~1/2", "", abacus.ErrArg},
		{"^", "0", "~100", "", abacus.ErrArg},
		{"^", "10", "100", "", abacus.ErrArg},
		{"^", "10", "~100", "", abacus.ErrArg},
		{"^", "10", "121/2", "", abacus.ErrArg},
		{strings.Repeat("+", 1000), "1", "1/", "", abacus.ErrForm},
		{strings.Repeat("+", 1000), "1", "1", "", abacus.ErrArg},
	})
}

// TestP1Long: a text that is too long costs no more, however long it is.
func TestP1Long(t *testing.T) {
	const size = 1 << 24
	start := time.Now()
	for _, long := range []string{strings.Repeat("1", size), "~" + strings.Repeat("1", size), "1/" + strings.Repeat("1", size), strings.Repeat(" ", size)} {
		for range 2000 {
			checkCalc(t, []calcCase{
				{"+", long, "1", "", abacus.ErrForm},
				{"+", "1", long, "", abacus.ErrForm},
				{long, "1", "1", "", abacus.ErrArg},
			})
			if time.Since(start) > 5*time.Second {
				t.Fatal("the time hangs on the length")
			}
		}
	}
}

// TestP1AllStrings: no call panics, and with an error the text is empty.
func TestP1AllStrings(t *testing.T) {
	random := rand.New(rand.NewSource(4))
	const bytes = "0123456789~~//019 +-x\x00\xff"
	text := func() string {
		row := make([]byte, random.Intn(8))
		for i := range row {
			row[i] = bytes[random.Intn(len(bytes))]
		}
		return string(row)
	}
	for range 200000 {
		op, a, b := text(), text(), text()
		if random.Intn(4) > 0 {
			op = dyads[random.Intn(len(dyads))]
		}
		if answer, errno := abacus.Calc(op, a, b); (answer == "") != (errno != abacus.OK) {
			t.Fatalf("Calc(%q, %q, %q) = %q, %d", op, a, b, answer, errno)
		}
		if answer, errno, place := abacus.New().Line(a + op + b); errno != abacus.OK && answer != "" || errno == abacus.OK && place != 0 {
			t.Fatalf("Line(%q) = %q, %d, %d", a+op+b, answer, errno, place)
		}
	}
}

// TestP3AgainstRationals works out the same with the library's numbers.
func TestP3AgainstRationals(t *testing.T) {
	random := rand.New(rand.NewSource(5))
	for range 30000 {
		op := dyads[random.Intn(len(dyads))]
		a, b := randomNumber(random), randomNumber(random)
		if op == "^" && random.Intn(4) > 0 {
			b = []string{"", "~"}[random.Intn(2)] + big.NewInt(1+random.Int63n(maxPower+1)).String()
		}
		want, errno := expected(op, a, b)
		checkCalc(t, []calcCase{{op, a, b, want, errno}})
	}
}

func randomRow(random *rand.Rand) string {
	digits := 1 + random.Intn(maxDigits)
	if random.Intn(2) == 0 {
		digits = 1 + random.Intn(3)
	}
	row := []byte{byte('1' + random.Intn(9))}
	for range digits - 1 {
		row = append(row, byte('0'+random.Intn(10)))
	}
	return string(row)
}

func randomNumber(random *rand.Rand) string {
	if random.Intn(10) == 0 {
		return "0"
	}
	text := randomRow(random)
	if random.Intn(2) == 0 {
		text = "~" + text
	}
	if random.Intn(2) == 0 {
		text += "/" + randomRow(random)
	}
	return text
}

func expected(op, a, b string) (string, abacus.Errno) {
	x, _ := new(big.Rat).SetString(strings.Replace(a, "~", "-", 1))
	y, _ := new(big.Rat).SetString(strings.Replace(b, "~", "-", 1))
	z, errno := expectedRat(op, x, y)
	if errno != abacus.OK {
		return "", errno
	}
	if len(new(big.Int).Abs(z.Num()).String()) > maxDigits || len(z.Denom().String()) > maxDigits {
		return "", abacus.ErrBig
	}
	return strings.Replace(z.RatString(), "-", "~", 1), abacus.OK
}

func expectedRat(op string, x, y *big.Rat) (*big.Rat, abacus.Errno) {
	one, zero, order := big.NewRat(1, 1), new(big.Rat), x.Cmp(y)
	choose := func(first bool, a, b *big.Rat) (*big.Rat, abacus.Errno) {
		if first {
			return a, abacus.OK
		}
		return b, abacus.OK
	}
	switch op {
	case "+":
		return new(big.Rat).Add(x, y), abacus.OK
	case "-":
		return new(big.Rat).Sub(x, y), abacus.OK
	case "*":
		return new(big.Rat).Mul(x, y), abacus.OK
	case "%":
		if y.Sign() == 0 {
			return nil, abacus.ErrZero
		}
		return new(big.Rat).Quo(x, y), abacus.OK
	case "|":
		return expectedLeft(x, y)
	case "^":
		return expectedPower(x, y)
	case "<":
		return choose(order < 0, one, zero)
	case ">":
		return choose(order > 0, one, zero)
	case "=":
		return choose(order == 0, one, zero)
	case "min":
		return choose(order < 0, x, y)
	}
	return choose(order > 0, x, y)
}

func expectedLeft(x, y *big.Rat) (*big.Rat, abacus.Errno) {
	if !x.IsInt() || !y.IsInt() {
		return nil, abacus.ErrArg
	}
	if x.Sign() == 0 {
		return y, abacus.OK
	}
	rest := new(big.Int).Rem(y.Num(), x.Num())
	if rest.Sign()*x.Sign() < 0 {
		rest.Add(rest, x.Num())
	}
	return new(big.Rat).SetInt(rest), abacus.OK
}

func expectedPower(x, y *big.Rat) (*big.Rat, abacus.Errno) {
	if !y.IsInt() || new(big.Int).Abs(y.Num()).Cmp(big.NewInt(maxPower)) > 0 {
		return nil, abacus.ErrArg
	}
	if x.Sign() == 0 && y.Sign() < 0 {
		return nil, abacus.ErrZero
	}
	exponent := new(big.Int).Abs(y.Num())
	above, under := new(big.Int).Exp(x.Num(), exponent, nil), new(big.Int).Exp(x.Denom(), exponent, nil)
	if y.Sign() < 0 {
		above, under = under, above
	}
	return new(big.Rat).SetFrac(above, under), abacus.OK
}

func TestErrnoNumbers(t *testing.T) {
	for number, errno := range [...]abacus.Errno{abacus.OK, abacus.ErrLong, abacus.ErrForm, abacus.ErrDeep, abacus.ErrName, abacus.ErrTwice,
		abacus.ErrMany, abacus.ErrShape, abacus.ErrArg, abacus.ErrZero, abacus.ErrBig, abacus.ErrSteps} {
		if int(errno) != number {
			t.Errorf("the error number %d is %d", number, errno)
		}
	}
}
