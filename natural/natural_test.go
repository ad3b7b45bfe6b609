package natural

import (
	"math/big"
	"math/rand"
	"strings"
	"testing"
)

func parse(t *testing.T, row string) Natural {
	t.Helper()
	n, ok := Parse(row)
	if !ok {
		t.Fatalf("Parse(%q) refused", row)
	}
	return n
}

func fromBig(t *testing.T, n *big.Int) Natural {
	t.Helper()
	return parse(t, n.String())
}

func wantText(t *testing.T, what string, got Natural, want *big.Int) {
	t.Helper()
	if got.Text() != want.String() {
		t.Errorf("%s = %s, want %s", what, got.Text(), want)
	}
	if len(got.words) > 0 && got.words[len(got.words)-1] == 0 {
		t.Errorf("%s = %s keeps an empty highest word", what, got.Text())
	}
}

// edgeWords are where carries, borrows and guesses go wrong.
var edgeWords = [...]uint32{0, 1, 2, 0x7fffffff, 0x80000000, 0x80000001, 0xfffffffe, 0xffffffff}

func randomBig(random *rand.Rand, words int) *big.Int {
	n := new(big.Int)
	for range words {
		word := random.Uint32()
		if random.Intn(2) == 0 {
			word = edgeWords[random.Intn(len(edgeWords))]
		}
		n.Lsh(n, wordBits)
		n.Or(n, new(big.Int).SetUint64(uint64(word)))
	}
	return n
}

func TestParseAndText(t *testing.T) {
	for _, row := range []string{"0", "1", "9", "10", "999999999", "1000000000", "1000000001", "4294967295", "4294967296",
		"18446744073709551615", "18446744073709551616", "1000000000000000000000000000000000", strings.Repeat("9", 60)} {
		n := parse(t, row)
		if n.Text() != row || n.Digits() != len(row) {
			t.Errorf("Parse(%q) shows %q of %d digits", row, n.Text(), n.Digits())
		}
	}
}

func TestParseRefuses(t *testing.T) {
	for _, row := range []string{"", "00", "01", "~1", "-1", "+1", " 1", "1 ", "1a", "a", "1/2", "/", ":", "1\x00", "\xff", "\u0661", "1_0"} {
		if n, ok := Parse(row); ok {
			t.Errorf("Parse(%q) = %s, want a refusal", row, n.Text())
		}
	}
}

func TestArithmetic(t *testing.T) {
	random := rand.New(rand.NewSource(1))
	for range 20000 {
		x, y := randomBig(random, random.Intn(12)), randomBig(random, random.Intn(12))
		if x.Cmp(y) < 0 {
			x, y = y, x
		}
		a, b := fromBig(t, x), fromBig(t, y)
		pair := x.String() + " and " + y.String()
		wantText(t, "the sum of "+pair, Add(a, b), new(big.Int).Add(x, y))
		wantText(t, "the turned sum of "+pair, Add(b, a), new(big.Int).Add(x, y))
		wantText(t, "the difference of "+pair, Subtract(a, b), new(big.Int).Sub(x, y))
		wantText(t, "the product of "+pair, Multiply(a, b), new(big.Int).Mul(x, y))
		wantText(t, "what is common to "+pair, Common(a, b), new(big.Int).GCD(nil, nil, x, y))
		wantText(t, "the first of "+pair, a, x)
		wantText(t, "the second of "+pair, b, y)
		if Compare(a, b) != x.Cmp(y) || Compare(b, a) != y.Cmp(x) {
			t.Errorf("Compare of %s = %d, turned %d", pair, Compare(a, b), Compare(b, a))
		}
	}
}

func TestDivide(t *testing.T) {
	random := rand.New(rand.NewSource(2))
	for range 100000 {
		x, y := randomBig(random, random.Intn(12)), randomBig(random, 1+random.Intn(6))
		if y.Sign() == 0 {
			continue
		}
		checkDivide(t, x, y)
	}
}

// TestDivideNearMultiples takes quotients and rests that make the guess too high.
func TestDivideNearMultiples(t *testing.T) {
	random := rand.New(rand.NewSource(3))
	one := big.NewInt(1)
	for range 50000 {
		y, q := randomBig(random, 2+random.Intn(3)), randomBig(random, 1+random.Intn(4))
		if y.Sign() == 0 {
			continue
		}
		product := new(big.Int).Mul(y, q)
		checkDivide(t, product, y)
		checkDivide(t, new(big.Int).Add(product, one), y)
		if product.Sign() > 0 {
			checkDivide(t, new(big.Int).Sub(product, one), y)
		}
	}
}

func checkDivide(t *testing.T, x, y *big.Int) {
	t.Helper()
	a, b := fromBig(t, x), fromBig(t, y)
	quotient, rest := Divide(a, b)
	wantQuotient, wantRest := new(big.Int).QuoRem(x, y, new(big.Int))
	pair := x.String() + " divided by " + y.String()
	wantText(t, pair, quotient, wantQuotient)
	wantText(t, "the rest of "+pair, rest, wantRest)
	wantText(t, "the dividend of "+pair, a, x)
	wantText(t, "the divisor of "+pair, b, y)
}

// TestGuessLoweredAndPutBack names numbers for which the first guess is lowered
// once and twice, and numbers for which the tested guess is still too high.
func TestGuessLoweredAndPutBack(t *testing.T) {
	for _, c := range []struct{ a, b string }{
		{"39614081247908796759917199360", "9223372036854775809"},
		{"39614081247908796759917199360", "9223372041149743103"},
		{"170141183460469231731687303715884105728", "39614081257132168796771975169"},
		{"170141183460469231750134047781003722752", "39614081257132168801066942463"},
	} {
		x, _ := new(big.Int).SetString(c.a, 10)
		y, _ := new(big.Int).SetString(c.b, 10)
		checkDivide(t, x, y)
	}
}

func TestSmallParts(t *testing.T) {
	for _, c := range []struct {
		n       uint32
		isZero  bool
		isOne   bool
		lowWord uint32
	}{{0, true, false, 0}, {1, false, true, 1}, {2, false, false, 2}, {0xffffffff, false, false, 0xffffffff}} {
		n := Small(c.n)
		if n.IsZero() != c.isZero || n.IsOne() != c.isOne || n.LowWord() != c.lowWord {
			t.Errorf("Small(%d): %v %v %d", c.n, n.IsZero(), n.IsOne(), n.LowWord())
		}
	}
	if parse(t, "4294967297").IsOne() {
		t.Errorf("4294967297 is taken for 1")
	}
}
