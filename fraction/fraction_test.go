package fraction

import (
	"strings"
	"testing"
)

const testRow = 20

func parse(t *testing.T, text string) Fraction {
	t.Helper()
	f, ok := Parse(text, testRow)
	if !ok {
		t.Fatalf("Parse(%q) refused", text)
	}
	return f
}

func TestParseAndText(t *testing.T) {
	row := strings.Repeat("7", testRow)
	for _, c := range []struct{ text, want string }{
		{"0", "0"}, {"1", "1"}, {"~1", "~1"}, {"1/2", "1/2"}, {"~1/2", "~1/2"}, {"2/4", "1/2"}, {"~6/4", "~3/2"},
		{"4/2", "2"}, {"5/1", "5"}, {"0/5", "0"}, {row, row}, {"~" + row, "~" + row}, {"1/" + row, "1/" + row}, {row + "/" + row, "1"},
	} {
		if got := parse(t, c.text).Text(); got != c.want {
			t.Errorf("Parse(%q) shows %q, want %q", c.text, got, c.want)
		}
	}
}

func TestParseRefuses(t *testing.T) {
	row := strings.Repeat("7", testRow+1)
	for _, text := range []string{"", "~", "/", "~/", "~0", "~0/5", "00", "01", "~01", "1/0", "0/0", "1/00", "1/01", "1/", "/2", "~/2",
		"1/~2", "~~1", "1~", "1/2/3", "1//2", "-1", "+1", " 1", "1 ", "1 /2", "1.5", "1e3", "a", "\x00", row, "~" + row, "1/" + row} {
		if f, ok := Parse(text, testRow); ok {
			t.Errorf("Parse(%q) = %s, want a refusal", text, f.Text())
		}
	}
}

func TestWholeWithin(t *testing.T) {
	for _, c := range []struct {
		text string
		want int
		ok   bool
	}{{"0", 0, true}, {"99", 99, true}, {"~99", -99, true}, {"100", 0, false}, {"~100", 0, false}, {"1/2", 0, false}, {"198/2", 99, true}, {"4294967297", 0, false}} {
		if n, ok := parse(t, c.text).WholeWithin(99); n != c.want || ok != c.ok {
			t.Errorf("%s within 99: %d, %v", c.text, n, ok)
		}
	}
}

func TestArithmeticLeavesItsNumbers(t *testing.T) {
	a, b := parse(t, "~7/3"), parse(t, "5/6")
	Add(a, b)
	Subtract(a, b)
	Multiply(a, b)
	Divide(a, b)
	Negate(a)
	Invert(a)
	Power(a, 3, 60)
	Left(parse(t, "~3"), parse(t, "7"))
	if a.Text() != "~7/3" || b.Text() != "5/6" {
		t.Errorf("now %s and %s", a.Text(), b.Text())
	}
}

func TestZeroHasNoSign(t *testing.T) {
	zero, minus := Whole(0), parse(t, "~5")
	for name, f := range map[string]Fraction{
		"Negate": Negate(zero), "Add": Add(minus, parse(t, "5")), "Multiply": Multiply(minus, zero),
		"Divide": Divide(zero, minus), "Left": Left(minus, parse(t, "10")),
	} {
		if f.Text() != "0" || f.Sign() != 0 {
			t.Errorf("%s: %s with sign %d", name, f.Text(), f.Sign())
		}
	}
}

func TestPowerGivesUp(t *testing.T) {
	for _, c := range []struct {
		text  string
		times int
		want  string
		ok    bool
	}{{"10", 4, "10000", true}, {"10", 5, "", false}, {"~1/10", 4, "1/10000", true}, {"1/10", 5, "", false}, {"10", 0, "1", true}, {"0", 0, "1", true}, {"0", 1, "0", true}, {"~2/3", 3, "~8/27", true}} {
		f, ok := Power(parse(t, c.text), c.times, 5)
		if ok != c.ok || ok && f.Text() != c.want {
			t.Errorf("%s to the power %d: %v", c.text, c.times, ok)
		}
	}
}
