package tally_test

import (
	"math"
	"math/big"
	"math/rand"
	"testing"

	"confluence/api"
	"confluence/tally"
)

const most = api.MaxPart

// parts are numbers at and near the edges of a part, all of them valid.
var parts = []int64{0, 1, 2, 3, 5, 7, 1 << 25, 1<<25 + 1, 1<<25 - 1, 1 << 26, most / 3, most/2 - 1, most / 2, most/2 + 1, most - 1, most}

// wrong are numbers that are no valid tallies.
func wrong() []complex128 {
	inf, nan := math.Inf(1), math.NaN()
	bad := []float64{-1, -2, -most, -0.5, 0.5, 1.5, 1e-300, most + 1, most + 0.25, most - 0.25, 2 * most, 1 << 62, 1 << 63, 1 << 64, 1e300, inf, -inf, nan, math.MaxFloat64, math.SmallestNonzeroFloat64}
	var all []complex128
	for _, x := range bad {
		all = append(all, complex(x, 0), complex(0, x), complex(3, x), complex(x, 3), complex(x, most), complex(x, x))
	}
	return append(all, complex(inf, nan), complex(-1, 0.5))
}

// valid are all tallies of the parts at the edges, and random ones.
func valid() []complex128 {
	x := rand.New(rand.NewSource(3))
	var all []complex128
	for _, a := range parts {
		for _, r := range parts {
			all = append(all, complex(float64(a), float64(r)))
		}
	}
	for range 100 {
		all = append(all, complex(float64(x.Int63n(1<<26)), float64(x.Int63n(1<<26))), complex(float64(x.Int63n(most+1)), float64(x.Int63n(most+1))))
	}
	return all
}

// ofBig returns what Add or Times must answer if the Nets make n.
func ofBig(n *big.Int) (complex128, bool) {
	if n.CmpAbs(big.NewInt(most)) > 0 {
		return 0, false
	}
	if n.Sign() < 0 {
		return complex(0, -float64(n.Int64())), true
	}
	return complex(float64(n.Int64()), 0), true
}

// bigNet returns the Net of a valid tally, computed apart from the package.
func bigNet(c complex128) *big.Int {
	return big.NewInt(int64(real(c)) - int64(imag(c)))
}

// plain reports whether both parts of c are free of a negative zero.
func plain(c complex128) bool {
	return !math.Signbit(real(c)) && !math.Signbit(imag(c))
}

func TestP31OfHasTheParts(t *testing.T) {
	for _, a := range append([]int64{-1, -7, -most, most + 1, 1 << 52, -1 << 63}, parts...) {
		for _, r := range append([]int64{-1, -7, -most, most + 1, 1 << 52, -1 << 63}, parts...) {
			if c := tally.Of(a, r); real(c) != float64(a) || imag(c) != float64(r) {
				t.Errorf("Of(%d, %d): %v", a, r, c)
			}
		}
	}
}

func TestP31RightOfValidTallies(t *testing.T) {
	for _, c := range valid() {
		if !tally.Right(c) {
			t.Errorf("%v is a valid tally", c)
		}
	}
	for _, c := range []complex128{tally.Of(0, 0), tally.Of(most, 0), tally.Of(0, most), tally.Of(most, most), tally.Of(5, 5), tally.Of(3, 1)} {
		if !tally.Right(c) {
			t.Errorf("%v is a valid tally", c)
		}
	}
}

func TestP31RightOfWrongNumbers(t *testing.T) {
	for _, c := range wrong() {
		if tally.Right(c) {
			t.Errorf("%v is no valid tally", c)
		}
	}
	for _, c := range []complex128{tally.Of(-1, 0), tally.Of(0, -1), tally.Of(most+1, 0), tally.Of(0, most+1), tally.Of(-1, -1), tally.Of(math.MaxInt64, 0), tally.Of(0, math.MinInt64)} {
		if tally.Right(c) {
			t.Errorf("%v is no valid tally", c)
		}
	}
}

func TestP31PartsGiveBackWhatOfWasGiven(t *testing.T) {
	for _, a := range parts {
		for _, r := range parts {
			if x, y, ok := tally.Parts(tally.Of(a, r)); x != a || y != r || !ok {
				t.Errorf("Parts of %d %d: %d %d %v", a, r, x, y, ok)
			}
		}
	}
}

func TestP31NetIsTheFirstPartWithoutTheSecond(t *testing.T) {
	for _, a := range parts {
		for _, r := range parts {
			if n := tally.Net(tally.Of(a, r)); n != a-r {
				t.Errorf("Net of %d %d: %d", a, r, n)
			}
		}
	}
	if n := tally.Net(0); n != 0 {
		t.Errorf("Net of 0: %d", n)
	}
}

func TestP31ReduceKeepsTheNet(t *testing.T) {
	for _, c := range []struct{ a, r, wantA, wantR int64 }{
		{5, 5, 0, 0}, {0, 0, 0, 0}, {most, most, 0, 0},
		{3, 1, 2, 0}, {1, 5, 0, 4}, {2, 0, 2, 0}, {0, 2, 0, 2},
		{most, 0, most, 0}, {0, most, 0, most}, {most, 1, most - 1, 0}, {most - 1, most, 0, 1},
	} {
		if got := tally.Reduce(tally.Of(c.a, c.r)); got != tally.Of(c.wantA, c.wantR) || !plain(got) {
			t.Errorf("Reduce of %d %d: %v", c.a, c.r, got)
		}
	}
	for _, c := range valid() {
		got := tally.Reduce(c)
		if want, _ := ofBig(bigNet(c)); got != want || !plain(got) {
			t.Errorf("Reduce of %v: %v, not %v", c, got, want)
		}
		if tally.Reduce(got) != got {
			t.Errorf("Reduce of %v again: %v", got, tally.Reduce(got))
		}
	}
}

func TestP31FlipExchangesTheParts(t *testing.T) {
	for _, a := range parts {
		for _, r := range parts {
			if got := tally.Flip(tally.Of(a, r)); got != tally.Of(r, a) || !plain(got) {
				t.Errorf("Flip of %d %d: %v", a, r, got)
			}
		}
	}
}

func TestP31WrongNumbersGiveZeros(t *testing.T) {
	for _, c := range wrong() {
		if a, r, ok := tally.Parts(c); a != 0 || r != 0 || ok {
			t.Errorf("Parts of %v: %d %d %v", c, a, r, ok)
		}
		if n := tally.Net(c); n != 0 {
			t.Errorf("Net of %v: %d", c, n)
		}
		if r := tally.Reduce(c); r != 0 {
			t.Errorf("Reduce of %v: %v", c, r)
		}
		if f := tally.Flip(c); f != 0 {
			t.Errorf("Flip of %v: %v", c, f)
		}
	}
}

func TestP32AddOfKnownTallies(t *testing.T) {
	for _, c := range []struct {
		a, b, want complex128
		ok         bool
	}{
		{tally.Of(3, 1), tally.Of(1, 5), tally.Of(0, 2), true},
		{0, 0, 0, true},
		{tally.Of(5, 5), tally.Of(7, 7), 0, true},
		{tally.Of(4, 0), tally.Of(0, 4), 0, true},
		{tally.Of(4, 0), tally.Of(0, 1), tally.Of(3, 0), true},
		{tally.Of(most, 0), 0, tally.Of(most, 0), true},
		{0, tally.Of(0, most), tally.Of(0, most), true},
		{tally.Of(most-1, 0), tally.Of(1, 0), tally.Of(most, 0), true},
		{tally.Of(0, 1), tally.Of(0, most-1), tally.Of(0, most), true},
		{tally.Of(most, 0), tally.Of(1, 0), 0, false},
		{tally.Of(0, most), tally.Of(0, 1), 0, false},
		{tally.Of(most, 0), tally.Of(most, 0), 0, false},
		{tally.Of(0, most), tally.Of(0, most), 0, false},
		{tally.Of(most, most), tally.Of(most, most), 0, true},
		{tally.Of(most, 0), tally.Of(most, most), tally.Of(most, 0), true},
		{tally.Of(most, 0), tally.Of(0, most), 0, true},
		{tally.Of(most, 1), tally.Of(2, 1), tally.Of(most, 0), true},
		{tally.Of(most, 1), tally.Of(2, 0), 0, false},
		{tally.Of(1, most), tally.Of(0, 2), 0, false},
	} {
		if got, ok := tally.Add(c.a, c.b); got != c.want || ok != c.ok {
			t.Errorf("Add(%v, %v): %v %v", c.a, c.b, got, ok)
		}
	}
}

func TestP32TimesOfKnownTallies(t *testing.T) {
	for _, c := range []struct {
		a, b, want complex128
		ok         bool
	}{
		{tally.Of(0, 2), tally.Of(0, 3), tally.Of(6, 0), true},
		{tally.Of(2, 0), tally.Of(0, 3), tally.Of(0, 6), true},
		{tally.Of(0, 2), tally.Of(3, 0), tally.Of(0, 6), true},
		{tally.Of(5, 3), tally.Of(1, 4), tally.Of(0, 6), true},
		{0, 0, 0, true},
		{0, tally.Of(most, 0), 0, true},
		{tally.Of(0, most), 0, 0, true},
		{tally.Of(5, 5), tally.Of(0, most), 0, true},
		{tally.Of(most, 0), tally.Of(1, 0), tally.Of(most, 0), true},
		{tally.Of(0, 1), tally.Of(0, most), tally.Of(most, 0), true},
		{tally.Of(0, 1), tally.Of(most, 0), tally.Of(0, most), true},
		{tally.Of(1<<25, 0), tally.Of(1<<25, 0), tally.Of(most, 0), true},
		{tally.Of(0, 1<<25), tally.Of(1<<25, 0), tally.Of(0, most), true},
		{tally.Of(1<<25, 0), tally.Of(1<<25+1, 0), 0, false},
		{tally.Of(0, 1<<25+1), tally.Of(1<<25, 0), 0, false},
		{tally.Of(1<<25+1, 0), tally.Of(1<<25-1, 0), tally.Of(most-1, 0), true},
		{tally.Of(most, 0), tally.Of(2, 0), 0, false},
		{tally.Of(0, 2), tally.Of(0, most), 0, false},
		{tally.Of(most, 0), tally.Of(most, 0), 0, false},
		{tally.Of(1<<32, 0), tally.Of(1<<32, 0), 0, false}, // 2^64: wraps round to 0
		{tally.Of(1<<32, 0), tally.Of(0, 1<<31), 0, false},
		{tally.Of(most/2, 0), tally.Of(2, 0), tally.Of(most, 0), true},
		{tally.Of(most/2+1, 0), tally.Of(2, 0), 0, false},
		{tally.Of(most/2+1, 1), tally.Of(0, 2), tally.Of(0, most), true},
	} {
		if got, ok := tally.Times(c.a, c.b); got != c.want || ok != c.ok {
			t.Errorf("Times(%v, %v): %v %v", c.a, c.b, got, ok)
		}
	}
}

func TestP32WrongNumbersHaveNoSumAndNoProduct(t *testing.T) {
	refuse := func(what string, a, b, got complex128, ok bool) {
		if got != 0 || ok {
			t.Errorf("%s(%v, %v): %v %v", what, a, b, got, ok)
		}
	}
	for _, bad := range wrong() {
		for _, good := range []complex128{0, tally.Of(1, 0), tally.Of(0, 1), tally.Of(5, 5), tally.Of(most, most), bad} {
			c, ok := tally.Add(bad, good)
			refuse("Add", bad, good, c, ok)
			c, ok = tally.Add(good, bad)
			refuse("Add", good, bad, c, ok)
			c, ok = tally.Times(bad, good)
			refuse("Times", bad, good, c, ok)
			c, ok = tally.Times(good, bad)
			refuse("Times", good, bad, c, ok)
		}
	}
}

func TestP33NetOfFlipIsNegated(t *testing.T) {
	for _, c := range valid() {
		if tally.Net(tally.Flip(c)) != -tally.Net(c) {
			t.Errorf("%v: Net %d, flipped %d", c, tally.Net(c), tally.Net(tally.Flip(c)))
		}
		if tally.Flip(tally.Flip(c)) != c {
			t.Errorf("%v, flipped twice: %v", c, tally.Flip(tally.Flip(c)))
		}
	}
}

func TestP33NetsAreAddedAndMultiplied(t *testing.T) {
	for _, a := range valid() {
		for _, b := range valid() {
			sum := new(big.Int).Add(bigNet(a), bigNet(b))
			want, wantOk := ofBig(sum)
			got, ok := tally.Add(a, b)
			if got != want || ok != wantOk || ok && tally.Net(got) != sum.Int64() || !plain(got) {
				t.Fatalf("Add(%v, %v): %v %v, not %v %v", a, b, got, ok, want, wantOk)
			}
			product := new(big.Int).Mul(bigNet(a), bigNet(b))
			want, wantOk = ofBig(product)
			got, ok = tally.Times(a, b)
			if got != want || ok != wantOk || ok && tally.Net(got) != product.Int64() || !plain(got) {
				t.Fatalf("Times(%v, %v): %v %v, not %v %v", a, b, got, ok, want, wantOk)
			}
		}
	}
}

func TestP33ANegativeZeroCountsAsZero(t *testing.T) {
	zero := complex(math.Copysign(0, -1), math.Copysign(0, -1))
	if !tally.Right(zero) || tally.Net(zero) != 0 {
		t.Errorf("Right %v, Net %d", tally.Right(zero), tally.Net(zero))
	}
	sum, ok := tally.Add(zero, zero)
	product, ok2 := tally.Times(zero, tally.Of(0, 1))
	if !ok || !ok2 {
		t.Error("no sum or product of zero")
	}
	for _, c := range []complex128{tally.Reduce(zero), tally.Flip(zero), sum, product} {
		if c != 0 || !plain(c) {
			t.Errorf("a zero with a sign: %v", c)
		}
	}
}
