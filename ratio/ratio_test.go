package ratio

import (
	"math"
	"math/big"
	"math/rand"
	"slices"
	"strconv"
	"testing"

	"hackney/api"
)

var (
	nan    = math.NaN()
	inf    = math.Inf(1)
	minus  = math.Inf(-1)
	nought = math.Copysign(0, -1)
	below  = math.Nextafter(1, 0) // the greatest float below 1
	above  = math.Nextafter(1, 2)
)

const (
	least = math.SmallestNonzeroFloat64
	most  = math.MaxFloat64
)

// same: both are NaN, or they have the same bits.
func same(a, b float64) bool {
	return a != a && b != b || math.Float64bits(a) == math.Float64bits(b)
}

// nans: floats that are nothing, of several bits.
func nans() []float64 {
	return []float64{
		nan, -nan,
		math.Float64frombits(0x7FF0000000000001),
		math.Float64frombits(0x7FF8000000000000),
		math.Float64frombits(0x7FFFFFFFFFFFFFFF),
		math.Float64frombits(0xFFF0000000000001),
		math.Float64frombits(0xFFF8000000000000),
		math.Float64frombits(0xFFFFFFFFFFFFFFFF),
	}
}

// rising: floats in the order that the document tells, but nothing.
func rising() []float64 {
	return []float64{
		minus, -most, -1e300, -2, -above, -1, -below, -0.5, -0x1p-1022, -least, nought,
		0, least, 2 * least, 0x1p-1022, 1e-300, 0.1, 0.25, 0.5, below, 1, above, 1.5, 2,
		1 << 53, 0x1p64, 1e300, most, inf,
	}
}

// edges: numbers at which something may go wrong.
func edges() []uint64 {
	return []uint64{
		0, 1, 2, 3, 7, 10, 1000, 1 << 32, 1<<53 - 1, 1 << 53, 1<<53 + 1, 1<<53 + 3,
		1<<54 - 1, 1<<54 + 2, 1<<60 - 1, 1 << 60, 1<<63 - 513, 1<<63 - 512, 1<<63 - 1,
		1 << 63, 1<<63 + 1025, math.MaxUint64 - 2048, math.MaxUint64 - 1024,
		math.MaxUint64 - 1023, math.MaxUint64 - 1, math.MaxUint64,
	}
}

// P6.1: one as a float divided by the other as a float.
func TestShare(t *testing.T) {
	cases := []struct {
		a, b uint64
		want float64
	}{
		{1, 4, 0.25},
		{4, 1, 4},
		{0, 4, 0},
		{3, 3, 1},
		{1, 3, 1.0 / 3},
		{0, 0, nan},
		{1, 0, inf},
		{math.MaxUint64, 0, inf},
		{math.MaxUint64, math.MaxUint64, 1},
		{math.MaxUint64, 1, 0x1p64},
		{1, math.MaxUint64, 0x1p-64},
		// both are floats ahead of being divided
		{1<<53 + 1, 1, 1 << 53},
		{1<<53 + 1, 1 << 53, 1},
		{1<<53 + 3, 1, 1<<53 + 4},
		{1 << 63, 2, 1 << 62},
		{0, math.MaxUint64, 0},
	}
	for _, c := range cases {
		if got := Share(c.a, c.b); !same(got, c.want) {
			t.Errorf("Share(%d, %d): %v, wanted %v", c.a, c.b, got, c.want)
		}
	}
}

// P6.1: nothing of none; else all, added in order, divided by how many.
func TestMean(t *testing.T) {
	// Variables, as a sum of constants would be reckoned exactly.
	a, b, c := 0.1, 0.2, 0.3
	cases := []struct {
		l    []float64
		want float64
	}{
		{nil, nan},
		{[]float64{}, nan},
		{[]float64{7}, 7},
		{[]float64{1, 2}, 1.5},
		{[]float64{1, 2, 6}, 3},
		{[]float64{-1, 1}, 0},
		{[]float64{0}, 0},
		// from 0 on: 0 and -0 are 0
		{[]float64{nought}, 0},
		{[]float64{nought, nought}, 0},
		{[]float64{-least, least}, 0},
		{[]float64{-least, 0}, nought},
		// in order
		{[]float64{1e16, 1, -1e16}, 0},
		{[]float64{1e16, -1e16, 1}, 1.0 / 3},
		{[]float64{1, 1e16, -1e16}, 0},
		{[]float64{a, b, c}, (a + b + c) / 3},
		{[]float64{c, b, a}, (c + b + a) / 3},
		// what is added may be too great, though the mean isn't
		{[]float64{most, most}, inf},
		{[]float64{most, most, -most}, inf},
		{[]float64{-most, -most}, minus},
		{[]float64{most, -most, most}, most / 3},
		{[]float64{inf, 1}, inf},
		{[]float64{1, minus}, minus},
		{[]float64{inf, minus}, nan},
		{[]float64{inf, minus, 5}, nan},
		{[]float64{nan}, nan},
		{[]float64{1, nan, 2}, nan},
		{[]float64{inf, nan}, nan},
	}
	for _, c := range cases {
		if got := Mean(c.l...); !same(got, c.want) {
			t.Errorf("Mean(%v): %v, wanted %v", c.l, got, c.want)
		}
	}
	if got := Mean(); !same(got, nan) {
		t.Errorf("Mean(): %v", got)
	}
	if got := Mean(1, 2, 3, 4); got != 2.5 {
		t.Errorf("Mean(1, 2, 3, 4): %v", got)
	}
}

// P6.1: many floats, one behind the other; the list that is handed in stays.
func TestMeanOfMany(t *testing.T) {
	room := make([]float64, 5000, 6000)
	for i := range room {
		room[i] = math.Sqrt(float64(i)) * math.Pow(-1, float64(i))
	}
	l := room[:4999]
	sum := 0.0
	for _, f := range l {
		sum += f
	}
	was := slices.Clone(room[:cap(room)])
	if got := Mean(l...); got != sum/4999 {
		t.Errorf("%v, wanted %v", got, sum/4999)
	}
	if !slices.Equal(room[:cap(room)], was) {
		t.Error("the list that was handed in isn't as it was")
	}
}

// P6.1: 0 of -0, all else as it is.
func TestClean(t *testing.T) {
	if !same(Clean(nought), 0) {
		t.Error("0 of -0")
	}
	for _, f := range append(rising(), nans()...) {
		if !same(f, nought) && !same(Clean(f), f) {
			t.Errorf("Clean(%v): %v", f, Clean(f))
		}
	}
}

// P6.2: the first of ErrNaN, ErrRange; the bounds are within.
func TestCheck(t *testing.T) {
	cases := []struct {
		f, least, most float64
		want           api.Errno
	}{
		{0.5, 0, 1, api.OK},
		{0, 0, 1, api.OK},
		{1, 0, 1, api.OK},
		{-least, 0, 1, api.ErrRange},
		{above, 0, 1, api.ErrRange},
		{2, 0, 1, api.ErrRange},
		{-2, 0, 1, api.ErrRange},
		// both noughts are within both
		{nought, 0, 1, api.OK},
		{0, nought, 1, api.OK},
		{0, -1, nought, api.OK},
		{nought, -1, 0, api.OK},
		{nought, 0, 0, api.OK},
		{0, nought, nought, api.OK},
		{inf, 0, 1, api.ErrRange},
		{minus, 0, 1, api.ErrRange},
		{inf, 0, inf, api.OK},
		{minus, minus, 0, api.OK},
		{5, minus, inf, api.OK},
		{most, 0, inf, api.OK},
		{inf, 0, most, api.ErrRange},
		{minus, -most, 0, api.ErrRange},
		// no float is within bounds the wrong way round
		{0.5, 1, 0, api.ErrRange},
		{0, 1, 0, api.ErrRange},
		{1, 1, 0, api.ErrRange},
		{2, 1, 0, api.ErrRange},
		{0, inf, minus, api.ErrRange},
	}
	for _, c := range cases {
		if got := Check(c.f, c.least, c.most); got != c.want {
			t.Errorf("Check(%v, %v, %v): %d, wanted %d", c.f, c.least, c.most, got, c.want)
		}
	}
}

// P6.2: one that is nothing, of the three, is told ahead of all else.
func TestCheckNaN(t *testing.T) {
	for _, n := range nans() {
		for _, a := range rising() {
			for _, b := range rising() {
				for _, l := range [][3]float64{{n, a, b}, {a, n, b}, {a, b, n}, {n, n, a}, {n, a, n}, {a, n, n}, {n, n, n}} {
					if got := Check(l[0], l[1], l[2]); got != api.ErrNaN {
						t.Fatalf("Check(%v): %d", l, got)
					}
				}
			}
		}
	}
}

// P6.2: the order, of each two.
func TestCmp(t *testing.T) {
	all := rising()
	for i, a := range all {
		for j, b := range all {
			want := 0
			if i < j {
				want = -1
			} else if i > j {
				want = 1
			}
			if got := Cmp(a, b); got != want {
				t.Errorf("Cmp(%v, %v): %d, wanted %d", a, b, got, want)
			}
		}
		for _, n := range nans() {
			if Cmp(a, n) != -1 || Cmp(n, a) != 1 {
				t.Errorf("%v and nothing: %d, %d", a, Cmp(a, n), Cmp(n, a))
			}
		}
	}
	for _, m := range nans() {
		for _, n := range nans() {
			if got := Cmp(m, n); got != 0 {
				t.Errorf("nothing (%x) and nothing (%x): %d", math.Float64bits(m), math.Float64bits(n), got)
			}
		}
	}
}

// P6.3: any floats can be sorted so, in whatever order they stood.
func TestSort(t *testing.T) {
	want := append(rising(), nans()...)
	r := rand.New(rand.NewSource(1))
	for range 200 {
		l := slices.Clone(want)
		r.Shuffle(len(l), func(i, j int) { l[i], l[j] = l[j], l[i] })
		slices.SortFunc(l, Cmp)
		if !slices.EqualFunc(l, want, same) {
			t.Fatalf("sorted %v, wanted %v", l, want)
		}
	}
}

// P6.3: the order of any bits is one: it goes both ways, and on from one to
// the next; just those that are the same stand in one place.
func TestOrderOfAnyBits(t *testing.T) {
	r := rand.New(rand.NewSource(2))
	for range 20000 {
		a, b, c := anyFloat(r), anyFloat(r), anyFloat(r)
		if Cmp(a, b) != -Cmp(b, a) || Cmp(a, a) != 0 || (Cmp(a, b) == 0) != same(a, b) {
			t.Fatalf("%v, %v: %d, %d", a, b, Cmp(a, b), Cmp(b, a))
		}
		if a < b && Cmp(a, b) != -1 {
			t.Fatalf("%v is less than %v", a, b)
		}
		if Cmp(a, b) <= 0 && Cmp(b, c) <= 0 && Cmp(a, c) > 0 {
			t.Fatalf("%v, %v, %v", a, b, c)
		}
	}
}

// anyFloat: of any bits, or one of the edges.
func anyFloat(r *rand.Rand) float64 {
	if r.Intn(3) == 0 {
		all := append(rising(), nans()...)
		return all[r.Intn(len(all))]
	}
	return math.Float64frombits(r.Uint64())
}

// P6.2: without what is behind the point, and what isn't within 0 and 1.
func TestPart(t *testing.T) {
	cases := []struct {
		n    uint64
		f    float64
		want uint64
	}{
		{10, 0.25, 2},
		{10, 0.5, 5},
		{10, 0.99, 9},
		{10, 0.05, 0},
		{10, 1, 10},
		{10, below, 9},
		{1, below, 0},
		{1, 0.5, 0},
		{10, above, 10},
		{10, 2, 10},
		{10, 1e300, 10},
		{10, inf, 10},
		{10, nan, 0},
		{10, 0, 0},
		{10, nought, 0},
		{10, -0.5, 0},
		{10, -1, 0},
		{10, -5, 0},
		{10, minus, 0},
		{10, least, 0},
		{0, 0.5, 0},
		{0, 1, 0},
		{0, inf, 0},
		{0, nan, 0},
		// what isn't a float in full is one ahead of the product, but not of 1
		{1<<53 + 1, 1, 1<<53 + 1},
		{1<<53 + 1, 0.5, 1 << 52},
		{1<<53 + 3, 0.5, 1<<52 + 2},
		{math.MaxUint64, 1, math.MaxUint64},
		{math.MaxUint64, inf, math.MaxUint64},
		{math.MaxUint64, 0.5, 1 << 63},
		{math.MaxUint64, below, math.MaxUint64 - 2047},
		{math.MaxUint64, least, 0},
		{1<<63 - 1, 0.5, 1 << 62},
		{1<<63 - 1, below, 1<<63 - 1024},
	}
	for _, c := range cases {
		if got := Part(c.n, c.f); got != c.want {
			t.Errorf("Part(%d, %v): %d, wanted %d", c.n, c.f, got, c.want)
		}
	}
	for _, n := range edges() {
		for _, f := range nans() {
			if got := Part(n, f); got != 0 {
				t.Errorf("Part(%d, nothing): %d", n, got)
			}
		}
	}
}

// byHand: the product of floats between 0 and 1, each operation rounded apart.
func byHand(n uint64, f float64) uint64 {
	whole := new(big.Float).SetPrec(53).SetInt(new(big.Int).SetUint64(n))
	whole.Mul(whole, new(big.Float).SetPrec(53).SetFloat64(f))
	out, _ := whole.Uint64()
	return min(n, out)
}

// P6.2: what lies between 0 and 1, as reckoned with floats of any length.
func TestPartByHand(t *testing.T) {
	r := rand.New(rand.NewSource(3))
	for range 20000 {
		n, f := r.Uint64()>>r.Intn(64), r.Float64()
		if got, want := Part(n, f), byHand(n, f); f > 0 && got != want {
			t.Fatalf("Part(%d, %v): %d, wanted %d", n, f, got, want)
		}
	}
	for _, n := range edges() {
		for _, f := range []float64{0x1p-1022, 0.1, 0.25, 1.0 / 3, 0.5, 0.75, 0.9, below} {
			if got, want := Part(n, f), byHand(n, f); got != want {
				t.Errorf("Part(%d, %v): %d, wanted %d", n, f, got, want)
			}
		}
	}
}

// P6.3: a part is never more than the whole, never less of a greater part.
func TestPartRises(t *testing.T) {
	r := rand.New(rand.NewSource(4))
	parts := rising()
	for range 200 {
		parts = append(parts, r.Float64(), 1-r.Float64()*0x1p-40)
	}
	slices.SortFunc(parts, Cmp)
	numbers := edges()
	for range 200 {
		numbers = append(numbers, r.Uint64()>>r.Intn(64))
	}
	for _, n := range numbers {
		last := uint64(0)
		for _, f := range parts {
			got := Part(n, f)
			if got > n || got < last {
				t.Fatalf("Part(%d, %v): %d, behind %d", n, f, got, last)
			}
			last = got
		}
	}
}

// P6.2: as it is written.
func TestText(t *testing.T) {
	cases := []struct {
		f    float64
		want string
	}{
		{inf, "+inf"},
		{minus, "-inf"},
		{nought, "-0"},
		{0, "0"},
		{1, "1"},
		{-1, "-1"},
		{0.5, "0.5"},
		{0.25, "0.25"},
		{-0.1, "-0.1"},
		{1.0 / 3, "0.3333333333333333"},
		{100, "100"},
		{1e20, "1e+20"},
		{1e21, "1e+21"},
		{123456789, "1.23456789e+08"},
		{0.0001, "0.0001"},
		{0.00001, "1e-05"},
		{most, "1.7976931348623157e+308"},
		{least, "5e-324"},
		{below, "0.9999999999999999"},
		{above, "1.0000000000000002"},
	}
	for _, c := range cases {
		if got := Text(c.f); got != c.want {
			t.Errorf("Text(%v): %s, wanted %s", c.f, got, c.want)
		}
	}
	for _, f := range nans() {
		if got := Text(f); got != "nan" {
			t.Errorf("Text of nothing (%x): %s", math.Float64bits(f), got)
		}
	}
}

// P6.2: a text comes to the float again, to the bit, the sign of -0 included.
func TestTextAndBack(t *testing.T) {
	r := rand.New(rand.NewSource(5))
	for range 5000 {
		f := anyFloat(r)
		text := Text(f)
		if got, err := strconv.ParseFloat(text, 64); err != nil || !same(got, f) {
			t.Fatalf("%v (%x) is written %s, which is %v, %v", f, math.Float64bits(f), text, got, err)
		}
		if !math.IsNaN(f) && !math.IsInf(f, 0) && text != strconv.FormatFloat(f, 'g', -1, 64) {
			t.Fatalf("%v is written %s", f, text)
		}
	}
}
