package span_test

import (
	"math"
	"math/big"
	"testing"

	"lockgate/api"
	"lockgate/span"
)

const (
	all   = math.MaxUint64
	top   = 1 << 63
	least = math.MinInt64
	most  = math.MaxInt64
)

var (
	wholeU = api.U{Lo: 0, Hi: all}
	wholeS = api.S{Lo: least, Hi: most}
)

// numbers are about the ends of 64 bits, of 63, and of 32; seen with a sign, about the least, 0 and the greatest too.
var numbers = []uint64{
	0, 1, 2, 3, 7, 20, 1<<31 - 1, 1 << 31, 1<<32 - 1, 1 << 32, 1<<32 + 5, 1<<33 - 1, 1 << 33,
	1<<62 + 1, 1<<63 - 1, top, top + 1, 1<<64 - 1<<32, all - 1, all,
}

var distances = []int{
	0, 1, 2, 30, 31, 32, 33, 62, 63, 64, 65, 127, 128, 1 << 32, math.MaxInt,
	-1, -2, -31, -32, -33, -63, -64, -65, -128, math.MinInt, math.MinInt + 1,
}

// modulo is n modulo 64, from 0 on.
func modulo(n int) uint {
	return uint((n%64 + 64) % 64)
}

// unsigned is all spans between numbers; signed likewise, with a sign.
func unsigned() []api.U {
	var l []api.U
	for _, lo := range numbers {
		for _, hi := range numbers {
			if lo <= hi {
				l = append(l, api.U{Lo: lo, Hi: hi})
			}
		}
	}
	return l
}

func signed() []api.S {
	var l []api.S
	for _, lo := range numbers {
		for _, hi := range numbers {
			if int64(lo) <= int64(hi) {
				l = append(l, api.S{Lo: int64(lo), Hi: int64(hi)})
			}
		}
	}
	return l
}

// wide and deep are true numbers, which never go over: what must be told is worked out with them.
func wide(v uint64) *big.Int       { return new(big.Int).SetUint64(v) }
func deep(v int64) *big.Int        { return big.NewInt(v) }
func plus(a, b *big.Int) *big.Int  { return new(big.Int).Add(a, b) }
func less(a, b *big.Int) *big.Int  { return new(big.Int).Sub(a, b) }
func times(a, b *big.Int) *big.Int { return new(big.Int).Mul(a, b) }

// toU is the span between two true numbers; all, if one is no number of 64 bits.
func toU(lo, hi *big.Int) api.U {
	if !lo.IsUint64() || !hi.IsUint64() {
		return wholeU
	}
	return api.U{Lo: lo.Uint64(), Hi: hi.Uint64()}
}

// toS is as toU, with a sign.
func toS(lo, hi *big.Int) api.S {
	if !lo.IsInt64() || !hi.IsInt64() {
		return wholeS
	}
	return api.S{Lo: lo.Int64(), Hi: hi.Int64()}
}

func wantUAdd(a, b api.U) api.U {
	return toU(plus(wide(a.Lo), wide(b.Lo)), plus(wide(a.Hi), wide(b.Hi)))
}

func wantUSub(a, b api.U) api.U {
	return toU(less(wide(a.Lo), wide(b.Hi)), less(wide(a.Hi), wide(b.Lo)))
}

func wantUMul(a, b api.U) api.U {
	return toU(times(wide(a.Lo), wide(b.Lo)), times(wide(a.Hi), wide(b.Hi)))
}

func wantSAdd(a, b api.S) api.S {
	return toS(plus(deep(a.Lo), deep(b.Lo)), plus(deep(a.Hi), deep(b.Hi)))
}

func wantSSub(a, b api.S) api.S {
	return toS(less(deep(a.Lo), deep(b.Hi)), less(deep(a.Hi), deep(b.Lo)))
}

func wantUDiv(a, b api.U) api.U {
	if b.Lo != b.Hi || b.Lo == 0 {
		return api.U{Hi: a.Hi}
	}
	by := wide(b.Lo)
	return toU(new(big.Int).Quo(wide(a.Lo), by), new(big.Int).Quo(wide(a.Hi), by))
}

func wantUMod(a, b api.U) api.U {
	switch {
	case b.Lo != b.Hi || b.Lo == 0:
		return api.U{Hi: a.Hi}
	case wide(a.Hi).Cmp(wide(b.Lo)) < 0:
		return a
	case a.Lo == a.Hi:
		left := new(big.Int).Rem(wide(a.Lo), wide(b.Lo))
		return toU(left, left)
	}
	return toU(wide(0), less(wide(b.Lo), wide(1)))
}

func wantUAnd(a, b api.U) api.U {
	if a.Lo == a.Hi && b.Lo == b.Hi {
		both := new(big.Int).And(wide(a.Lo), wide(b.Lo))
		return toU(both, both)
	}
	if a.Hi < b.Hi {
		return api.U{Hi: a.Hi}
	}
	return api.U{Hi: b.Hi}
}

func wantUOr(a, b api.U) api.U {
	if a.Lo == a.Hi && b.Lo == b.Hi {
		one := new(big.Int).Or(wide(a.Lo), wide(b.Lo))
		return toU(one, one)
	}
	want := api.U{Lo: a.Lo}
	if b.Lo > a.Lo {
		want.Lo = b.Lo
	}
	for want.Hi < a.Hi || want.Hi < b.Hi {
		want.Hi = want.Hi*2 + 1
	}
	return want
}

// sums are the operations of two spans without a sign: what is told, what must be, and what is made of two numbers.
var sums = []struct {
	name       string
	told, want func(a, b api.U) api.U
	made       func(x, y uint64) uint64
}{
	{"UAdd", span.UAdd, wantUAdd, func(x, y uint64) uint64 { return x + y }},
	{"USub", span.USub, wantUSub, func(x, y uint64) uint64 { return x - y }},
	{"UMul", span.UMul, wantUMul, func(x, y uint64) uint64 { return x * y }},
	{"UDiv", span.UDiv, wantUDiv, func(x, y uint64) uint64 {
		if y == 0 {
			return 0
		}
		return x / y
	}},
	{"UMod", span.UMod, wantUMod, func(x, y uint64) uint64 {
		if y == 0 {
			return x
		}
		return x % y
	}},
	{"UAnd", span.UAnd, wantUAnd, func(x, y uint64) uint64 { return x & y }},
	{"UOr", span.UOr, wantUOr, func(x, y uint64) uint64 { return x | y }},
}

// signs are those of two spans with a sign.
var signs = []struct {
	name       string
	told, want func(a, b api.S) api.S
	made       func(x, y uint64) uint64
}{
	{"SAdd", span.SAdd, wantSAdd, func(x, y uint64) uint64 { return x + y }},
	{"SSub", span.SSub, wantSSub, func(x, y uint64) uint64 { return x - y }},
}

// P4.1: all numbers, one number alone, and which numbers are of them.
func TestAllOf(t *testing.T) {
	if got := span.UAll(); got != wholeU {
		t.Errorf("UAll is %v", got)
	}
	if got := span.SAll(); got != wholeS {
		t.Errorf("SAll is %v", got)
	}
	for _, v := range numbers {
		if got := span.UOf(v); got != (api.U{Lo: v, Hi: v}) {
			t.Errorf("UOf(%#x) is %v", v, got)
		}
		if got := span.SOf(v); got != (api.S{Lo: int64(v), Hi: int64(v)}) {
			t.Errorf("SOf(%#x) is %v", v, got)
		}
		if !span.UIn(span.UAll(), v) || !span.SIn(span.SAll(), v) {
			t.Errorf("%#x is not of all", v)
		}
	}
	if got := span.SOf(all); got != (api.S{Lo: -1, Hi: -1}) {
		t.Errorf("SOf of all bits is %v", got)
	}
	if got := span.SOf(top); got != (api.S{Lo: least, Hi: least}) {
		t.Errorf("SOf of the highest bit is %v", got)
	}
}

// P4.1: UIn and SIn have both ends, and what is between.
func TestIn(t *testing.T) {
	for _, u := range unsigned() {
		for _, v := range numbers {
			want := wide(u.Lo).Cmp(wide(v)) <= 0 && wide(v).Cmp(wide(u.Hi)) <= 0
			if got := span.UIn(u, v); got != want {
				t.Errorf("UIn(%v, %d) is %v", u, v, got)
			}
		}
	}
	for _, s := range signed() {
		for _, v := range numbers {
			n := deep(int64(v))
			want := deep(s.Lo).Cmp(n) <= 0 && n.Cmp(deep(s.Hi)) <= 0
			if got := span.SIn(s, v); got != want {
				t.Errorf("SIn(%v, %d) is %v", s, int64(v), got)
			}
		}
	}
}

// P4.1: just ahead of an end and just behind it.
func TestInEnds(t *testing.T) {
	u, s := api.U{Lo: 3, Hi: 6}, api.S{Lo: -3, Hi: 6}
	for v, want := range map[uint64]bool{2: false, 3: true, 4: true, 6: true, 7: false, all: false, top + 4: false} {
		if span.UIn(u, v) != want {
			t.Errorf("UIn(%v, %d) is %v", u, v, !want)
		}
	}
	for v, want := range map[int64]bool{-4: false, -3: true, -1: true, 0: true, 6: true, 7: false, least: false, most: false} {
		if span.SIn(s, uint64(v)) != want {
			t.Errorf("SIn(%v, %d) is %v", s, v, !want)
		}
	}
}

// P4.1, P4.9: Within; Join from the lesser Lo to the greater Hi; Meet from the greater Lo to the lesser Hi, or zero and false.
func TestSets(t *testing.T) {
	l, apart := unsigned(), 0
	for _, a := range l {
		for _, b := range l {
			if got, want := span.UWithin(a, b), span.UIn(b, a.Lo) && span.UIn(b, a.Hi); got != want {
				t.Fatalf("UWithin(%v, %v) is %v", a, b, got)
			}
			j := span.UJoin(a, b)
			if (j.Lo != a.Lo && j.Lo != b.Lo) || (j.Hi != a.Hi && j.Hi != b.Hi) || !span.UWithin(a, j) || !span.UWithin(b, j) {
				t.Fatalf("UJoin(%v, %v) is %v", a, b, j)
			}
			m, is := span.UMeet(a, b)
			if want := a.Hi >= b.Lo && b.Hi >= a.Lo; is != want {
				t.Fatalf("UMeet(%v, %v) is %v, %v", a, b, m, is)
			}
			if !is {
				if apart++; m != (api.U{}) {
					t.Fatalf("UMeet(%v, %v) is %v, false", a, b, m)
				}
				continue
			}
			if (m.Lo != a.Lo && m.Lo != b.Lo) || (m.Hi != a.Hi && m.Hi != b.Hi) || !span.UWithin(m, a) || !span.UWithin(m, b) {
				t.Fatalf("UMeet(%v, %v) is %v", a, b, m)
			}
		}
	}
	if apart == 0 {
		t.Error("UMeet was never asked of what has nothing between")
	}
}

// P4.1, P4.9: the same with a sign.
func TestSetsSigned(t *testing.T) {
	l, apart := signed(), 0
	for _, a := range l {
		for _, b := range l {
			if got, want := span.SWithin(a, b), span.SIn(b, uint64(a.Lo)) && span.SIn(b, uint64(a.Hi)); got != want {
				t.Fatalf("SWithin(%v, %v) is %v", a, b, got)
			}
			j := span.SJoin(a, b)
			if (j.Lo != a.Lo && j.Lo != b.Lo) || (j.Hi != a.Hi && j.Hi != b.Hi) || !span.SWithin(a, j) || !span.SWithin(b, j) {
				t.Fatalf("SJoin(%v, %v) is %v", a, b, j)
			}
			m, is := span.SMeet(a, b)
			if want := a.Hi >= b.Lo && b.Hi >= a.Lo; is != want {
				t.Fatalf("SMeet(%v, %v) is %v, %v", a, b, m, is)
			}
			if !is {
				if apart++; m != (api.S{}) {
					t.Fatalf("SMeet(%v, %v) is %v, false", a, b, m)
				}
				continue
			}
			if (m.Lo != a.Lo && m.Lo != b.Lo) || (m.Hi != a.Hi && m.Hi != b.Hi) || !span.SWithin(m, a) || !span.SWithin(m, b) {
				t.Fatalf("SMeet(%v, %v) is %v", a, b, m)
			}
		}
	}
	if apart == 0 {
		t.Error("SMeet was never asked of what has nothing between")
	}
}

// P4.1: Meet of neighbours: one number in common, or none, on both sides.
func TestMeetNeighbours(t *testing.T) {
	for _, x := range []struct {
		a, b, want api.U
		is         bool
	}{
		{api.U{Lo: 3, Hi: 7}, api.U{Lo: 7, Hi: 9}, api.U{Lo: 7, Hi: 7}, true},
		{api.U{Lo: 3, Hi: 6}, api.U{Lo: 7, Hi: 9}, api.U{}, false},
		{api.U{Lo: 0, Hi: 0}, api.U{Lo: 0, Hi: all}, api.U{}, true},
		{api.U{Lo: 0, Hi: 0}, api.U{Lo: 1, Hi: all}, api.U{}, false},
		{api.U{Lo: 0, Hi: top - 1}, api.U{Lo: top, Hi: all}, api.U{}, false},
		{api.U{Lo: 2, Hi: top}, api.U{Lo: top, Hi: all}, api.U{Lo: top, Hi: top}, true},
	} {
		for range 2 {
			if got, is := span.UMeet(x.a, x.b); got != x.want || is != x.is {
				t.Errorf("UMeet(%v, %v) is %v, %v", x.a, x.b, got, is)
			}
			x.a, x.b = x.b, x.a
		}
	}
	for _, x := range []struct {
		a, b, want api.S
		is         bool
	}{
		{api.S{Lo: least, Hi: -1}, api.S{Lo: -1, Hi: most}, api.S{Lo: -1, Hi: -1}, true},
		{api.S{Lo: least, Hi: -1}, api.S{Lo: 0, Hi: most}, api.S{}, false},
		{api.S{Lo: least, Hi: least}, api.S{Lo: most, Hi: most}, api.S{}, false},
		{api.S{Lo: -5, Hi: 2}, api.S{Lo: -1, Hi: 9}, api.S{Lo: -1, Hi: 2}, true},
	} {
		for range 2 {
			if got, is := span.SMeet(x.a, x.b); got != x.want || is != x.is {
				t.Errorf("SMeet(%v, %v) is %v, %v", x.a, x.b, got, is)
			}
			x.a, x.b = x.b, x.a
		}
	}
}

// P4.2, P4.3, P4.4: each operation on ends about all ends, each with each, by true numbers.
func TestOperations(t *testing.T) {
	l := unsigned()
	for _, op := range sums {
		t.Run(op.name, func(t *testing.T) {
			for _, a := range l {
				for _, b := range l {
					if got, want := op.told(a, b), op.want(a, b); got != want {
						t.Fatalf("%s(%v, %v) is %v, want %v", op.name, a, b, got, want)
					}
				}
			}
		})
	}
}

// P4.6: the same with a sign.
func TestOperationsSigned(t *testing.T) {
	l := signed()
	for _, op := range signs {
		t.Run(op.name, func(t *testing.T) {
			for _, a := range l {
				for _, b := range l {
					if got, want := op.told(a, b), op.want(a, b); got != want {
						t.Fatalf("%s(%v, %v) is %v, want %v", op.name, a, b, got, want)
					}
				}
			}
		})
	}
}

// P4.2: what just goes over, and what just does not, by hand.
func TestJustOver(t *testing.T) {
	for _, x := range []struct {
		name      string
		got, want api.U
	}{
		{"sum 2^64 - 1", span.UAdd(api.U{Lo: 1, Hi: 5}, api.U{Lo: 2, Hi: all - 5}), api.U{Lo: 3, Hi: all}},
		{"sum 2^64", span.UAdd(api.U{Lo: 1, Hi: 6}, api.U{Lo: 2, Hi: all - 5}), wholeU},
		{"sum of the greatest", span.UAdd(api.U{Lo: 1, Hi: all}, api.U{Lo: 2, Hi: all}), wholeU},
		{"sum with 0", span.UAdd(api.U{Lo: 1, Hi: all}, api.U{}), api.U{Lo: 1, Hi: all}},
		{"sum of numbers alone that goes over", span.UAdd(api.U{Lo: all, Hi: all}, api.U{Lo: 1, Hi: 1}), wholeU},
		{"difference 0", span.USub(api.U{Lo: 6, Hi: 9}, api.U{Lo: 1, Hi: 6}), api.U{Lo: 0, Hi: 8}},
		{"difference -1", span.USub(api.U{Lo: 5, Hi: 9}, api.U{Lo: 1, Hi: 6}), wholeU},
		{"difference of the greatest", span.USub(api.U{Lo: all, Hi: all}, api.U{Lo: 0, Hi: all}), api.U{Lo: 0, Hi: all}},
		{"difference of numbers alone that goes over", span.USub(api.U{}, api.U{Lo: 1, Hi: 1}), wholeU},
		{"product 2^64 - 2^32", span.UMul(api.U{Lo: 2, Hi: 1 << 32}, api.U{Lo: 3, Hi: 1<<32 - 1}), api.U{Lo: 6, Hi: 1<<64 - 1<<32}},
		{"product 2^64 - 1", span.UMul(api.U{Lo: 2, Hi: 1<<32 + 1}, api.U{Lo: 3, Hi: 1<<32 - 1}), api.U{Lo: 6, Hi: all}},
		{"product 2^64", span.UMul(api.U{Lo: 0, Hi: 1 << 32}, api.U{Lo: 7, Hi: 1 << 32}), wholeU},
		{"product with 0", span.UMul(api.U{Lo: 9, Hi: all}, api.U{}), api.U{}},
		{"product with 1", span.UMul(api.U{Lo: 9, Hi: all}, api.U{Lo: 1, Hi: 1}), api.U{Lo: 9, Hi: all}},
		{"product of numbers alone that goes over", span.UMul(api.U{Lo: top, Hi: top}, api.U{Lo: 2, Hi: 2}), wholeU},
	} {
		if x.got != x.want {
			t.Errorf("%s: %v, want %v", x.name, x.got, x.want)
		}
	}
}

// P4.6: the same with a sign: over the greatest, below the least, with one end or both.
func TestJustOverSigned(t *testing.T) {
	for _, x := range []struct {
		name      string
		got, want api.S
	}{
		{"sum 2^63 - 1", span.SAdd(api.S{Lo: -4, Hi: 5}, api.S{Lo: -2, Hi: most - 5}), api.S{Lo: -6, Hi: most}},
		{"sum 2^63", span.SAdd(api.S{Lo: -4, Hi: 6}, api.S{Lo: -2, Hi: most - 5}), wholeS},
		{"sum -2^63", span.SAdd(api.S{Lo: -4, Hi: 5}, api.S{Lo: least + 4, Hi: -1}), api.S{Lo: least, Hi: 4}},
		{"sum -2^63 - 1", span.SAdd(api.S{Lo: -5, Hi: 5}, api.S{Lo: least + 4, Hi: -1}), wholeS},
		{"both sums over", span.SAdd(api.S{Lo: most, Hi: most}, api.S{Lo: 1, Hi: 2}), wholeS},
		{"both sums below", span.SAdd(api.S{Lo: least, Hi: least}, api.S{Lo: -2, Hi: -1}), wholeS},
		{"sum of all and 0", span.SAdd(wholeS, api.S{}), wholeS},
		{"sum of the least and the greatest", span.SAdd(api.S{Lo: least, Hi: least}, api.S{Lo: most, Hi: most}), api.S{Lo: -1, Hi: -1}},
		{"difference 2^63 - 1", span.SSub(api.S{Lo: -9, Hi: -1}, api.S{Lo: least, Hi: least}), api.S{Lo: most - 8, Hi: most}},
		{"difference 2^63", span.SSub(api.S{Lo: -9, Hi: 0}, api.S{Lo: least, Hi: least}), wholeS},
		{"difference -2^63", span.SSub(api.S{Lo: -1, Hi: 3}, api.S{Lo: 0, Hi: most}), api.S{Lo: least, Hi: 3}},
		{"difference -2^63 - 1", span.SSub(api.S{Lo: -2, Hi: 3}, api.S{Lo: 0, Hi: most}), wholeS},
		{"difference of the least and itself", span.SSub(api.S{Lo: least, Hi: least}, api.S{Lo: least, Hi: least}), api.S{}},
		{"difference of 0 and the least", span.SSub(api.S{}, api.S{Lo: least, Hi: least}), wholeS},
	} {
		if x.got != x.want {
			t.Errorf("%s: %v, want %v", x.name, x.got, x.want)
		}
	}
}

// P4.3: by a number alone, by 0, and by more than one number, by hand.
func TestDivMod(t *testing.T) {
	a := api.U{Lo: 9, Hi: 20}
	for _, x := range []struct{ a, b, div, mod api.U }{
		{a, span.UOf(4), api.U{Lo: 2, Hi: 5}, api.U{Hi: 3}},
		{a, span.UOf(1), a, api.U{}},
		{a, span.UOf(20), api.U{Hi: 1}, api.U{Hi: 19}},
		{a, span.UOf(21), api.U{}, a},
		{a, span.UOf(all), api.U{}, a},
		{a, span.UOf(0), api.U{Hi: 20}, api.U{Hi: 20}},
		{a, api.U{Lo: 4, Hi: 5}, api.U{Hi: 20}, api.U{Hi: 20}},
		{a, api.U{Lo: 30, Hi: 31}, api.U{Hi: 20}, api.U{Hi: 20}},
		{a, api.U{Lo: 0, Hi: 1}, api.U{Hi: 20}, api.U{Hi: 20}},
		{span.UOf(9), span.UOf(4), span.UOf(2), span.UOf(1)},
		{span.UOf(8), span.UOf(4), span.UOf(2), span.UOf(0)},
		{span.UOf(9), span.UOf(0), api.U{Hi: 9}, api.U{Hi: 9}},
		{span.UOf(9), api.U{Lo: 3, Hi: 4}, api.U{Hi: 9}, api.U{Hi: 9}},
		{span.UOf(0), span.UOf(0), api.U{}, api.U{}},
		{wholeU, span.UOf(all), api.U{Hi: 1}, api.U{Hi: all - 1}},
		{wholeU, span.UOf(top), api.U{Hi: 1}, api.U{Hi: top - 1}},
		{wholeU, wholeU, wholeU, wholeU},
	} {
		if got := span.UDiv(x.a, x.b); got != x.div {
			t.Errorf("UDiv(%v, %v) is %v, want %v", x.a, x.b, got, x.div)
		}
		if got := span.UMod(x.a, x.b); got != x.mod {
			t.Errorf("UMod(%v, %v) is %v, want %v", x.a, x.b, got, x.mod)
		}
	}
}

// P4.4: numbers alone, one alone, and the highest bit of either, by hand.
func TestAndOr(t *testing.T) {
	for _, x := range []struct{ a, b, and, or api.U }{
		{span.UOf(6), span.UOf(3), span.UOf(2), span.UOf(7)},
		{span.UOf(0), span.UOf(0), span.UOf(0), span.UOf(0)},
		{span.UOf(all), span.UOf(top), span.UOf(top), span.UOf(all)},
		{api.U{Lo: 6, Hi: 7}, span.UOf(3), api.U{Hi: 3}, api.U{Lo: 6, Hi: 7}},
		{api.U{Lo: 7, Hi: 8}, span.UOf(3), api.U{Hi: 3}, api.U{Lo: 7, Hi: 15}},
		{api.U{Lo: 0, Hi: 1}, span.UOf(0), api.U{}, api.U{Hi: 1}},
		{api.U{Lo: 0, Hi: 1}, span.UOf(top), api.U{Hi: 1}, api.U{Lo: top, Hi: all}},
		{api.U{Lo: 2, Hi: 1 << 32}, api.U{Lo: 5, Hi: 6}, api.U{Hi: 6}, api.U{Lo: 5, Hi: 1<<33 - 1}},
		{wholeU, wholeU, wholeU, wholeU},
	} {
		for range 2 {
			if got := span.UAnd(x.a, x.b); got != x.and {
				t.Errorf("UAnd(%v, %v) is %v, want %v", x.a, x.b, got, x.and)
			}
			if got := span.UOr(x.a, x.b); got != x.or {
				t.Errorf("UOr(%v, %v) is %v, want %v", x.a, x.b, got, x.or)
			}
			x.a, x.b = x.b, x.a
		}
	}
}

// P4.5, P4.6: shifts by all distances, as products with powers of 2 and quotients by them.
func TestShifts(t *testing.T) {
	for _, n := range distances {
		by := new(big.Int).Lsh(big.NewInt(1), modulo(n))
		for _, a := range unsigned() {
			if got, want := span.ULsh(a, n), toU(times(wide(a.Lo), by), times(wide(a.Hi), by)); got != want {
				t.Errorf("ULsh(%v, %d) is %v, want %v", a, n, got, want)
			}
			want := toU(new(big.Int).Quo(wide(a.Lo), by), new(big.Int).Quo(wide(a.Hi), by))
			if got := span.URsh(a, n); got != want {
				t.Errorf("URsh(%v, %d) is %v, want %v", a, n, got, want)
			}
		}
		for _, a := range signed() {
			want := toS(new(big.Int).Div(deep(a.Lo), by), new(big.Int).Div(deep(a.Hi), by))
			if got := span.SArsh(a, n); got != want {
				t.Errorf("SArsh(%v, %d) is %v, want %v", a, n, got, want)
			}
		}
	}
}

// P4.5, P4.6: shifts by 0, 31, 32, 63, 64 and below 0, by hand.
func TestShiftsByHand(t *testing.T) {
	a, s := api.U{Lo: 1, Hi: 3 << 31}, api.S{Lo: -5, Hi: 3 << 31}
	for _, x := range []struct {
		n        int
		lsh, rsh api.U
		arsh     api.S
	}{
		{0, a, a, s},
		{31, api.U{Lo: 1 << 31, Hi: 3 << 62}, api.U{Hi: 3}, api.S{Lo: -1, Hi: 3}},
		{32, wholeU, api.U{Hi: 1}, api.S{Lo: -1, Hi: 1}},
		{63, wholeU, api.U{}, api.S{Lo: -1, Hi: 0}},
		{64, a, a, s},
		{65, api.U{Lo: 2, Hi: 3 << 32}, api.U{Hi: 3 << 30}, api.S{Lo: -3, Hi: 3 << 30}},
		{-1, wholeU, api.U{}, api.S{Lo: -1, Hi: 0}},
		{-33, api.U{Lo: 1 << 31, Hi: 3 << 62}, api.U{Hi: 3}, api.S{Lo: -1, Hi: 3}},
		{-64, a, a, s},
		{math.MinInt, a, a, s},
		{math.MaxInt, wholeU, api.U{}, api.S{Lo: -1, Hi: 0}},
	} {
		if got := span.ULsh(a, x.n); got != x.lsh {
			t.Errorf("ULsh(%v, %d) is %v, want %v", a, x.n, got, x.lsh)
		}
		if got := span.URsh(a, x.n); got != x.rsh {
			t.Errorf("URsh(%v, %d) is %v, want %v", a, x.n, got, x.rsh)
		}
		if got := span.SArsh(s, x.n); got != x.arsh {
			t.Errorf("SArsh(%v, %d) is %v, want %v", s, x.n, got, x.arsh)
		}
	}
	if got := span.ULsh(span.UOf(top), 1); got != wholeU {
		t.Errorf("a number alone whose bit goes out: %v", got)
	}
	if got := span.ULsh(api.U{Lo: 0, Hi: 1}, 63); got != (api.U{Hi: top}) {
		t.Errorf("a bit that stays in: %v", got)
	}
}

// P4.5: UCut about 2^32 and its multiples.
func TestCut(t *testing.T) {
	const half = 1 << 32
	for _, x := range []struct{ a, want api.U }{
		{api.U{Lo: 0, Hi: half - 1}, api.U{Lo: 0, Hi: half - 1}},
		{api.U{Lo: 5, Hi: 9}, api.U{Lo: 5, Hi: 9}},
		{api.U{Lo: half - 1, Hi: half - 1}, api.U{Lo: half - 1, Hi: half - 1}},
		{api.U{Lo: 5, Hi: half}, api.U{Lo: 0, Hi: half - 1}},
		{api.U{Lo: half - 1, Hi: half}, api.U{Lo: 0, Hi: half - 1}},
		{api.U{Lo: half, Hi: half}, api.U{}},
		{api.U{Lo: half + 5, Hi: half + 9}, api.U{Lo: 5, Hi: 9}},
		{api.U{Lo: half, Hi: 2*half - 1}, api.U{Lo: 0, Hi: half - 1}},
		{api.U{Lo: half + 5, Hi: 2 * half}, api.U{Lo: 0, Hi: half - 1}},
		{api.U{Lo: half + 5, Hi: 2*half + 6}, api.U{Lo: 0, Hi: half - 1}},
		{api.U{Lo: all - 3, Hi: all}, api.U{Lo: half - 4, Hi: half - 1}},
		{api.U{Lo: all - half, Hi: all}, api.U{Lo: 0, Hi: half - 1}},
		{wholeU, api.U{Lo: 0, Hi: half - 1}},
	} {
		if got := span.UCut(x.a); got != x.want {
			t.Errorf("UCut(%v) is %v, want %v", x.a, got, x.want)
		}
	}
}

// P4.7: ToS and ToU keep ends of one highest bit, or sign, and let go of others.
func TestToSToU(t *testing.T) {
	for _, u := range unsigned() {
		want := wholeS
		if u.Hi < top || u.Lo >= top {
			want = api.S{Lo: int64(u.Lo), Hi: int64(u.Hi)}
		}
		if got := span.ToS(u); got != want {
			t.Errorf("ToS(%v) is %v, want %v", u, got, want)
		}
	}
	for _, s := range signed() {
		want := wholeU
		if s.Hi < 0 || s.Lo >= 0 {
			want = api.U{Lo: uint64(s.Lo), Hi: uint64(s.Hi)}
		}
		if got := span.ToU(s); got != want {
			t.Errorf("ToU(%v) is %v, want %v", s, got, want)
		}
	}
}

// P4.7: ToS and ToU about the step, by hand.
func TestStep(t *testing.T) {
	for _, x := range []struct {
		u api.U
		s api.S
	}{
		{api.U{Lo: 5, Hi: top - 1}, api.S{Lo: 5, Hi: most}},
		{api.U{Lo: top, Hi: all}, api.S{Lo: least, Hi: -1}},
		{api.U{}, api.S{}},
		{api.U{Lo: all, Hi: all}, api.S{Lo: -1, Hi: -1}},
		{api.U{Lo: top, Hi: top}, api.S{Lo: least, Hi: least}},
	} {
		if got := span.ToS(x.u); got != x.s {
			t.Errorf("ToS(%v) is %v, want %v", x.u, got, x.s)
		}
		if got := span.ToU(x.s); got != x.u {
			t.Errorf("ToU(%v) is %v, want %v", x.s, got, x.u)
		}
	}
	if got := span.ToS(api.U{Lo: top - 1, Hi: top}); got != wholeS {
		t.Errorf("ToS over the step is %v", got)
	}
	if got := span.ToU(api.S{Lo: -1, Hi: 0}); got != wholeU {
		t.Errorf("ToU over the step is %v", got)
	}
}

// tnums are all of which numbers are the bits that are known, or those that are not.
func tnums() []api.Tnum {
	var l []api.Tnum
	for _, v := range numbers {
		for _, m := range numbers {
			l = append(l, api.Tnum{Value: v &^ m, Mask: m})
		}
	}
	return l
}

// weighed is the least and the greatest number of a tnum, bit by bit, the highest bit being worth highest.
func weighed(t api.Tnum, highest *big.Int) (*big.Int, *big.Int) {
	lo, hi := new(big.Int), new(big.Int)
	for i := range 64 {
		worth := new(big.Int).Lsh(big.NewInt(1), uint(i))
		if i == 63 {
			worth = highest
		}
		switch {
		case t.Value>>i&1 == 1:
			lo, hi = plus(lo, worth), plus(hi, worth)
		case t.Mask>>i&1 == 1 && worth.Sign() > 0:
			hi = plus(hi, worth)
		case t.Mask>>i&1 == 1:
			lo = plus(lo, worth)
		}
	}
	return lo, hi
}

// P4.7: FromT is from the least to the greatest, with the highest bit in Mask and without.
func TestFromT(t *testing.T) {
	known := 0
	for _, x := range tnums() {
		u, s := span.FromT(x)
		lo, hi := weighed(x, wide(top))
		if u != toU(lo, hi) {
			t.Errorf("FromT(%#x) is %v without a sign", x, u)
		}
		lo, hi = weighed(x, deep(least))
		if s != toS(lo, hi) {
			t.Errorf("FromT(%#x) is %v with a sign", x, s)
		}
		if x.Mask&top == 0 {
			known++
		}
	}
	if known == 0 || known == len(tnums()) {
		t.Error("FromT was asked of one kind of tnum alone")
	}
}

// P4.7: ToT keeps the bits from the highest on that both ends share: all, some, none.
func TestToT(t *testing.T) {
	for _, u := range unsigned() {
		want := api.Tnum{}
		for i, same := 63, true; i >= 0; i-- {
			same = same && u.Lo>>i&1 == u.Hi>>i&1
			if !same {
				want.Mask |= 1 << i
			} else if u.Lo>>i&1 == 1 {
				want.Value |= 1 << i
			}
		}
		if got := span.ToT(u); got != want {
			t.Errorf("ToT(%v) is %#x, want %#x", u, got, want)
		}
	}
	for _, x := range []struct {
		u    api.U
		want api.Tnum
	}{
		{span.UOf(9), api.Tnum{Value: 9}},
		{span.UOf(all), api.Tnum{Value: all}},
		{api.U{Lo: 8, Hi: 9}, api.Tnum{Value: 8, Mask: 1}},
		{api.U{Lo: 9, Hi: 10}, api.Tnum{Value: 8, Mask: 3}},
		{api.U{Lo: 7, Hi: 8}, api.Tnum{Mask: 15}},
		{api.U{Lo: top - 1, Hi: top}, api.Tnum{Mask: all}},
		{wholeU, api.Tnum{Mask: all}},
	} {
		if got := span.ToT(x.u); got != x.want {
			t.Errorf("ToT(%v) is %#x, want %#x", x.u, got, x.want)
		}
	}
}

// smalls are all spans of few numbers from 0 on, about 2^32, about 2^63, and up to 2^64 - 1.
func smalls() []api.U {
	var l []api.U
	for _, from := range []uint64{0, 6, 1<<32 - 3, top - 3, all - 5} {
		for lo := range uint64(6) {
			for more := range 6 - lo {
				l = append(l, api.U{Lo: from + lo, Hi: from + lo + more})
			}
		}
	}
	return l
}

// smallSigned are such from the least on, about 0, and up to the greatest.
func smallSigned() []api.S {
	var l []api.S
	for _, from := range []int64{least, -3, 1<<32 - 3, most - 5} {
		for lo := range int64(6) {
			for more := range 6 - lo {
				l = append(l, api.S{Lo: from + lo, Hi: from + lo + more})
			}
		}
	}
	return l
}

// members is all numbers of a small span.
func members(u api.U) []uint64 {
	var l []uint64
	for i := range u.Hi - u.Lo + 1 {
		l = append(l, u.Lo+i)
	}
	return l
}

func signedMembers(s api.S) []uint64 {
	var l []uint64
	for i := range uint64(s.Hi) - uint64(s.Lo) + 1 {
		l = append(l, uint64(s.Lo)+i)
	}
	return l
}

// P4.8: whatever two numbers are of small spans, what is made of them is of what is told.
func TestSound(t *testing.T) {
	l := smalls()
	for _, op := range sums {
		t.Run(op.name, func(t *testing.T) {
			for _, a := range l {
				for _, b := range l {
					told := op.told(a, b)
					for _, x := range members(a) {
						for _, y := range members(b) {
							if v := op.made(x, y); v < told.Lo || v > told.Hi {
								t.Fatalf("%s(%v, %v) is %v, and has no %d (of %d, %d)", op.name, a, b, told, v, x, y)
							}
						}
					}
				}
			}
		})
	}
}

// P4.8: the same with a sign.
func TestSoundSigned(t *testing.T) {
	l := smallSigned()
	for _, op := range signs {
		t.Run(op.name, func(t *testing.T) {
			for _, a := range l {
				for _, b := range l {
					told := op.told(a, b)
					for _, x := range signedMembers(a) {
						for _, y := range signedMembers(b) {
							if v := int64(op.made(x, y)); v < told.Lo || v > told.Hi {
								t.Fatalf("%s(%v, %v) is %v, and has no %d", op.name, a, b, told, v)
							}
						}
					}
				}
			}
		})
	}
}

// P4.8: shifts, and the lowest 32 bits.
func TestSoundShifts(t *testing.T) {
	for _, a := range smalls() {
		for _, x := range members(a) {
			for _, n := range distances {
				if v := x << modulo(n); !span.UIn(span.ULsh(a, n), v) {
					t.Errorf("ULsh(%v, %d) has no %d", a, n, v)
				}
				if v := x >> modulo(n); !span.UIn(span.URsh(a, n), v) {
					t.Errorf("URsh(%v, %d) has no %d", a, n, v)
				}
			}
			if v := uint64(uint32(x)); !span.UIn(span.UCut(a), v) {
				t.Errorf("UCut(%v) has no %d", a, v)
			}
		}
	}
	for _, a := range smallSigned() {
		for _, x := range signedMembers(a) {
			for _, n := range distances {
				if v := uint64(int64(x) >> modulo(n)); !span.SIn(span.SArsh(a, n), v) {
					t.Errorf("SArsh(%v, %d) has no %d", a, n, int64(v))
				}
			}
		}
	}
}

// P4.8: what numbers are seen otherwise: with a sign, without, bit by bit, and of a tnum.
func TestSoundViews(t *testing.T) {
	for _, a := range smalls() {
		bits := span.ToT(a)
		for _, x := range members(a) {
			if !span.SIn(span.ToS(a), x) {
				t.Errorf("ToS(%v) has no %d", a, int64(x))
			}
			if x&^bits.Mask != bits.Value {
				t.Errorf("ToT(%v) has no %#x", a, x)
			}
		}
	}
	for _, a := range smallSigned() {
		for _, x := range signedMembers(a) {
			if !span.UIn(span.ToU(a), x) {
				t.Errorf("ToU(%v) has no %d", a, x)
			}
		}
	}
	for _, a := range tnums() {
		u, s := span.FromT(a)
		for _, some := range numbers {
			if x := a.Value | a.Mask&some; !span.UIn(u, x) || !span.SIn(s, x) {
				t.Errorf("FromT(%#x) has no %#x", a, x)
			}
		}
	}
}

// P4.9: of numbers alone one number alone is told, the one that is made of them; but where a sum, a difference or a product goes over (P4.2), and by 0.
func TestExact(t *testing.T) {
	for _, op := range sums {
		alone := 0
		for _, x := range numbers {
			for _, y := range numbers {
				got, v := op.told(span.UOf(x), span.UOf(y)), op.made(x, y)
				switch want := op.want(span.UOf(x), span.UOf(y)); {
				case y == 0 && (op.name == "UDiv" || op.name == "UMod"):
					if got != (api.U{Hi: x}) {
						t.Errorf("%s(%d alone, 0 alone) is %v", op.name, x, got)
					}
				case want == wholeU:
					if got != want {
						t.Errorf("%s(%d alone, %d alone) goes over, and is %v", op.name, x, y, got)
					}
				default:
					if alone++; got != (api.U{Lo: v, Hi: v}) {
						t.Errorf("%s(%d alone, %d alone) is %v", op.name, x, y, got)
					}
				}
			}
		}
		if alone < len(numbers) {
			t.Errorf("%s was alone %d times", op.name, alone)
		}
	}
	for _, op := range signs {
		for _, x := range numbers {
			for _, y := range numbers {
				got, v := op.told(span.SOf(x), span.SOf(y)), int64(op.made(x, y))
				if over := op.want(span.SOf(x), span.SOf(y)) == wholeS; !over && got != (api.S{Lo: v, Hi: v}) {
					t.Errorf("%s(%d alone, %d alone) is %v", op.name, int64(x), int64(y), got)
				}
			}
		}
	}
}

// P4.9: what is made of one number alone.
func TestExactViews(t *testing.T) {
	for _, x := range numbers {
		if got := span.UCut(span.UOf(x)); got != span.UOf(x&(1<<32-1)) {
			t.Errorf("UCut(%d alone) is %v", x, got)
		}
		if span.ToS(span.UOf(x)) != span.SOf(x) || span.ToU(span.SOf(x)) != span.UOf(x) {
			t.Errorf("ToS or ToU of %d alone", x)
		}
		if got := span.ToT(span.UOf(x)); got != (api.Tnum{Value: x}) {
			t.Errorf("ToT(%d alone) is %#x", x, got)
		}
		if u, s := span.FromT(api.Tnum{Value: x}); u != span.UOf(x) || s != span.SOf(x) {
			t.Errorf("FromT(%d alone) is %v, %v", x, u, s)
		}
		for _, n := range distances {
			by := modulo(n)
			if got := span.ULsh(span.UOf(x), n); x<<by>>by == x && got != span.UOf(x<<by) {
				t.Errorf("ULsh(%d alone, %d) is %v", x, n, got)
			}
			if got := span.URsh(span.UOf(x), n); got != span.UOf(x>>by) {
				t.Errorf("URsh(%d alone, %d) is %v", x, n, got)
			}
			if got := span.SArsh(span.SOf(x), n); got != span.SOf(uint64(int64(x)>>by)) {
				t.Errorf("SArsh(%d alone, %d) is %v", int64(x), n, got)
			}
		}
	}
}

// P4.9: Join has both, and no number that both ends do not need; Meet has just what both have.
func TestExactSets(t *testing.T) {
	l := smalls()
	for _, a := range l {
		for _, b := range l {
			j := span.UJoin(a, b)
			for _, c := range l {
				if span.UWithin(a, c) && span.UWithin(b, c) && !span.UWithin(j, c) {
					t.Fatalf("UJoin(%v, %v) is %v, and not within %v", a, b, j, c)
				}
			}
			m, is := span.UMeet(a, b)
			for _, x := range append(members(a), members(b)...) {
				if want := span.UIn(a, x) && span.UIn(b, x); (is && span.UIn(m, x)) != want {
					t.Fatalf("UMeet(%v, %v) is %v, %v, of %d", a, b, m, is, x)
				}
			}
		}
	}
}

// P4.9: the same with a sign.
func TestExactSetsSigned(t *testing.T) {
	l := smallSigned()
	for _, a := range l {
		for _, b := range l {
			j := span.SJoin(a, b)
			for _, c := range l {
				if span.SWithin(a, c) && span.SWithin(b, c) && !span.SWithin(j, c) {
					t.Fatalf("SJoin(%v, %v) is %v, and not within %v", a, b, j, c)
				}
			}
			m, is := span.SMeet(a, b)
			for _, x := range append(signedMembers(a), signedMembers(b)...) {
				if want := span.SIn(a, x) && span.SIn(b, x); (is && span.SIn(m, x)) != want {
					t.Fatalf("SMeet(%v, %v) is %v, %v, of %d", a, b, m, is, int64(x))
				}
			}
		}
	}
}

// The chapter's examples.
func TestExamples(t *testing.T) {
	for i, x := range []struct{ got, want api.U }{
		{span.UAdd(api.U{Lo: 1, Hi: 2}, api.U{Lo: 3, Hi: all - 2}), api.U{Lo: 4, Hi: all}},
		{span.UAdd(api.U{Lo: 1, Hi: 2}, api.U{Lo: 3, Hi: all - 1}), wholeU},
		{span.USub(api.U{Lo: 5, Hi: 9}, api.U{Lo: 1, Hi: 5}), api.U{Lo: 0, Hi: 8}},
		{span.USub(api.U{Lo: 5, Hi: 9}, api.U{Lo: 1, Hi: 6}), wholeU},
		{span.UOr(api.U{Lo: 1, Hi: 5}, api.U{Lo: 2, Hi: 3}), api.U{Lo: 2, Hi: 7}},
		{span.UAnd(api.U{Lo: 1, Hi: 5}, api.U{Lo: 2, Hi: 3}), api.U{Lo: 0, Hi: 3}},
		{span.UCut(api.U{Lo: 1<<32 + 5, Hi: 1<<32 + 9}), api.U{Lo: 5, Hi: 9}},
		{span.UCut(api.U{Lo: 5, Hi: 1 << 32}), api.U{Lo: 0, Hi: 1<<32 - 1}},
	} {
		if x.got != x.want {
			t.Errorf("example %d is %v, want %v", i, x.got, x.want)
		}
	}
	if u, s := span.FromT(api.Tnum{Value: 4, Mask: top + 1}); u != (api.U{Lo: 4, Hi: top + 5}) || s != (api.S{Lo: least + 4, Hi: 5}) {
		t.Errorf("FromT is %v, %v", u, s)
	}
	if got := span.ToT(api.U{Lo: 8, Hi: 13}); got != (api.Tnum{Value: 8, Mask: 7}) {
		t.Errorf("ToT is %v", got)
	}
}

// R1: every call answers also of a Lo above its Hi, of a Value within its Mask, and of any distance.
func TestWrongInputs(t *testing.T) {
	for _, lo := range numbers {
		for _, hi := range numbers {
			a, s := api.U{Lo: lo, Hi: hi}, api.S{Lo: int64(lo), Hi: int64(hi)}
			for _, v := range numbers {
				b, r := api.U{Lo: hi, Hi: v}, api.S{Lo: int64(hi), Hi: int64(v)}
				for _, op := range sums {
					op.told(a, b)
				}
				for _, op := range signs {
					op.told(s, r)
				}
				span.UIn(a, v)
				span.SIn(s, v)
				span.UWithin(a, b)
				span.SWithin(s, r)
				span.UJoin(a, b)
				span.SJoin(s, r)
				if m, is := span.UMeet(a, b); !is && m != (api.U{}) {
					t.Errorf("UMeet(%v, %v) is %v, false", a, b, m)
				}
				if m, is := span.SMeet(s, r); !is && m != (api.S{}) {
					t.Errorf("SMeet(%v, %v) is %v, false", s, r, m)
				}
			}
			for _, n := range distances {
				span.ULsh(a, n)
				span.URsh(a, n)
				span.SArsh(s, n)
			}
			span.UCut(a)
			span.ToS(a)
			span.ToU(s)
			span.ToT(a)
			span.FromT(api.Tnum{Value: lo, Mask: hi})
		}
	}
}
