package scalar_test

import (
	"math"
	"testing"

	"lockgate/api"
	"lockgate/scalar"
	"lockgate/span"
	"lockgate/tnum"
	"lockgate/word"
)

const (
	all   = math.MaxUint64
	top   = 1 << 63
	least = math.MinInt64
	most  = math.MaxInt64
	half  = 1<<32 - 1
)

var (
	anyT  = api.Tnum{Mask: all}
	anyU  = api.U{Hi: all}
	anyS  = api.S{Lo: least, Hi: most}
	whole = api.Scalar{T: anyT, U: anyU, S: anyS}
)

// alone is a scalar's number as the chapter's words say it, and whether there is one.
func alone(x api.Scalar) (uint64, bool) {
	if x.U.Lo == x.U.Hi {
		return x.U.Lo, true
	}
	if x.T.Mask == 0 {
		return x.T.Value, true
	}
	if x.S.Lo == x.S.Hi {
		return uint64(x.S.Lo), true
	}
	return 0, false
}

// mayBe is what the chapter asks of a scalar of which it promises something, and of all that is told.
func mayBe(x api.Scalar) bool {
	return x.T.Value&x.T.Mask == 0 && x.U.Lo <= x.U.Hi && x.S.Lo <= x.S.Hi
}

// number is each part v alone, written out.
func number(v uint64) api.Scalar {
	return api.Scalar{T: api.Tnum{Value: v}, U: api.U{Lo: v, Hi: v}, S: api.S{Lo: int64(v), Hi: int64(v)}}
}

// only makes a scalar of which one part alone tells something.
func onlyT(value, mask uint64) api.Scalar {
	return api.Scalar{T: api.Tnum{Value: value, Mask: mask}, U: anyU, S: anyS}
}

func onlyU(lo, hi uint64) api.Scalar {
	return api.Scalar{T: anyT, U: api.U{Lo: lo, Hi: hi}, S: anyS}
}

func onlyS(lo, hi int64) api.Scalar {
	return api.Scalar{T: anyT, U: anyU, S: api.S{Lo: lo, Hi: hi}}
}

// raw is scalars that may be, of which the parts were never settled: each T with each U and each S, also where they have nothing in common.
func raw() []api.Scalar {
	ts := []api.Tnum{
		anyT, {}, {Value: 5}, {Mask: 255}, {Value: 8, Mask: 7}, {Value: 1, Mask: 22}, {Value: 4, Mask: top + 1},
		{Value: top, Mask: top - 1}, {Mask: half}, {Value: 1 << 31, Mask: 1<<31 - 1}, {Value: 7, Mask: 3 << 40}, {Value: all}, {Value: 1, Mask: all - 1},
	}
	us := []api.U{
		anyU, {}, {Lo: 5, Hi: 5}, {Hi: 9}, {Lo: 4, Hi: 12}, {Hi: 1<<31 - 1}, {Hi: 1 << 31}, {Lo: 1 << 31, Hi: half}, {Hi: half},
		{Lo: half - 2, Hi: half + 6}, {Lo: 1<<32 + 5, Hi: 1<<32 + 9}, {Lo: top - 2, Hi: top + 1}, {Lo: top, Hi: all}, {Lo: all - 1, Hi: all}, {Lo: all, Hi: all},
	}
	ss := []api.S{
		anyS, {}, {Lo: -1, Hi: -1}, {Lo: -3, Hi: 4}, {Hi: 9}, {Hi: 1<<31 - 1}, {Hi: half}, {Lo: -1 << 31, Hi: 1<<31 - 1},
		{Lo: least, Hi: -1}, {Hi: most}, {Lo: most - 1, Hi: most}, {Lo: least, Hi: least}, {Lo: least, Hi: least + 1},
	}
	var l []api.Scalar
	for _, t := range ts {
		for _, u := range us {
			for _, s := range ss {
				l = append(l, api.Scalar{T: t, U: u, S: s})
			}
		}
	}
	return l
}

// few is some of raw, and scalars that operations and jumps are about: numbers alone, bytes, and numbers about the ends of 31, 32, 63 and 64 bits.
func few() []api.Scalar {
	l := []api.Scalar{
		whole, number(0), number(1), number(5), number(255), number(1<<31 - 1), number(1 << 31), number(half), number(1 << 32),
		number(1<<32 + 5), number(top - 1), number(top), number(all - 1), number(all),
		onlyT(4, 2), onlyT(1, 10), onlyT(7, all-half), onlyU(0, 1), onlyU(2, 7), onlyU(1<<31-2, 1<<31-1), onlyU(all-1, all), onlyS(-1, 0), onlyS(0, 1), onlyS(most-1, most), onlyS(least, least+1),
		{T: api.Tnum{Value: 1, Mask: 10}, U: api.U{Lo: 2, Hi: 7}, S: anyS},
	}
	for n := 1; n < 8; n++ {
		l = append(l, scalar.Upto(n))
	}
	for _, u := range []api.U{{Hi: 9}, {Lo: 4, Hi: 12}, {Hi: 1<<31 - 1}, {Lo: 1<<31 - 3, Hi: 1<<31 + 2}, {Lo: half - 2, Hi: half}, {Lo: top, Hi: all}, {Lo: top - 2, Hi: top - 1}} {
		x, ok := wantNorm(onlyU(u.Lo, u.Hi))
		if ok {
			l = append(l, x)
		}
	}
	for i, x := range raw() {
		if i%19 == 0 {
			l = append(l, x)
		}
	}
	return l
}

// wantNorm is P5.2's words, step by step, with ends that are held against each other one by one.
func wantNorm(x api.Scalar) (api.Scalar, bool) {
	for range 2 {
		byT, signedByT := span.FromT(x.T)
		for step := range 5 {
			switch step {
			case 0:
				x.U = overlapU(x.U, span.ToU(x.S))
			case 1:
				x.U = overlapU(x.U, byT)
			case 2:
				x.S = overlapS(x.S, span.ToS(x.U))
			case 3:
				x.S = overlapS(x.S, signedByT)
			case 4:
				t := span.ToT(x.U)
				if (x.T.Value^t.Value)&^x.T.Mask&^t.Mask != 0 {
					return api.Scalar{}, false
				}
				x.T = api.Tnum{Value: x.T.Value | t.Value, Mask: x.T.Mask & t.Mask}
			}
			if x.U.Lo > x.U.Hi || x.S.Lo > x.S.Hi {
				return api.Scalar{}, false
			}
		}
	}
	return x, true
}

func overlapU(a, b api.U) api.U { return api.U{Lo: max(a.Lo, b.Lo), Hi: min(a.Hi, b.Hi)} }
func overlapS(a, b api.S) api.S { return api.S{Lo: max(a.Lo, b.Lo), Hi: min(a.Hi, b.Hi)} }

// wantLower is the lower half.
func wantLower(x api.Scalar) api.Scalar {
	y, ok := wantNorm(api.Scalar{T: tnum.Cut(x.T, 4), U: span.UCut(x.U), S: anyS})
	if !ok {
		return api.Scalar{T: api.Tnum{Mask: half}, U: api.U{Hi: half}, S: api.S{Hi: half}}
	}
	return y
}

func TestOfAndAny(t *testing.T) {
	for _, v := range []uint64{0, 1, 255, half, 1 << 32, top - 1, top, all} {
		if got := scalar.Of(v); got != number(v) {
			t.Error(v, got)
		}
	}
	if got := scalar.Of(top); got.S != (api.S{Lo: least, Hi: least}) {
		t.Error(got)
	}
	if got := scalar.Any(); got != whole {
		t.Error(got)
	}
}

func TestUpto(t *testing.T) {
	for _, n := range []int{0, -1, -8, math.MinInt} {
		if got := scalar.Upto(n); got != number(0) {
			t.Error(n, got)
		}
	}
	greatest := []uint64{1: 255, 65535, 1<<24 - 1, half, 1<<40 - 1, 1<<48 - 1, 1<<56 - 1}
	for n := 1; n < 8; n++ {
		m := greatest[n]
		want := api.Scalar{T: api.Tnum{Mask: m}, U: api.U{Hi: m}, S: api.S{Hi: int64(m)}}
		if got := scalar.Upto(n); got != want {
			t.Error(n, got)
		}
	}
	for _, n := range []int{8, 9, 64, 1 << 32, math.MaxInt} {
		if got := scalar.Upto(n); got != whole {
			t.Error(n, got)
		}
	}
}

// TestIn: one part that has not the number is enough.
func TestIn(t *testing.T) {
	for i, x := range []struct {
		x    api.Scalar
		v    uint64
		want bool
	}{
		{whole, 0, true}, {whole, all, true}, {number(7), 7, true}, {number(7), 8, false},
		{onlyT(4, 2), 6, true}, {onlyT(4, 2), 5, false},
		{onlyU(3, 5), 3, true}, {onlyU(3, 5), 5, true}, {onlyU(3, 5), 2, false}, {onlyU(3, 5), 6, false},
		{onlyS(-2, 1), all - 1, true}, {onlyS(-2, 1), 1, true}, {onlyS(-2, 1), 2, false}, {onlyS(-2, 1), all - 2, false}, {onlyS(-2, 1), top, false},
		{api.Scalar{T: api.Tnum{Mask: 6}, U: api.U{Lo: 2, Hi: 5}, S: api.S{Hi: 3}}, 2, true},
		{api.Scalar{T: api.Tnum{Mask: 6}, U: api.U{Lo: 2, Hi: 5}, S: api.S{Hi: 3}}, 4, false},
	} {
		if got := scalar.In(x.x, x.v); got != x.want {
			t.Error(i, got)
		}
	}
	for _, x := range raw() {
		for _, v := range []uint64{0, 4, 5, 9, half, top, all} {
			want := tnum.In(x.T, v) && x.U.Lo <= v && v <= x.U.Hi && x.S.Lo <= int64(v) && int64(v) <= x.S.Hi
			if got := scalar.In(x, v); got != want {
				t.Fatal(x, v, got)
			}
		}
	}
}

func TestIs(t *testing.T) {
	for i, x := range []struct {
		x    api.Scalar
		want uint64
		is   bool
	}{
		{number(7), 7, true}, {number(all), all, true},
		{onlyU(9, 9), 9, true}, {onlyT(9, 0), 9, true}, {onlyS(9, 9), 9, true}, {onlyS(-1, -1), all, true}, {onlyS(least, least), top, true},
		{onlyU(0, 0), 0, true}, {onlyT(0, 0), 0, true}, {onlyS(0, 0), 0, true},
		{whole, 0, false}, {onlyU(9, 10), 0, false}, {onlyT(8, 1), 0, false}, {onlyS(-1, 0), 0, false}, {scalar.Upto(1), 0, false},
		// one number has all parts, yet none of them alone
		{api.Scalar{T: api.Tnum{Mask: 2}, U: api.U{Lo: 1, Hi: 2}, S: anyS}, 0, false},
		// U's number counts ahead of T's, T's ahead of S's
		{api.Scalar{T: api.Tnum{Value: 2}, U: api.U{Lo: 1, Hi: 1}, S: api.S{Lo: 3, Hi: 3}}, 1, true},
		{api.Scalar{T: api.Tnum{Value: 2}, U: anyU, S: api.S{Lo: 3, Hi: 3}}, 2, true},
		{api.Scalar{T: anyT, U: api.U{Lo: 1, Hi: 1}, S: api.S{Lo: 3, Hi: 3}}, 1, true},
	} {
		if got, is := scalar.Is(x.x); got != x.want || is != x.is {
			t.Error(i, got, is)
		}
	}
	for _, x := range raw() {
		want, whether := alone(x)
		if got, is := scalar.Is(x); got != want || is != whether {
			t.Fatal(x, got, is)
		}
	}
}

func TestWithin(t *testing.T) {
	for i, x := range []struct {
		a, b api.Scalar
		want bool
	}{
		{number(5), whole, true}, {whole, number(5), false}, {whole, whole, true}, {number(5), number(5), true},
		{scalar.Upto(1), scalar.Upto(2), true}, {scalar.Upto(2), scalar.Upto(1), false}, {number(255), scalar.Upto(1), true}, {number(256), scalar.Upto(1), false},
		{onlyT(4, 1), onlyT(4, 3), true}, {onlyT(4, 3), onlyT(4, 1), false},
		{onlyU(4, 5), onlyU(4, 6), true}, {onlyU(3, 5), onlyU(4, 6), false},
		{onlyS(-1, 5), onlyS(-1, 6), true}, {onlyS(-2, 5), onlyS(-1, 6), false},
		// the same numbers, but a part that tells less
		{onlyU(0, 255), scalar.Upto(1), false}, {onlyT(0, 255), scalar.Upto(1), false}, {onlyS(0, 255), scalar.Upto(1), false},
	} {
		if got := scalar.Within(x.a, x.b); got != x.want {
			t.Error(i, got)
		}
	}
}

func TestJoin(t *testing.T) {
	want := api.Scalar{T: api.Tnum{Value: 4, Mask: 3}, U: api.U{Lo: 4, Hi: 7}, S: api.S{Lo: 4, Hi: 7}}
	if got := scalar.Join(number(4), number(7)); got != want {
		t.Error(got)
	}
	want = api.Scalar{T: anyT, U: anyU, S: api.S{Lo: -1}}
	if got := scalar.Join(number(0), number(all)); got != want {
		t.Error(got)
	}
	if got := scalar.Join(scalar.Upto(1), scalar.Upto(3)); got != scalar.Upto(3) {
		t.Error(got)
	}
	l := few()
	for _, a := range l {
		for _, b := range l {
			want := api.Scalar{T: tnum.Join(a.T, b.T), U: span.UJoin(a.U, b.U), S: span.SJoin(a.S, b.S)}
			within := tnum.Within(a.T, b.T) && span.UWithin(a.U, b.U) && span.SWithin(a.S, b.S)
			if got := scalar.Join(a, b); got != want || scalar.Within(a, b) != within {
				t.Fatal(a, b, got)
			}
		}
	}
}

func TestNorm(t *testing.T) {
	s := func(t api.Tnum, u api.U, s api.S) api.Scalar { return api.Scalar{T: t, U: u, S: s} }
	for i, x := range []struct{ x, want api.Scalar }{
		{whole, whole}, {number(7), number(7)}, {scalar.Upto(3), scalar.Upto(3)},
		{onlyT(0, 255), scalar.Upto(1)}, {onlyU(0, 255), scalar.Upto(1)}, {onlyS(0, 255), scalar.Upto(1)},
		{onlyT(9, 0), number(9)}, {onlyU(9, 9), number(9)}, {onlyS(9, 9), number(9)}, {onlyS(-1, -1), number(all)},
		{onlyU(8, 13), s(api.Tnum{Value: 8, Mask: 7}, api.U{Lo: 8, Hi: 13}, api.S{Lo: 8, Hi: 13})},
		{onlyS(-3, -1), s(api.Tnum{Value: all - 3, Mask: 3}, api.U{Lo: all - 2, Hi: all}, api.S{Lo: -3, Hi: -1})},
		{onlyU(top, all), s(api.Tnum{Value: top, Mask: top - 1}, api.U{Lo: top, Hi: all}, api.S{Lo: least, Hi: -1})},
		// with a sign on both sides of 0, and without one on both sides of 2^63, ends tell the other side nothing
		{onlyS(-3, 4), onlyS(-3, 4)}, {onlyU(top-2, top+1), onlyU(top-2, top+1)},
		{onlyT(4, top+1), s(api.Tnum{Value: 4, Mask: top + 1}, api.U{Lo: 4, Hi: top + 5}, api.S{Lo: least + 4, Hi: 5})},
		// S tells U that it is not below 0; U tells T
		{s(anyT, api.U{Lo: 6, Hi: all}, api.S{Lo: 0, Hi: 7}), s(api.Tnum{Value: 6, Mask: 1}, api.U{Lo: 6, Hi: 7}, api.S{Lo: 6, Hi: 7})},
		// the second round: that bit 3 is not set makes 5 the greatest
		{s(api.Tnum{Mask: 13}, api.U{Lo: 2, Hi: 7}, anyS), s(api.Tnum{Mask: 5}, api.U{Lo: 2, Hi: 5}, api.S{Lo: 2, Hi: 5})},
		// two rounds, and no third: that would make 3 of each part
		{s(api.Tnum{Value: 1, Mask: 10}, api.U{Lo: 2, Hi: 7}, anyS), s(api.Tnum{Value: 3}, api.U{Lo: 2, Hi: 3}, api.S{Lo: 2, Hi: 3})},
	} {
		if got, ok := scalar.Norm(x.x); got != x.want || !ok {
			t.Error(i, got, ok)
		}
	}
}

// TestNormNothing: each two parts have nothing between them, in the first round, or first in the second.
func TestNormNothing(t *testing.T) {
	for i, x := range []api.Scalar{
		{T: anyT, U: api.U{Lo: 1, Hi: 2}, S: api.S{Lo: 3, Hi: 4}},
		{T: anyT, U: api.U{Hi: top - 1}, S: api.S{Lo: -5, Hi: -1}},
		{T: anyT, U: api.U{Lo: top, Hi: top + 1}, S: api.S{Lo: -5, Hi: 5}},
		{T: api.Tnum{Value: 8, Mask: 7}, U: api.U{Hi: 7}, S: anyS},
		{T: api.Tnum{Value: 8, Mask: 7}, U: anyU, S: api.S{Lo: -1, Hi: 7}},
		{T: api.Tnum{Mask: 9}, U: api.U{Lo: 4, Hi: 7}, S: anyS},
		{T: api.Tnum{Value: 1, Mask: 8}, U: api.U{Lo: 2, Hi: 7}, S: anyS},
	} {
		if got, ok := scalar.Norm(x); got != (api.Scalar{}) || ok {
			t.Error(i, got, ok)
		}
	}
}

func TestNormOfAllParts(t *testing.T) {
	nothing, second := 0, 0
	for _, x := range raw() {
		want, whether := wantNorm(x)
		got, ok := scalar.Norm(x)
		if got != want || ok != whether {
			t.Fatal(x, got, ok, want)
		}
		if !ok {
			nothing++
			continue
		}
		if !mayBe(got) || !scalar.Within(got, x) {
			t.Fatal(x, got)
		}
		if again, ok := scalar.Norm(got); !ok || again != got {
			second++
		}
	}
	if nothing == 0 || second == 0 {
		t.Error("the parts are too alike:", nothing, second)
	}
}

// TestExamples is the chapter's table.
func TestExamples(t *testing.T) {
	if v, is := scalar.Is(scalar.Alu(api.Add, true, scalar.Of(3), scalar.Of(4))); v != 7 || !is {
		t.Error(v, is)
	}
	if v, is := scalar.Is(scalar.Alu(api.Mul, false, scalar.Of(1<<31), scalar.Of(2))); v != 0 || !is {
		t.Error(v, is)
	}
	x := scalar.Alu(api.And, true, scalar.Any(), scalar.Of(255))
	if x != scalar.Upto(1) || !scalar.In(x, 255) || scalar.In(x, 256) {
		t.Error(x)
	}
	a, b, ok := scalar.Branch(api.Jlt, true, true, scalar.Any(), scalar.Of(10))
	if a.U != (api.U{Hi: 9}) || b != scalar.Of(10) || !ok {
		t.Error(a, b, ok)
	}
	a, b, ok = scalar.Branch(api.Jlt, true, true, scalar.Any(), scalar.Of(0))
	if a != (api.Scalar{}) || b != (api.Scalar{}) || ok {
		t.Error(a, b, ok)
	}
	a, b, ok = scalar.Branch(api.Jeq, true, true, scalar.Of(1), scalar.Of(2))
	if a != (api.Scalar{}) || b != (api.Scalar{}) || ok {
		t.Error(a, b, ok)
	}
	a, b, ok = scalar.Branch(api.Jeq, true, false, scalar.Upto(1), scalar.Of(0))
	if a.U != (api.U{Lo: 1, Hi: 255}) || b != scalar.Of(0) || !ok {
		t.Error(a, b, ok)
	}
}

// TestWrong: of scalars that may not be nothing is promised, but that each call ends.
func TestWrong(t *testing.T) {
	l := []api.Scalar{
		{}, whole, number(5),
		{T: api.Tnum{Value: all, Mask: all}, U: anyU, S: anyS},
		{T: anyT, U: api.U{Lo: all}, S: anyS},
		{T: anyT, U: anyU, S: api.S{Lo: most, Hi: least}},
		{T: api.Tnum{Value: 3, Mask: 1}, U: api.U{Lo: 1}, S: api.S{Lo: 1}},
		{T: api.Tnum{Value: top, Mask: all}, U: api.U{Lo: all, Hi: top}, S: api.S{Lo: most, Hi: -1}},
	}
	for _, a := range l {
		scalar.Is(a)
		scalar.Norm(a)
		for _, bits := range []int{16, 32, 64, 8} {
			scalar.Swap(bits, true, a)
			scalar.Swap(bits, false, a)
		}
		for _, b := range l {
			scalar.Within(a, b)
			scalar.Join(a, b)
			for op := -1; op < 17; op++ {
				for way := range 4 {
					scalar.Alu(op, way&1 == 0, a, b)
					scalar.Branch(op, way&1 == 0, way&2 == 0, a, b)
				}
			}
		}
	}
}

// strange is operations and jumps beside those that are one: numbers about them, and far off.
func strange(known func(op int) bool) []int {
	var l []int
	for _, op := range []int{math.MinInt, -1, 0, 8, 9, 13, 14, 15, 16, 17, 256, 1 << 32, math.MaxInt} {
		if !known(op) {
			l = append(l, op)
		}
	}
	return l
}

func isAlu(op int) bool {
	_, known := word.Alu(op, true, 0, 0)
	return known
}

func isJump(op int) bool {
	_, known := word.Jump(op, true, 0, 0)
	return known
}
