package scalar_test

import (
	"math"
	"testing"

	"lockgate/api"
	"lockgate/scalar"
	"lockgate/span"
	"lockgate/tnum"
	"lockgate/word"
)

var operations = []int{api.Add, api.Sub, api.Mul, api.Div, api.Or, api.And, api.Lsh, api.Rsh, api.Neg, api.Mod, api.Xor, api.Mov, api.Arsh}

// wantAlu is P5.3's words.
func wantAlu(op int, wide bool, a, b api.Scalar) api.Scalar {
	if !wide {
		a, b = wantLower(a), wantLower(b)
	}
	v, aloneA := alone(a)
	w, aloneB := alone(b)
	hangs := aloneA && aloneB
	switch op {
	case api.Mov:
		hangs = aloneB
	case api.Neg:
		hangs = aloneA
	}
	if hangs {
		made, _ := word.Alu(op, wide, v, w)
		return number(made)
	}
	if op == api.Mov {
		return b
	}
	x := wantParts(op, wide, a, b)
	if !wide {
		return wantLower(x)
	}
	if y, ok := wantNorm(x); ok {
		return y
	}
	return whole
}

// wantParts is the chapter's table, row by row.
func wantParts(op int, wide bool, a, b api.Scalar) api.Scalar {
	switch op {
	case api.Add:
		return api.Scalar{T: tnum.Add(a.T, b.T), U: span.UAdd(a.U, b.U), S: span.SAdd(a.S, b.S)}
	case api.Sub:
		return api.Scalar{T: tnum.Sub(a.T, b.T), U: span.USub(a.U, b.U), S: span.SSub(a.S, b.S)}
	case api.Neg:
		return wantParts(api.Sub, wide, number(0), a)
	case api.Mul:
		return api.Scalar{T: tnum.Mul(a.T, b.T), U: span.UMul(a.U, b.U), S: anyS}
	case api.Div:
		return api.Scalar{T: anyT, U: span.UDiv(a.U, b.U), S: anyS}
	case api.Mod:
		return api.Scalar{T: anyT, U: span.UMod(a.U, b.U), S: anyS}
	case api.Or:
		return api.Scalar{T: tnum.Or(a.T, b.T), U: span.UOr(a.U, b.U), S: anyS}
	case api.And:
		return api.Scalar{T: tnum.And(a.T, b.T), U: span.UAnd(a.U, b.U), S: anyS}
	case api.Xor:
		return api.Scalar{T: tnum.Xor(a.T, b.T), U: anyU, S: anyS}
	}
	return wantShift(op, wide, a, b)
}

func wantShift(op int, wide bool, a, b api.Scalar) api.Scalar {
	w, known := alone(b)
	n := int(w % 64)
	if !wide {
		n = int(w % 32)
	}
	switch {
	case !known:
		return whole
	case op == api.Lsh:
		return api.Scalar{T: tnum.Lsh(a.T, n), U: span.ULsh(a.U, n), S: anyS}
	case op == api.Rsh:
		return api.Scalar{T: tnum.Rsh(a.T, n), U: span.URsh(a.U, n), S: anyS}
	case wide:
		return api.Scalar{T: tnum.Arsh(a.T, n, 64), U: anyU, S: span.SArsh(a.S, n)}
	case a.U.Hi < 1<<31:
		return api.Scalar{T: tnum.Arsh(a.T, n, 32), U: span.URsh(a.U, n), S: anyS}
	}
	return api.Scalar{T: tnum.Arsh(a.T, n, 32), U: anyU, S: anyS}
}

// spread is a scalar whose T is told apart from its ends; both spans have the same ones.
func spread(value, mask, lo, hi uint64) api.Scalar {
	return api.Scalar{T: api.Tnum{Value: value, Mask: mask}, U: api.U{Lo: lo, Hi: hi}, S: api.S{Lo: int64(lo), Hi: int64(hi)}}
}

// TestAluRows is worked out by hand: each row of the table, with both alone, with one alone, with none.
func TestAluRows(t *testing.T) {
	of, upto := scalar.Of, scalar.Upto
	for i, x := range []struct {
		op         int
		wide       bool
		a, b, want api.Scalar
	}{
		{api.Add, true, of(all), of(2), of(1)}, {api.Add, false, of(half), of(2), of(1)}, {api.Add, true, of(half), of(2), of(1<<32 + 1)},
		{api.Add, true, upto(1), of(1), spread(0, 511, 1, 256)}, {api.Add, false, upto(4), of(1), upto(4)},
		{api.Add, true, onlyS(-2, -1), of(1), onlyS(-1, 0)},
		{api.Add, true, whole, of(1), whole}, {api.Add, true, upto(1), upto(1), spread(0, 511, 0, 510)},
		{api.Sub, true, of(1), of(2), of(all)}, {api.Sub, false, of(1), of(2), of(half)},
		{api.Sub, true, upto(1), of(1), onlyS(-1, 254)}, {api.Sub, false, upto(1), of(1), upto(4)},
		{api.Sub, true, spread(16, 15, 20, 25), upto(0), spread(16, 15, 20, 25)},
		{api.Mul, true, of(6), of(7), of(42)}, {api.Mul, true, upto(1), of(2), spread(0, 510, 0, 510)}, {api.Mul, true, whole, of(2), onlyTNorm(0, all-1)},
		{api.Div, true, of(7), of(0), of(0)}, {api.Div, true, upto(1), of(16), spread(0, 15, 0, 15)}, {api.Div, true, upto(1), whole, upto(1)}, {api.Div, true, upto(1), of(0), upto(1)},
		{api.Div, false, whole, whole, upto(4)},
		{api.Mod, true, of(7), of(0), of(7)}, {api.Mod, true, whole, of(10), spread(0, 15, 0, 9)}, {api.Mod, true, upto(1), of(256), upto(1)}, {api.Mod, true, upto(1), upto(1), upto(1)},
		{api.Or, true, of(5), of(2), of(7)}, {api.Or, true, upto(1), of(256), spread(256, 255, 256, 511)}, {api.Or, true, upto(1), upto(2), upto(2)},
		{api.And, true, of(5), of(6), of(4)}, {api.And, true, whole, of(255), upto(1)}, {api.And, true, whole, upto(2), upto(2)},
		{api.Xor, true, of(5), of(6), of(3)}, {api.Xor, true, upto(1), of(256), spread(256, 255, 256, 511)}, {api.Xor, false, whole, whole, upto(4)},
		{api.Neg, true, of(1), whole, of(all)}, {api.Neg, false, of(1), whole, of(half)}, {api.Neg, true, upto(1), of(7), onlyS(-255, 0)}, {api.Neg, false, of(1<<32 + 1), of(7), of(half)},
		{api.Neg, true, spread(0, 1, 0, 1), of(7), onlyS(-1, 0)},
		{api.Mov, true, whole, of(5), of(5)}, {api.Mov, false, whole, of(1<<32 + 5), of(5)}, {api.Mov, true, of(5), upto(3), upto(3)}, {api.Mov, false, of(5), whole, upto(4)},
		{api.Mov, true, whole, onlyS(-1, -1), of(all)}, {api.Mov, true, whole, onlyU(8, 13), onlyU(8, 13)},
	} {
		if got := scalar.Alu(x.op, x.wide, x.a, x.b); got != x.want {
			t.Error(i, got, x.want)
		}
	}
}

// onlyTNorm is what a T alone teaches the other parts.
func onlyTNorm(value, mask uint64) api.Scalar {
	u, s := span.FromT(api.Tnum{Value: value, Mask: mask})
	return api.Scalar{T: api.Tnum{Value: value, Mask: mask}, U: u, S: s}
}

// TestShifts is worked out by hand: by 0, 31, 32, 63, 64, by more, and by what is not known.
func TestShifts(t *testing.T) {
	of, upto := scalar.Of, scalar.Upto
	high := api.Scalar{T: api.Tnum{Value: top, Mask: top - 1}, U: api.U{Lo: top, Hi: all}, S: api.S{Lo: least, Hi: -1}}
	upper := spread(1<<31, 1<<31-1, 1<<31, half)
	for i, x := range []struct {
		op         int
		wide       bool
		a, b, want api.Scalar
	}{
		{api.Lsh, true, upto(1), of(0), upto(1)}, {api.Lsh, true, upto(1), of(64), upto(1)}, {api.Lsh, true, upto(1), of(65), spread(0, 510, 0, 510)},
		{api.Lsh, true, upto(1), of(31), spread(0, 255<<31, 0, 255<<31)}, {api.Lsh, true, upto(1), of(32), spread(0, 255<<32, 0, 255<<32)},
		{api.Lsh, true, upto(1), of(63), onlyTNorm(0, top)}, {api.Lsh, true, whole, of(8), onlyTNorm(0, all-255)},
		{api.Lsh, false, upto(1), of(31), spread(0, 1<<31, 0, 1<<31)}, {api.Lsh, false, upto(1), of(32), upto(1)}, {api.Lsh, false, upto(1), of(1<<32 + 64), upto(1)}, {api.Lsh, false, upto(1), of(63), spread(0, 1<<31, 0, 1<<31)},
		{api.Lsh, true, upto(1), upto(1), whole}, {api.Lsh, false, upto(1), upto(1), upto(4)}, {api.Lsh, true, of(1), upto(1), whole},
		{api.Rsh, true, whole, of(0), whole}, {api.Rsh, true, whole, of(64), whole}, {api.Rsh, true, whole, of(63), spread(0, 1, 0, 1)}, {api.Rsh, true, whole, of(32), upto(4)}, {api.Rsh, true, whole, of(31), spread(0, 1<<33-1, 0, 1<<33-1)},
		{api.Rsh, false, whole, of(0), upto(4)}, {api.Rsh, false, whole, of(31), spread(0, 1, 0, 1)}, {api.Rsh, false, whole, of(32), upto(4)}, {api.Rsh, false, whole, of(63), spread(0, 1, 0, 1)}, {api.Rsh, false, whole, of(64), upto(4)},
		{api.Rsh, true, upto(1), upto(1), whole}, {api.Rsh, false, upto(1), upto(1), upto(4)},
		{api.Arsh, true, high, of(0), high}, {api.Arsh, true, high, of(64), high}, {api.Arsh, true, high, of(63), of(all)}, {api.Arsh, true, high, of(32), signedDown(32)}, {api.Arsh, true, high, of(31), signedDown(31)},
		{api.Arsh, true, whole, of(63), onlyS(-1, 0)}, {api.Arsh, true, upto(1), of(4), spread(0, 15, 0, 15)},
		{api.Arsh, false, upto(1), of(4), spread(0, 15, 0, 15)}, {api.Arsh, false, upper, of(31), of(half)}, {api.Arsh, false, upper, of(32), upper}, {api.Arsh, false, upper, of(64), upper}, {api.Arsh, false, upper, of(0), upper},
		{api.Arsh, false, upper, of(63), of(half)}, {api.Arsh, false, whole, of(31), upto(4)},
		// bit 31 is known to be none by U, not by T: URsh tells it. One more, and it is not
		{api.Arsh, false, spread(0, half, 0, 1<<31-1), of(30), spread(0, 1, 0, 1)}, {api.Arsh, false, api.Scalar{T: anyT, U: api.U{Hi: 1 << 31}, S: anyS}, of(30), upto(4)},
		{api.Arsh, false, unsigned(5, 1<<31-1), of(1), spread(0, 1<<30-1, 2, 1<<30-1)}, {api.Arsh, false, unsigned(5, 1<<31), of(1), spread(0, half, 0, half)},
		{api.Arsh, true, upto(1), upto(1), whole}, {api.Arsh, false, upto(1), upto(1), upto(4)},
	} {
		if got := scalar.Alu(x.op, x.wide, x.a, x.b); got != x.want {
			t.Error(i, got, x.want)
		}
	}
}

// signedDown is the numbers below 0, shifted down by n with their sign.
func signedDown(n int) api.Scalar {
	lo := int64(least) >> n
	return api.Scalar{T: api.Tnum{Value: uint64(lo), Mask: ^uint64(lo)}, U: api.U{Lo: uint64(lo), Hi: all}, S: api.S{Lo: lo, Hi: -1}}
}

// TestAluOfAll holds each operation against the chapter's words, of scalars of all sorts with each other.
func TestAluOfAll(t *testing.T) {
	l := few()
	for _, a := range l {
		for _, b := range l {
			for _, op := range operations {
				for _, wide := range []bool{true, false} {
					want := wantAlu(op, wide, a, b)
					got := scalar.Alu(op, wide, a, b)
					if got != want {
						t.Fatal(op, wide, a, b, got, want)
					}
					if !mayBe(got) || !wide && !scalar.Within(got, scalar.Upto(4)) {
						t.Fatal(op, wide, a, b, got)
					}
				}
			}
		}
	}
}

// TestAluNothing: parts that have nothing in common are settled to all that there may be.
func TestAluNothing(t *testing.T) {
	none := api.Scalar{T: api.Tnum{Value: 8, Mask: 7}, U: api.U{Lo: 1, Hi: 2}, S: anyS}
	if got := scalar.Alu(api.Add, true, none, scalar.Of(0)); got != whole {
		t.Error(got)
	}
	if got := scalar.Alu(api.Mov, false, whole, none); got != scalar.Upto(4) {
		t.Error(got)
	}
	if got := scalar.Alu(api.Mov, true, whole, none); got != none {
		t.Error(got)
	}
}

func TestAluUnknown(t *testing.T) {
	for _, op := range strange(isAlu) {
		for _, wide := range []bool{true, false} {
			for _, a := range []api.Scalar{scalar.Of(1), scalar.Upto(1), whole} {
				if got := scalar.Alu(op, wide, a, scalar.Of(1)); got != whole {
					t.Error(op, wide, got)
				}
			}
		}
	}
}

func TestSwap(t *testing.T) {
	of, upto := scalar.Of, scalar.Upto
	for i, x := range []struct {
		bits    int
		high    bool
		a, want api.Scalar
	}{
		{16, true, of(258), of(513)}, {16, false, of(1<<16 + 258), of(258)}, {16, true, whole, upto(2)}, {16, false, upto(1), upto(2)},
		{32, true, of(1), of(1 << 24)}, {32, false, of(1<<32 + 5), of(5)}, {32, true, upto(1), upto(4)}, {32, false, whole, upto(4)},
		{64, true, of(1), of(1 << 56)}, {64, false, of(all), of(all)}, {64, true, upto(1), whole}, {64, false, upto(1), upto(1)}, {64, false, onlyU(3, 9), onlyU(3, 9)},
		{64, false, onlyS(-1, -1), of(all)}, {64, true, onlyT(1, 0), of(1 << 56)}, {16, true, onlyU(258, 258), of(513)},
		{8, true, of(1), whole}, {0, false, of(1), whole}, {-16, false, of(1), whole}, {17, true, upto(1), whole}, {24, false, of(1), whole}, {128, true, of(1), whole}, {math.MaxInt, true, of(1), whole}, {math.MinInt, false, of(1), whole},
	} {
		if got := scalar.Swap(x.bits, x.high, x.a); got != x.want {
			t.Error(i, got, x.want)
		}
	}
	for _, a := range raw() {
		v, is := alone(a)
		for _, bits := range []int{16, 32, 64} {
			for _, high := range []bool{true, false} {
				want := scalar.Upto(bits / 8)
				if is {
					w, _ := word.Swap(bits, high, v)
					want = number(w)
				} else if bits == 64 && !high {
					want = a
				}
				if got := scalar.Swap(bits, high, a); got != want {
					t.Fatal(bits, high, a, got)
				}
			}
		}
	}
}
