package scalar_test

import (
	"math/big"
	"testing"

	"lockgate/api"
	"lockgate/scalar"
	"lockgate/span"
	"lockgate/tnum"
	"lockgate/word"
)

var comparisons = []int{api.Jeq, api.Jgt, api.Jge, api.Jset, api.Jne, api.Jsgt, api.Jsge, api.Jlt, api.Jle, api.Jslt, api.Jsle}

// answer is what Branch answers.
type answer struct {
	a, b api.Scalar
	ok   bool
}

// wantBranch is P5.5's words.
func wantBranch(op int, wide, taken bool, a, b api.Scalar) answer {
	same := answer{a, b, true}
	v, aloneA := alone(a)
	w, aloneB := alone(b)
	if aloneA && aloneB {
		if is, _ := word.Jump(op, wide, v, w); is == taken {
			return same
		}
		return answer{}
	}
	if !wide && (!scalar.Within(a, scalar.Upto(4)) || !scalar.Within(b, scalar.Upto(4))) {
		return same
	}
	if sign := op == api.Jsgt || op == api.Jsge || op == api.Jslt || op == api.Jsle; !wide && sign && max(a.U.Hi, b.U.Hi) >= 1<<31 {
		return same
	}
	x, y, ok := wantLearnt(op, taken, a, b)
	if !ok {
		return answer{}
	}
	x, okX := wantNorm(x)
	y, okY := wantNorm(y)
	if !okX || !okY {
		return answer{}
	}
	return answer{x, y, true}
}

func wantLearnt(op int, taken bool, a, b api.Scalar) (api.Scalar, api.Scalar, bool) {
	counterpart := map[int]int{
		api.Jeq: api.Jne, api.Jne: api.Jeq, api.Jgt: api.Jle, api.Jle: api.Jgt, api.Jge: api.Jlt, api.Jlt: api.Jge,
		api.Jsgt: api.Jsle, api.Jsle: api.Jsgt, api.Jsge: api.Jslt, api.Jslt: api.Jsge,
	}
	if op == api.Jset {
		return wantSet(taken, a, b)
	}
	if !taken {
		op = counterpart[op]
	}
	switch op {
	case api.Jeq:
		t, okT := tnum.Meet(a.T, b.T)
		u, okU := span.UMeet(a.U, b.U)
		s, okS := span.SMeet(a.S, b.S)
		x := api.Scalar{T: t, U: u, S: s}
		return x, x, okT && okU && okS
	case api.Jne:
		return wantOther(a, b), wantOther(b, a), true
	case api.Jlt:
		return wantAbove(false, 1, b, a, true)
	case api.Jle:
		return wantAbove(false, 0, b, a, true)
	case api.Jgt:
		return wantAbove(false, 1, a, b, false)
	case api.Jge:
		return wantAbove(false, 0, a, b, false)
	case api.Jslt:
		return wantAbove(true, 1, b, a, true)
	case api.Jsle:
		return wantAbove(true, 0, b, a, true)
	case api.Jsgt:
		return wantAbove(true, 1, a, b, false)
	}
	return wantAbove(true, 0, a, b, false)
}

func wantSet(taken bool, a, b api.Scalar) (api.Scalar, api.Scalar, bool) {
	okA, okB := true, true
	v, aloneA := alone(a)
	w, aloneB := alone(b)
	if !taken && aloneB {
		a.T, okA = tnum.Meet(a.T, api.Tnum{Mask: all - w})
	}
	if !taken && aloneA {
		b.T, okB = tnum.Meet(b.T, api.Tnum{Mask: all - v})
	}
	return a, b, okA && okB
}

// wantOther is what is left of a beside b's number.
func wantOther(a, b api.Scalar) api.Scalar {
	w, known := alone(b)
	if !known {
		return a
	}
	if a.U.Lo == w {
		a.U.Lo = w + 1
	} else if a.U.Hi == w {
		a.U.Hi = w - 1
	}
	if uint64(a.S.Lo) == w {
		a.S.Lo = int64(w) + 1
	} else if uint64(a.S.Hi) == w {
		a.S.Hi = int64(w) - 1
	}
	return a
}

// wantAbove works with true numbers, which never go over; what it tells is turned round again at last.
func wantAbove(sign bool, gap int64, a, b api.Scalar, turn bool) (api.Scalar, api.Scalar, bool) {
	true64 := func(v uint64) *big.Int { return new(big.Int).SetUint64(v) }
	aLo, aHi, bLo, bHi := true64(a.U.Lo), true64(a.U.Hi), true64(b.U.Lo), true64(b.U.Hi)
	if sign {
		aLo, aHi, bLo, bHi = big.NewInt(a.S.Lo), big.NewInt(a.S.Hi), big.NewInt(b.S.Lo), big.NewInt(b.S.Hi)
	}
	if lo := new(big.Int).Add(bLo, big.NewInt(gap)); aLo.Cmp(lo) < 0 {
		aLo = lo
	}
	if hi := new(big.Int).Sub(aHi, big.NewInt(gap)); bHi.Cmp(hi) > 0 {
		bHi = hi
	}
	if aLo.Cmp(aHi) > 0 || bLo.Cmp(bHi) > 0 {
		return api.Scalar{}, api.Scalar{}, false
	}
	if sign {
		a.S, b.S = api.S{Lo: aLo.Int64(), Hi: aHi.Int64()}, api.S{Lo: bLo.Int64(), Hi: bHi.Int64()}
	} else {
		a.U, b.U = api.U{Lo: aLo.Uint64(), Hi: aHi.Uint64()}, api.U{Lo: bLo.Uint64(), Hi: bHi.Uint64()}
	}
	if turn {
		a, b = b, a
	}
	return a, b, true
}

// unsigned is the numbers from lo to hi, settled; signed those with a sign.
func unsigned(lo, hi uint64) api.Scalar {
	x, _ := wantNorm(onlyU(lo, hi))
	return x
}

func signed(lo, hi int64) api.Scalar {
	x, _ := wantNorm(onlyS(lo, hi))
	return x
}

// TestBranchRows is worked out by hand: what is learnt where a jump is done.
func TestBranchRows(t *testing.T) {
	of, upto := scalar.Of, scalar.Upto
	for i, x := range []struct {
		op, not      int
		a, b         api.Scalar
		wantA, wantB api.Scalar
	}{
		{api.Jeq, api.Jne, upto(1), of(7), of(7), of(7)}, {api.Jeq, api.Jne, of(7), whole, of(7), of(7)},
		{api.Jeq, api.Jne, unsigned(0, 9), unsigned(5, 20), unsigned(5, 9), unsigned(5, 9)},
		{api.Jeq, api.Jne, onlyS(-4, 9), onlyS(-9, -2), signed(-4, -2), signed(-4, -2)},
		{api.Jne, api.Jeq, upto(1), of(0), unsigned(1, 255), of(0)}, {api.Jne, api.Jeq, upto(1), of(255), unsigned(0, 254), of(255)}, {api.Jne, api.Jeq, upto(1), of(7), upto(1), of(7)},
		{api.Jne, api.Jeq, of(255), upto(1), of(255), unsigned(0, 254)}, {api.Jne, api.Jeq, of(0), upto(1), of(0), unsigned(1, 255)}, {api.Jne, api.Jeq, upto(1), upto(1), upto(1), upto(1)},
		{api.Jne, api.Jeq, whole, of(0), onlyU(1, all), of(0)}, {api.Jne, api.Jeq, whole, of(all), onlyU(0, all-1), of(all)},
		{api.Jne, api.Jeq, whole, of(top), onlyS(least+1, most), of(top)}, {api.Jne, api.Jeq, whole, of(top - 1), onlyS(least, most-1), of(top - 1)},
		{api.Jne, api.Jeq, onlyS(-1, 1), of(all), unsigned(0, 1), of(all)}, {api.Jne, api.Jeq, onlyS(-1, 1), of(1), onlyS(-1, 0), of(1)},
		{api.Jgt, api.Jle, upto(1), of(10), unsigned(11, 255), of(10)}, {api.Jgt, api.Jle, of(10), upto(1), of(10), unsigned(0, 9)}, {api.Jgt, api.Jle, whole, whole, onlyU(1, all), onlyU(0, all-1)},
		{api.Jgt, api.Jle, unsigned(3, 8), unsigned(5, 20), unsigned(6, 8), unsigned(5, 7)}, {api.Jgt, api.Jle, unsigned(30, 40), unsigned(5, 20), unsigned(30, 40), unsigned(5, 20)},
		{api.Jge, api.Jlt, upto(1), of(10), unsigned(10, 255), of(10)}, {api.Jge, api.Jlt, of(10), upto(1), of(10), unsigned(0, 10)}, {api.Jge, api.Jlt, whole, whole, whole, whole},
		{api.Jge, api.Jlt, unsigned(3, 8), unsigned(5, 20), unsigned(5, 8), unsigned(5, 8)},
		{api.Jlt, api.Jge, upto(1), of(10), unsigned(0, 9), of(10)}, {api.Jlt, api.Jge, of(10), upto(1), of(10), unsigned(11, 255)}, {api.Jlt, api.Jge, whole, of(all), onlyU(0, all-1), of(all)},
		{api.Jlt, api.Jge, unsigned(5, 20), unsigned(3, 8), unsigned(5, 7), unsigned(6, 8)},
		{api.Jle, api.Jgt, upto(1), of(10), unsigned(0, 10), of(10)}, {api.Jle, api.Jgt, of(10), upto(1), of(10), unsigned(10, 255)}, {api.Jle, api.Jgt, whole, of(0), of(0), of(0)},
		{api.Jsgt, api.Jsle, whole, of(all), signed(0, most), of(all)}, {api.Jsgt, api.Jsle, of(0), whole, of(0), signed(least, -1)}, {api.Jsgt, api.Jsle, whole, of(top), onlyS(least+1, most), of(top)},
		{api.Jsgt, api.Jsle, onlyS(-3, 3), onlyS(-2, 9), onlyS(-1, 3), onlyS(-2, 2)}, {api.Jsgt, api.Jsle, whole, whole, onlyS(least+1, most), onlyS(least, most-1)},
		{api.Jsge, api.Jslt, whole, of(0), signed(0, most), of(0)}, {api.Jsge, api.Jslt, of(all), whole, of(all), signed(least, -1)}, {api.Jsge, api.Jslt, whole, of(top), whole, of(top)},
		{api.Jslt, api.Jsge, whole, of(0), signed(least, -1), of(0)}, {api.Jslt, api.Jsge, of(all), whole, of(all), signed(0, most)}, {api.Jslt, api.Jsge, whole, of(top - 1), onlyS(least, most-1), of(top - 1)},
		{api.Jsle, api.Jsgt, whole, of(all), signed(least, -1), of(all)}, {api.Jsle, api.Jsgt, of(0), whole, of(0), signed(0, most)}, {api.Jsle, api.Jsgt, whole, of(top), of(top), of(top)},
	} {
		for _, taken := range []bool{true, false} {
			op := x.op
			if !taken {
				op = x.not
			}
			a, b, ok := scalar.Branch(op, true, taken, x.a, x.b)
			if a != x.wantA || b != x.wantB || !ok {
				t.Error(i, taken, a, b, ok)
			}
		}
	}
}

// TestBranchNever: where ends go over, where a Lo would be above a Hi, and where there is nothing.
func TestBranchNever(t *testing.T) {
	of, upto := scalar.Of, scalar.Upto
	for i, x := range []struct {
		op, not int
		a, b    api.Scalar
	}{
		{api.Jgt, api.Jle, whole, of(all)}, {api.Jgt, api.Jle, of(0), whole}, {api.Jlt, api.Jge, whole, of(0)}, {api.Jlt, api.Jge, of(all), whole},
		{api.Jsgt, api.Jsle, whole, of(top - 1)}, {api.Jsgt, api.Jsle, of(top), whole}, {api.Jslt, api.Jsge, whole, of(top)}, {api.Jslt, api.Jsge, of(top - 1), whole},
		{api.Jgt, api.Jle, upto(1), of(255)}, {api.Jgt, api.Jle, unsigned(0, 9), unsigned(9, 20)}, {api.Jge, api.Jlt, unsigned(0, 9), unsigned(10, 20)},
		{api.Jlt, api.Jge, unsigned(9, 20), unsigned(0, 9)}, {api.Jle, api.Jgt, unsigned(10, 20), unsigned(0, 9)},
		{api.Jsgt, api.Jsle, onlyS(-9, -2), onlyS(-2, 3)}, {api.Jsge, api.Jslt, onlyS(-9, -3), onlyS(-2, 3)}, {api.Jslt, api.Jsge, onlyS(-2, 3), onlyS(-9, -2)}, {api.Jsle, api.Jsgt, onlyS(-2, 3), onlyS(-9, -3)},
		{api.Jeq, api.Jne, upto(1), of(256)}, {api.Jeq, api.Jne, onlyT(1, 2), onlyT(0, 2)}, {api.Jeq, api.Jne, onlyU(1, 2), onlyU(3, 4)}, {api.Jeq, api.Jne, onlyS(-2, -1), onlyS(0, 4)},
		// no part is without anything, but all together are
		{api.Jeq, api.Jne, onlyT(8, 7), onlyU(3, 7)}, {api.Jeq, api.Jne, onlyU(0, 7), onlyS(-9, -1)},
		{api.Jgt, api.Jle, onlyT(0, 3), of(3)}, {api.Jsgt, api.Jsle, unsigned(0, 7), onlyU(7, 9)},
	} {
		for _, taken := range []bool{true, false} {
			op := x.op
			if !taken {
				op = x.not
			}
			if a, b, ok := scalar.Branch(op, true, taken, x.a, x.b); (answer{a, b, ok}) != (answer{}) {
				t.Error(i, taken, a, b, ok)
			}
		}
	}
}

func TestBranchAlone(t *testing.T) {
	numbers := []uint64{0, 1, 5, 1<<31 - 1, 1 << 31, half, 1 << 32, 1<<32 + 5, top - 1, top, all}
	for _, v := range numbers {
		for _, w := range numbers {
			for _, op := range comparisons {
				for _, wide := range []bool{true, false} {
					is, _ := word.Jump(op, wide, v, w)
					a, b := onlyT(v, 0), onlyS(int64(w), int64(w))
					x, y, ok := scalar.Branch(op, wide, is, a, b)
					if (answer{x, y, ok}) != (answer{a, b, true}) {
						t.Fatal(op, wide, v, w, x, y, ok)
					}
					x, y, ok = scalar.Branch(op, wide, !is, a, b)
					if (answer{x, y, ok}) != (answer{}) {
						t.Fatal(op, wide, v, w, x, y, ok)
					}
				}
			}
		}
	}
}

func TestBranchSet(t *testing.T) {
	of, upto := scalar.Of, scalar.Upto
	for i, x := range []struct {
		wide, taken bool
		a, b        api.Scalar
		want        answer
	}{
		{true, true, upto(1), of(254), answer{upto(1), of(254), true}}, {true, true, upto(1), of(256), answer{upto(1), of(256), true}}, {true, true, upto(1), upto(2), answer{upto(1), upto(2), true}},
		{true, true, onlyU(0, 255), onlyT(0, 255), answer{upto(1), upto(1), true}},
		{true, false, upto(1), of(254), answer{unsigned(0, 1), of(254), true}}, {true, false, of(254), upto(1), answer{of(254), unsigned(0, 1), true}}, {true, false, upto(1), upto(1), answer{upto(1), upto(1), true}},
		{true, false, whole, of(top), answer{signed(0, most), of(top), true}}, {true, false, whole, of(all), answer{of(0), of(all), true}}, {true, false, whole, of(0), answer{whole, of(0), true}},
		{true, false, onlyT(4, 3), of(6), answer{}}, {true, false, of(6), onlyT(4, 3), answer{}}, {true, false, unsigned(4, 7), onlyU(4, 4), answer{}}, {true, false, onlyU(8, 20), of(all - 7), answer{}},
		{false, false, upto(4), of(254), answer{spread(0, half-254, 0, half-254), of(254), true}}, {false, false, whole, of(254), answer{whole, of(254), true}}, {false, true, whole, of(254), answer{whole, of(254), true}},
	} {
		a, b, ok := scalar.Branch(api.Jset, x.wide, x.taken, x.a, x.b)
		if (answer{a, b, ok}) != x.want {
			t.Error(i, a, b, ok)
		}
	}
}

// TestBranchNarrow: with more than 32 bits, and of a jump with a sign with bit 31, nothing is learnt, nor settled.
func TestBranchNarrow(t *testing.T) {
	of, upto := scalar.Of, scalar.Upto
	below := unsigned(0, 1<<31-1)
	for i, x := range []struct {
		op           int
		a, b         api.Scalar
		wantA, wantB api.Scalar
	}{
		{api.Jlt, upto(4), of(10), unsigned(0, 9), of(10)}, {api.Jlt, whole, of(10), whole, of(10)}, {api.Jlt, of(10), whole, of(10), whole}, {api.Jlt, upto(4), of(1 << 32), upto(4), of(1 << 32)}, {api.Jlt, upto(5), of(10), upto(5), of(10)},
		// one part that was not settled is enough
		{api.Jlt, onlyU(0, 255), of(10), onlyU(0, 255), of(10)}, {api.Jlt, onlyT(0, 255), of(10), onlyT(0, 255), of(10)}, {api.Jlt, onlyS(0, 255), of(10), onlyS(0, 255), of(10)},
		{api.Jgt, upto(4), of(1<<31 + 5), unsigned(1<<31+6, half), of(1<<31 + 5)}, {api.Jeq, upto(4), of(half), of(half), of(half)}, {api.Jne, upto(4), of(half), unsigned(0, half-1), of(half)},
		{api.Jslt, upto(4), of(10), upto(4), of(10)}, {api.Jsle, of(10), upto(4), of(10), upto(4)}, {api.Jsgt, below, of(1 << 31), below, of(1 << 31)}, {api.Jsge, unsigned(0, 1<<31), of(10), unsigned(0, 1<<31), of(10)},
		{api.Jslt, below, of(10), unsigned(0, 9), of(10)}, {api.Jsle, below, of(10), unsigned(0, 10), of(10)}, {api.Jsgt, below, of(10), unsigned(11, 1<<31-1), of(10)}, {api.Jsge, below, of(10), unsigned(10, 1<<31-1), of(10)},
	} {
		a, b, ok := scalar.Branch(x.op, false, true, x.a, x.b)
		if a != x.wantA || b != x.wantB || !ok {
			t.Error(i, a, b, ok)
		}
	}
	for _, op := range []int{api.Jgt, api.Jsgt} {
		if a, b, ok := scalar.Branch(op, false, true, below, of(1<<31-1)); (answer{a, b, ok}) != (answer{}) {
			t.Error(op, a, b, ok)
		}
	}
}

// TestBranchOfAll holds each jump against the chapter's words, of scalars of all sorts with each other.
func TestBranchOfAll(t *testing.T) {
	l := few()
	for _, a := range l {
		for _, b := range l {
			for _, op := range comparisons {
				for way := range 4 {
					wide, taken := way&1 == 0, way&2 == 0
					want := wantBranch(op, wide, taken, a, b)
					x, y, ok := scalar.Branch(op, wide, taken, a, b)
					if (answer{x, y, ok}) != want {
						t.Fatal(op, wide, taken, a, b, x, y, ok, want)
					}
					if ok && (!mayBe(x) || !mayBe(y) || !scalar.Within(x, a) || !scalar.Within(y, b)) {
						t.Fatal(op, wide, taken, a, b, x, y)
					}
				}
			}
		}
	}
}

func TestBranchUnknown(t *testing.T) {
	none := api.Scalar{T: api.Tnum{Value: 8, Mask: 7}, U: api.U{Lo: 1, Hi: 2}, S: anyS}
	for _, op := range strange(isJump) {
		for way := range 4 {
			for _, a := range []api.Scalar{scalar.Of(1), scalar.Upto(1), onlyU(0, 9), none} {
				x, y, ok := scalar.Branch(op, way&1 == 0, way&2 == 0, a, scalar.Of(1))
				if (answer{x, y, ok}) != (answer{a, scalar.Of(1), true}) {
					t.Error(op, way, x, y, ok)
				}
			}
		}
	}
}
