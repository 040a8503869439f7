package word_test

import (
	"math"
	"math/big"
	"testing"

	"lockgate/api"
	"lockgate/word"
)

// edges are numbers at which a width, a sign or a shift turns over; some have bits above the lowest 32.
var edges = []uint64{
	0, 1, 2, 3, 5, 7, 8, 9, 15, 16, 31, 32, 33, 63, 64, 65, 127, 255, 256, 258,
	1<<15 - 1, 1 << 15, 1<<16 - 1, 1 << 16,
	1<<31 - 1, 1 << 31, 1<<31 + 1, 1<<32 - 2, 1<<32 - 1, 1 << 32, 1<<32 + 1, 1<<32 + 5, 1<<32 + 33,
	1<<33 - 1, 3 << 31, 1<<40 + 9, 1<<62 + 1<<31,
	1<<63 - 1, 1 << 63, 1<<63 + 1, 1<<63 | 1<<31, 1<<64 - 1<<31, 1<<64 - 1<<32, 1<<64 - 64, 1<<64 - 32, 1<<64 - 2, 1<<64 - 1,
	0x0102030405060708, 0x8899aabbccddeeff, 0xdeadbeefcafebabe,
}

var arithmetic = []int{
	api.Add, api.Sub, api.Mul, api.Div, api.Or, api.And, api.Lsh, api.Rsh, api.Neg, api.Mod, api.Xor, api.Mov, api.Arsh,
}

var jumps = []int{
	api.Jeq, api.Jne, api.Jgt, api.Jge, api.Jlt, api.Jle, api.Jsgt, api.Jsge, api.Jslt, api.Jsle, api.Jset,
}

// width is w of the chapter.
func width(wide bool) uint {
	if wide {
		return 64
	}
	return 32
}

// modulo is 2^w.
func modulo(wide bool) *big.Int {
	return new(big.Int).Lsh(big.NewInt(1), width(wide))
}

// truth is the true number that v stands for at a width, without a sign.
func truth(wide bool, v uint64) *big.Int {
	return new(big.Int).Mod(new(big.Int).SetUint64(v), modulo(wide))
}

// truthSigned is the true number that v stands for at a width, in two's complement.
func truthSigned(wide bool, v uint64) *big.Int {
	n := truth(wide, v)
	if n.Bit(int(width(wide))-1) == 1 {
		n.Sub(n, modulo(wide))
	}
	return n
}

// wantAlu works P1.1 out by true numbers, which know no wrap-round.
func wantAlu(op int, wide bool, a, b uint64) uint64 {
	x, y, z := truth(wide, a), truth(wide, b), new(big.Int)
	shift := uint(new(big.Int).Mod(y, big.NewInt(int64(width(wide)))).Uint64())
	switch op {
	case api.Add:
		z.Add(x, y)
	case api.Sub:
		z.Sub(x, y)
	case api.Mul:
		z.Mul(x, y)
	case api.Div:
		if y.Sign() != 0 {
			z.Quo(x, y)
		}
	case api.Mod:
		z.Set(x)
		if y.Sign() != 0 {
			z.Rem(x, y)
		}
	case api.Or:
		z.Or(x, y)
	case api.And:
		z.And(x, y)
	case api.Xor:
		z.Xor(x, y)
	case api.Lsh:
		z.Lsh(x, shift)
	case api.Rsh:
		z.Rsh(x, shift)
	case api.Arsh:
		z.Rsh(truthSigned(wide, a), shift)
	case api.Neg:
		z.Neg(x)
	case api.Mov:
		z.Set(y)
	}
	return z.Mod(z, modulo(wide)).Uint64()
}

// wantJump works P1.3 out by true numbers.
func wantJump(op int, wide bool, a, b uint64) bool {
	plain := truth(wide, a).Cmp(truth(wide, b))
	signed := truthSigned(wide, a).Cmp(truthSigned(wide, b))
	switch op {
	case api.Jeq:
		return plain == 0
	case api.Jne:
		return plain != 0
	case api.Jgt:
		return plain > 0
	case api.Jge:
		return plain >= 0
	case api.Jlt:
		return plain < 0
	case api.Jle:
		return plain <= 0
	case api.Jsgt:
		return signed > 0
	case api.Jsge:
		return signed >= 0
	case api.Jslt:
		return signed < 0
	case api.Jsle:
		return signed <= 0
	}
	return new(big.Int).And(truth(wide, a), truth(wide, b)).Sign() != 0
}

// pairs hands on every two edges at both widths.
func pairs(do func(wide bool, a, b uint64)) {
	for _, wide := range []bool{true, false} {
		for _, a := range edges {
			for _, b := range edges {
				do(wide, a, b)
			}
		}
	}
}

// alu is an operation that must be one.
func alu(t *testing.T, op int, wide bool, a, b uint64) uint64 {
	t.Helper()
	v, ok := word.Alu(op, wide, a, b)
	if !ok {
		t.Fatalf("Alu(%d, %v, %#x, %#x) is none", op, wide, a, b)
	}
	return v
}

// jump is a comparison that must be one.
func jump(t *testing.T, op int, wide bool, a, b uint64) bool {
	t.Helper()
	v, ok := word.Jump(op, wide, a, b)
	if !ok {
		t.Fatalf("Jump(%d, %v, %#x, %#x) is none", op, wide, a, b)
	}
	return v
}

// wrongOps is numbers around, and alike in their lowest bits to, those of list, but none of them.
func wrongOps(list []int) []int {
	known := map[int]int{}
	for _, op := range list {
		known[op] = 1
	}
	wrong := []int{math.MinInt, math.MaxInt, math.MinInt32, math.MaxInt32}
	for op := -300; op <= 300; op++ {
		if known[op] == 0 {
			wrong = append(wrong, op)
		}
	}
	for _, op := range list {
		wrong = append(wrong, op+1<<8, op+1<<16, op+1<<32, op-1<<32, op+math.MinInt)
	}
	return wrong
}

// P1.1: the numbers of the operations are those of the chapter.
func TestAluNumbers(t *testing.T) {
	for i, x := range []struct {
		op   int
		want uint64
	}{
		{0, 23}, {1, 17}, {2, 60}, {3, 6}, {4, 23}, {5, 0}, {6, 160}, {7, 2}, {8, 1<<64 - 20}, {9, 2}, {10, 23}, {11, 3}, {12, 2},
	} {
		if got := alu(t, x.op, true, 20, 3); got != x.want {
			t.Errorf("%d: Alu(%d, true, 20, 3) = %d, not %d", i, x.op, got, x.want)
		}
	}
}

// P1.1: ordinary numbers, the edges, and the chapter's examples.
func TestAluExamples(t *testing.T) {
	for i, x := range []struct {
		op         int
		wide       bool
		a, b, want uint64
	}{
		{api.Add, true, 1<<64 - 1, 2, 1},
		{api.Add, false, 1<<32 - 1, 2, 1},
		{api.Add, true, 1<<32 - 1, 2, 1<<32 + 1},
		{api.Sub, true, 3, 5, 1<<64 - 2},
		{api.Sub, false, 3, 5, 1<<32 - 2},
		{api.Mul, true, 1<<32 + 1, 1<<32 + 1, 1<<33 + 1},
		{api.Mul, false, 1<<16 + 1, 1<<16 + 1, 1<<17 + 1},
		{api.Div, true, 7, 0, 0},
		{api.Div, false, 7, 0, 0},
		{api.Div, false, 7, 1 << 32, 0},
		{api.Div, true, 7, 1 << 32, 0},
		{api.Div, true, 1 << 63, 1<<64 - 1, 0},
		{api.Div, false, 1 << 31, 1<<32 - 1, 0},
		{api.Mod, true, 7, 0, 7},
		{api.Mod, false, 7, 0, 7},
		{api.Mod, false, 1<<32 + 7, 1 << 32, 7},
		{api.Mod, true, 1<<64 - 1, 10, 5},
		{api.Mod, false, 1<<64 - 1, 10, 5},
		{api.Mod, false, 1<<32 - 1, 1<<32 + 7, 3},
		{api.Lsh, true, 3, 63, 1 << 63},
		{api.Lsh, true, 3, 64, 3},
		{api.Lsh, true, 3, 65, 6},
		{api.Lsh, true, 1, 32, 1 << 32},
		{api.Lsh, true, 1, 1<<64 - 1, 1 << 63},
		{api.Lsh, false, 3, 31, 1 << 31},
		{api.Lsh, false, 3, 32, 3},
		{api.Lsh, false, 3, 33, 6},
		{api.Lsh, false, 1, 1<<64 - 1, 1 << 31},
		{api.Rsh, true, 1<<64 - 1, 63, 1},
		{api.Rsh, true, 1<<64 - 1, 64, 1<<64 - 1},
		{api.Rsh, true, 1 << 40, 32, 1 << 8},
		{api.Rsh, false, 1<<64 - 1, 31, 1},
		{api.Rsh, false, 1<<64 - 1, 32, 1<<32 - 1},
		{api.Rsh, false, 1 << 32, 1, 0},
		{api.Arsh, true, 1 << 63, 63, 1<<64 - 1},
		{api.Arsh, true, 1 << 63, 64, 1 << 63},
		{api.Arsh, true, 1 << 62, 62, 1},
		{api.Arsh, true, 1 << 31, 31, 1},
		{api.Arsh, false, 1 << 31, 33, 3221225472},
		{api.Arsh, false, 1 << 31, 31, 1<<32 - 1},
		{api.Arsh, false, 1 << 63, 1, 0},
		{api.Neg, true, 0, 9, 0},
		{api.Neg, true, 1 << 63, 9, 1 << 63},
		{api.Neg, false, 1 << 31, 9, 1 << 31},
		{api.Neg, false, 1 << 32, 9, 0},
		{api.Mov, true, 9, 1<<64 - 1, 1<<64 - 1},
		{api.Mov, false, 9, 1<<64 - 1, 1<<32 - 1},
	} {
		if got := alu(t, x.op, x.wide, x.a, x.b); got != x.want {
			t.Errorf("%d: Alu(%d, %v, %#x, %#x) = %#x, not %#x", i, x.op, x.wide, x.a, x.b, got, x.want)
		}
	}
}

// P1.1: all operations at all edges are what the true numbers say.
func TestAluTruth(t *testing.T) {
	for _, op := range arithmetic {
		pairs(func(wide bool, a, b uint64) {
			if got, want := alu(t, op, wide, a, b), wantAlu(op, wide, a, b); got != want {
				t.Errorf("Alu(%d, %v, %#x, %#x) = %#x, not %#x", op, wide, a, b, got, want)
			}
		})
	}
}

// P1.1: shifts by every distance up to twice the width, and further.
func TestAluShifts(t *testing.T) {
	for _, op := range []int{api.Lsh, api.Rsh, api.Arsh} {
		for _, wide := range []bool{true, false} {
			for _, a := range edges {
				for b := range uint64(200) {
					if got, want := alu(t, op, wide, a, b), wantAlu(op, wide, a, b); got != want {
						t.Errorf("Alu(%d, %v, %#x, %d) = %#x, not %#x", op, wide, a, b, got, want)
					}
				}
			}
		}
	}
}

// P1.1: what is no operation is 0 and false.
func TestAluWrong(t *testing.T) {
	for _, op := range wrongOps(arithmetic) {
		for _, wide := range []bool{true, false} {
			if got, ok := word.Alu(op, wide, 1<<64-1, 1<<63|5); got != 0 || ok {
				t.Errorf("Alu(%d, %v) = %#x, %v", op, wide, got, ok)
			}
		}
	}
}

// P1.2: ordinary numbers, bits above, and the chapter's examples.
func TestSwapExamples(t *testing.T) {
	for i, x := range []struct {
		bits int
		high bool
		v    uint64
		want uint64
	}{
		{16, true, 258, 513},
		{16, false, 258, 258},
		{16, true, 1, 256},
		{16, true, 1<<64 - 256, 255},
		{16, false, 1<<64 - 256, 1<<16 - 256},
		{16, true, 0x12345, 0x4523},
		{32, false, 1<<32 + 5, 5},
		{32, true, 1<<32 + 5, 5 << 24},
		{32, true, 0x80, 1 << 31},
		{32, true, 0x8899aabbccddeeff, 0xffeeddcc},
		{32, false, 0x8899aabbccddeeff, 0xccddeeff},
		{64, true, 1, 1 << 56},
		{64, true, 0x8899aabbccddeeff, 0xffeeddccbbaa9988},
		{64, false, 0x8899aabbccddeeff, 0x8899aabbccddeeff},
		{64, false, 1<<64 - 1, 1<<64 - 1},
	} {
		if got, ok := word.Swap(x.bits, x.high, x.v); got != x.want || !ok {
			t.Errorf("%d: Swap(%d, %v, %#x) = %#x, %v, not %#x", i, x.bits, x.high, x.v, got, ok, x.want)
		}
	}
}

// P1.2: byte i of the answer is the byte i, or with high the one as far from the other end; above are noughts.
func TestSwapBytes(t *testing.T) {
	for _, bits := range []int{16, 32, 64} {
		for _, high := range []bool{true, false} {
			for _, v := range edges {
				got, ok := word.Swap(bits, high, v)
				if !ok {
					t.Fatalf("Swap(%d, %v, %#x) is none", bits, high, v)
				}
				for i := range 8 {
					want := byte(0)
					if at := i * 8; at < bits && high {
						want = byte(v >> (bits - 8 - at))
					} else if at < bits {
						want = byte(v >> at)
					}
					if b := byte(got >> (i * 8)); b != want {
						t.Errorf("Swap(%d, %v, %#x) has %#x as byte %d, not %#x", bits, high, v, b, i, want)
					}
				}
			}
		}
	}
}

// P1.2: any other count of bits is 0 and false.
func TestSwapWrong(t *testing.T) {
	for _, bits := range wrongOps([]int{16, 32, 64}) {
		for _, high := range []bool{true, false} {
			if got, ok := word.Swap(bits, high, 1<<64-1); got != 0 || ok {
				t.Errorf("Swap(%d, %v) = %#x, %v", bits, high, got, ok)
			}
		}
	}
}

// P1.3: the numbers of the jumps are those of the chapter.
func TestJumpNumbers(t *testing.T) {
	const less = 1<<64 - 3
	for i, x := range []struct {
		op   int
		a, b uint64
		want bool
	}{
		{1, 4, 4, true}, {1, 4, 5, false}, {5, 4, 4, false}, {5, 4, 5, true},
		{2, less, 2, true}, {2, 2, 2, false}, {2, 2, less, false},
		{3, less, 2, true}, {3, 2, 2, true}, {3, 2, less, false},
		{10, less, 2, false}, {10, 2, 2, false}, {10, 2, less, true},
		{11, less, 2, false}, {11, 2, 2, true}, {11, 2, less, true},
		{6, less, 2, false}, {6, 2, 2, false}, {6, 2, less, true},
		{7, less, 2, false}, {7, 2, 2, true}, {7, 2, less, true},
		{12, less, 2, true}, {12, 2, 2, false}, {12, 2, less, false},
		{13, less, 2, true}, {13, 2, 2, true}, {13, 2, less, false},
		{4, 5, 10, false}, {4, 5, 4, true}, {4, 0, 0, false},
	} {
		if got := jump(t, x.op, true, x.a, x.b); got != x.want {
			t.Errorf("%d: Jump(%d, true, %#x, %#x) = %v", i, x.op, x.a, x.b, got)
		}
	}
}

// P1.3: the highest bit, bits above the lowest 32, and the chapter's examples.
func TestJumpExamples(t *testing.T) {
	for i, x := range []struct {
		op   int
		wide bool
		a, b uint64
		want bool
	}{
		{api.Jsgt, true, 0, 1<<64 - 1, true},
		{api.Jgt, true, 0, 1<<64 - 1, false},
		{api.Jsgt, false, 0, 1 << 31, true},
		{api.Jgt, false, 0, 1 << 31, false},
		{api.Jsgt, true, 0, 1 << 31, false},
		{api.Jslt, true, 1 << 63, 1<<63 - 1, true},
		{api.Jlt, true, 1 << 63, 1<<63 - 1, false},
		{api.Jslt, false, 1 << 31, 1<<31 - 1, true},
		{api.Jslt, false, 1 << 63, 0, false},
		{api.Jeq, false, 1<<40 | 7, 7, true},
		{api.Jeq, true, 1<<40 | 7, 7, false},
		{api.Jne, false, 1<<40 | 7, 7, false},
		{api.Jset, false, 1 << 32, 1<<64 - 1, false},
		{api.Jset, true, 1 << 32, 1<<64 - 1, true},
		{api.Jset, false, 1 << 31, 1<<64 - 1, true},
		{api.Jset, true, 1 << 63, 1 << 63, true},
	} {
		if got := jump(t, x.op, x.wide, x.a, x.b); got != x.want {
			t.Errorf("%d: Jump(%d, %v, %#x, %#x) = %v", i, x.op, x.wide, x.a, x.b, got)
		}
	}
}

// P1.3: all jumps at all edges are what the true numbers say.
func TestJumpTruth(t *testing.T) {
	for _, op := range jumps {
		pairs(func(wide bool, a, b uint64) {
			if got, want := jump(t, op, wide, a, b), wantJump(op, wide, a, b); got != want {
				t.Errorf("Jump(%d, %v, %#x, %#x) = %v", op, wide, a, b, got)
			}
		})
	}
}

// P1.3: what is no such jump (Ja, Call and Exit among them) is false and false.
func TestJumpWrong(t *testing.T) {
	for _, op := range wrongOps(jumps) {
		for _, wide := range []bool{true, false} {
			if got, ok := word.Jump(op, wide, 5, 5); got || ok {
				t.Errorf("Jump(%d, %v, 5, 5) = %v, %v", op, wide, got, ok)
			}
			if got, ok := word.Jump(op, wide, 4, 5); got || ok {
				t.Errorf("Jump(%d, %v, 4, 5) = %v, %v", op, wide, got, ok)
			}
		}
	}
}

// P1.4: what is added is taken away again.
func TestAddIsTakenAway(t *testing.T) {
	pairs(func(wide bool, a, b uint64) {
		whole := alu(t, api.Mov, wide, 0, a)
		if got := alu(t, api.Sub, wide, alu(t, api.Add, wide, a, b), b); got != whole {
			t.Errorf("%v: %#x + %#x - %#x = %#x", wide, a, b, b, got)
		}
	})
}

// P1.4: what is divided is the quotient times the divisor, and what is left over, which is below the divisor.
func TestDivisionIsWhole(t *testing.T) {
	pairs(func(wide bool, a, b uint64) {
		quotient, left := alu(t, api.Div, wide, a, b), alu(t, api.Mod, wide, a, b)
		whole := alu(t, api.Mov, wide, 0, a)
		if got := alu(t, api.Add, wide, alu(t, api.Mul, wide, quotient, b), left); got != whole {
			t.Errorf("%v: %#x * %#x + %#x = %#x, not %#x", wide, quotient, b, left, got, whole)
		}
		if jump(t, api.Jne, wide, b, 0) && !jump(t, api.Jlt, wide, left, b) {
			t.Errorf("%v: %#x is left over of %#x divided by %#x", wide, left, a, b)
		}
	})
}

// P1.4: Neg is 0 less the number, whatever the other is.
func TestNegIsLess(t *testing.T) {
	pairs(func(wide bool, a, b uint64) {
		if got, want := alu(t, api.Neg, wide, a, b), alu(t, api.Sub, wide, 0, a); got != want {
			t.Errorf("%v: Neg %#x = %#x, not %#x", wide, a, got, want)
		}
	})
}

// P1.4: a narrow operation hangs on the lowest 32 bits alone, and makes no others.
func TestNarrowIsLowest(t *testing.T) {
	pairs(func(_ bool, a, b uint64) {
		for _, above := range []uint64{1 << 32, 1 << 63, 1<<64 - 1<<32, 0x55555555 << 32} {
			for _, op := range arithmetic {
				got := alu(t, op, false, a, b)
				if got>>32 != 0 {
					t.Errorf("Alu(%d, false, %#x, %#x) = %#x", op, a, b, got)
				}
				if got != alu(t, op, false, a^above, b) || got != alu(t, op, false, a, b^above) {
					t.Errorf("Alu(%d, false, %#x, %#x) hangs on %#x", op, a, b, above)
				}
			}
			for _, op := range jumps {
				got := jump(t, op, false, a, b)
				if got != jump(t, op, false, a^above, b) || got != jump(t, op, false, a, b^above) {
					t.Errorf("Jump(%d, false, %#x, %#x) hangs on %#x", op, a, b, above)
				}
			}
		}
	})
}

// P1.5: just one of below, alike, above is so, and the jumps that take two of them together agree.
func TestJustOneIsSo(t *testing.T) {
	for _, x := range []struct{ below, above, notAbove, notBelow int }{
		{api.Jlt, api.Jgt, api.Jle, api.Jge},
		{api.Jslt, api.Jsgt, api.Jsle, api.Jsge},
	} {
		pairs(func(wide bool, a, b uint64) {
			below, alike, above := jump(t, x.below, wide, a, b), jump(t, api.Jeq, wide, a, b), jump(t, x.above, wide, a, b)
			so := 0
			for _, is := range []bool{below, alike, above} {
				if is {
					so++
				}
			}
			if so != 1 {
				t.Errorf("%v: %#x to %#x: below %v, alike %v, above %v", wide, a, b, below, alike, above)
			}
			if jump(t, x.notAbove, wide, a, b) == above || jump(t, x.notBelow, wide, a, b) == below {
				t.Errorf("%v: %#x to %#x: or alike does not fit", wide, a, b)
			}
			if jump(t, api.Jne, wide, a, b) == alike || jump(t, x.above, wide, b, a) != below {
				t.Errorf("%v: %#x to %#x: the other way round does not fit", wide, a, b)
			}
		})
	}
}
