package tnum_test

import (
	"math"
	"slices"
	"testing"

	"lockgate/api"
	"lockgate/tnum"
)

const (
	all  = math.MaxUint64
	top  = 1 << 63
	odd  = 0x5555555555555555
	even = 0xaaaaaaaaaaaaaaaa
)

// may is what a bit may be: these tests take tnums apart into such bits, and work out bit by bit what must be told.
type may uint8

const (
	no may = 1 << iota
	yes
	either = no | yes
)

// row is the bits of a tnum, the lowest first.
type row [64]may

func read(t api.Tnum) row {
	var r row
	for i := range r {
		switch {
		case t.Mask>>i&1 == 1:
			r[i] = either
		case t.Value>>i&1 == 1:
			r[i] = yes
		default:
			r[i] = no
		}
	}
	return r
}

func (r row) told() api.Tnum {
	var t api.Tnum
	for i, m := range r {
		switch m {
		case either:
			t.Mask |= 1 << i
		case yes:
			t.Value |= 1 << i
		}
	}
	return t
}

// be is a bit that is alone.
func be(bit int) may {
	return no << bit
}

// has tells whether a bit may be this one.
func (m may) has(bit int) bool {
	return m&be(bit) != 0
}

// ripple goes from the lowest bit on: each bit hangs on two bits, and on what is carried from below, which may be anything that it could become there.
func ripple(a, b api.Tnum, do func(x, y, carry int) (int, int)) api.Tnum {
	var out row
	ra, rb, carry := read(a), read(b), no
	for i := range out {
		next := may(0)
		for k := range 8 {
			x, y, c := k&1, k>>1&1, k>>2
			if ra[i].has(x) && rb[i].has(y) && carry.has(c) {
				bit, up := do(x, y, c)
				out[i] |= be(bit)
				next |= be(up)
			}
		}
		carry = next
	}
	return out.told()
}

// each is a ripple without a carry.
func each(a, b api.Tnum, do func(x, y int) int) api.Tnum {
	return ripple(a, b, func(x, y, _ int) (int, int) { return do(x, y), 0 })
}

// moved is a row whose bit i is the bit from(i) of a, or a nought, if that is none.
func moved(a api.Tnum, from func(i int) int) api.Tnum {
	var out row
	r := read(a)
	for i := range out {
		out[i] = no
		if at := from(i); at >= 0 && at < 64 {
			out[i] = r[at]
		}
	}
	return out.told()
}

func wantAdd(a, b api.Tnum) api.Tnum {
	return ripple(a, b, func(x, y, c int) (int, int) { return (x + y + c) & 1, (x + y + c) >> 1 })
}

func wantSub(a, b api.Tnum) api.Tnum {
	return ripple(a, b, func(x, y, c int) (int, int) {
		if x < y+c {
			return x + 2 - y - c, 1
		}
		return x - y - c, 0
	})
}

func wantAnd(a, b api.Tnum) api.Tnum {
	return each(a, b, func(x, y int) int { return x * y })
}

func wantOr(a, b api.Tnum) api.Tnum {
	return each(a, b, func(x, y int) int { return max(x, y) })
}

func wantXor(a, b api.Tnum) api.Tnum {
	return each(a, b, func(x, y int) int { return (x + y) % 2 })
}

// wantMul is P3.6's words; that Add is right is asked elsewhere.
func wantMul(a, b api.Tnum) api.Tnum {
	s := api.Tnum{}
	for place, bit := range read(a) {
		value, mask := b.Value<<place, b.Mask<<place
		if bit == yes {
			s = tnum.Add(s, api.Tnum{Mask: mask})
		} else if bit == either {
			s = tnum.Add(s, api.Tnum{Mask: value | mask})
		}
	}
	return tnum.Add(api.Tnum{Value: a.Value * b.Value}, s)
}

// operations of two tnums: what is told, what must be, and what is made of two numbers.
var operations = []struct {
	name       string
	told, want func(a, b api.Tnum) api.Tnum
	made       func(v, w uint64) uint64
}{
	{"Add", tnum.Add, wantAdd, func(v, w uint64) uint64 { return v + w }},
	{"Sub", tnum.Sub, wantSub, func(v, w uint64) uint64 { return v - w }},
	{"Mul", tnum.Mul, wantMul, func(v, w uint64) uint64 { return v * w }},
	{"And", tnum.And, wantAnd, func(v, w uint64) uint64 { return v & w }},
	{"Or", tnum.Or, wantOr, func(v, w uint64) uint64 { return v | w }},
	{"Xor", tnum.Xor, wantXor, func(v, w uint64) uint64 { return v ^ w }},
}

var distances = []int{
	0, 1, 2, 7, 8, 30, 31, 32, 33, 62, 63, 64, 65, 95, 96, 97, 127, 128, 1000, 1 << 32, math.MaxInt,
	-1, -2, -31, -32, -33, -63, -64, -65, -96, -128, -1000, math.MinInt, math.MinInt + 1,
}

// modulo is n modulo m, from 0 on.
func modulo(n, m int) int {
	return (n%m + m) % m
}

// shifts are of one tnum and a distance: as operations.
var shifts = []struct {
	name string
	told func(a api.Tnum, n int) api.Tnum
	from func(i, n int) int
	made func(v uint64, n int) uint64
}{
	{"Lsh", tnum.Lsh,
		func(i, n int) int { return i - modulo(n, 64) },
		func(v uint64, n int) uint64 { return v << modulo(n, 64) }},
	{"Rsh", tnum.Rsh,
		func(i, n int) int { return i + modulo(n, 64) },
		func(v uint64, n int) uint64 { return v >> modulo(n, 64) }},
	{"Arsh 64", func(a api.Tnum, n int) api.Tnum { return tnum.Arsh(a, n, 64) },
		func(i, n int) int { return min(i+modulo(n, 64), 63) },
		func(v uint64, n int) uint64 { return uint64(int64(v) >> modulo(n, 64)) }},
	{"Arsh 32", func(a api.Tnum, n int) api.Tnum { return tnum.Arsh(a, n, 32) },
		func(i, n int) int {
			if i > 31 {
				return -1
			}
			return min(i+modulo(n, 32), 31)
		},
		func(v uint64, n int) uint64 { return uint64(uint32(int32(uint32(v)) >> modulo(n, 32))) }},
}

// numbers are about the ends of 64 bits, and of 32.
var numbers = []uint64{
	0, 1, 2, 3, 5, 0x1234, 1<<31 - 1, 1 << 31, 1<<32 - 1, 1 << 32, 1<<32 + 1,
	1<<62 + 1, 1<<63 - 1, top, top + 1, 1<<64 - 1<<32, all - 1, all, odd, even, 0x0123456789abcdef,
}

// masks: no bit known, all bits known, and some.
var masks = []uint64{
	0, 1, 6, 0xff, 0xff00, 1 << 31, 1<<32 - 1, 1 << 32, 1<<64 - 1<<32, top, 3 << 62, 1<<63 - 1, all - 1, all, odd, even,
}

// edges are all tnums that are made of numbers and masks.
func edges() []api.Tnum {
	var l []api.Tnum
	for _, v := range numbers {
		for _, m := range masks {
			if t := (api.Tnum{Value: v &^ m, Mask: m}); !slices.Contains(l, t) {
				l = append(l, t)
			}
		}
	}
	return l
}

// small is all tnums that have bits at these places alone.
func small(places ...int) []api.Tnum {
	l := []api.Tnum{{}}
	for _, p := range places {
		for _, t := range l {
			l = append(l, api.Tnum{Value: t.Value | 1<<p, Mask: t.Mask}, api.Tnum{Value: t.Value, Mask: t.Mask | 1<<p})
		}
	}
	return l
}

// smalls are at the lowest bits, at the highest, about the middle, and at both ends.
func smalls() [][]api.Tnum {
	return [][]api.Tnum{small(0, 1, 2, 3), small(60, 61, 62, 63), small(30, 31, 32, 33), small(0, 1, 62, 63)}
}

// members is all numbers of a tnum, of which few bits are not known.
func members(t api.Tnum) []uint64 {
	l := []uint64{t.Value}
	for some := t.Mask; some != 0; some = (some - 1) & t.Mask {
		l = append(l, t.Value|some)
	}
	return l
}

// samples is some numbers of any tnum.
func samples(t api.Tnum) []uint64 {
	l := []uint64{t.Value, t.Value | t.Mask}
	for _, some := range []uint64{odd, even, top, 1} {
		l = append(l, t.Value|t.Mask&some)
	}
	return l
}

// holds tells whether v is of t by its words: a bit that is known is v's.
func holds(t api.Tnum, v uint64) bool {
	for i, m := range read(t) {
		if !m.has(int(v >> i & 1)) {
			return false
		}
	}
	return true
}

func mayBe(t api.Tnum) bool {
	return t.Value&t.Mask == 0
}

// P3.1: Of and Any are what they are, and have what they have.
func TestOfAny(t *testing.T) {
	for _, v := range numbers {
		if got := tnum.Of(v); got != (api.Tnum{Value: v}) {
			t.Errorf("Of(%#x) is %#x", v, got)
		}
		if !tnum.In(tnum.Any(), v) {
			t.Errorf("Any has no %#x", v)
		}
		for _, w := range numbers {
			if tnum.In(tnum.Of(v), w) != (v == w) {
				t.Errorf("In(Of(%#x), %#x) is %v", v, w, v != w)
			}
		}
	}
	if got := tnum.Any(); got != (api.Tnum{Mask: all}) {
		t.Errorf("Any is %#x", got)
	}
}

// P3.1: In asks each known bit, and only those.
func TestIn(t *testing.T) {
	for _, a := range edges() {
		for _, v := range numbers {
			if got := tnum.In(a, v); got != holds(a, v) {
				t.Errorf("In(%#x, %#x) is %v", a, v, got)
			}
		}
		for _, v := range samples(a) {
			if !tnum.In(a, v) {
				t.Errorf("In(%#x, %#x) is false", a, v)
			}
			for bit := range 64 {
				if got := tnum.In(a, v^1<<bit); got != (a.Mask>>bit&1 == 1) {
					t.Errorf("In(%#x, %#x) is %v", a, v^1<<bit, got)
				}
			}
		}
	}
}

// P3.1: Within asks whether every number of one is of the other.
func TestWithin(t *testing.T) {
	for _, l := range smalls() {
		for _, a := range l {
			for _, b := range l {
				want := true
				for _, v := range members(a) {
					want = want && holds(b, v)
				}
				if got := tnum.Within(a, b); got != want {
					t.Errorf("Within(%#x, %#x) is %v", a, b, got)
				}
			}
		}
	}
}

// P3.1: Within of any bits: what may be a bit of one may be it in the other.
func TestWithinEdges(t *testing.T) {
	l := edges()
	for _, a := range l {
		ra := read(a)
		for _, b := range l {
			want := true
			for i, m := range read(b) {
				want = want && ra[i]&^m == 0
			}
			if got := tnum.Within(a, b); got != want {
				t.Fatalf("Within(%#x, %#x) is %v", a, b, got)
			}
		}
		if !tnum.Within(a, a) || !tnum.Within(a, tnum.Any()) || tnum.Within(tnum.Any(), a) != (a.Mask == all) {
			t.Errorf("Within of %#x and Any, or of itself", a)
		}
	}
}

// P3.2: a bit is told of Join that is known in both, and alike; of Meet that one of them knows; nothing, if they differ.
func TestJoinMeetBits(t *testing.T) {
	l, apart := edges(), 0
	for _, a := range l {
		for _, b := range l {
			var join, meet row
			want := true
			ra, rb := read(a), read(b)
			for i := range ra {
				join[i], meet[i] = ra[i]|rb[i], ra[i]&rb[i]
				want = want && meet[i] != 0
			}
			if got := tnum.Join(a, b); got != join.told() {
				t.Fatalf("Join(%#x, %#x) is %#x", a, b, got)
			}
			met := meet.told()
			if !want {
				met, apart = api.Tnum{}, apart+1
			}
			if got, ok := tnum.Meet(a, b); got != met || ok != want {
				t.Fatalf("Meet(%#x, %#x) is %#x, %v", a, b, got, ok)
			}
		}
	}
	if apart == 0 || apart == len(l)*len(l) {
		t.Error("Meet was asked of one kind of pair alone")
	}
}

// P3.2: a Meet of what has nothing in common is zero and false, wherever the bit is that differs.
func TestMeetNothing(t *testing.T) {
	for bit := range 64 {
		a := api.Tnum{Value: 1 << bit, Mask: even &^ (1 << bit)}
		b := api.Tnum{Mask: odd &^ (1 << bit)}
		if got, ok := tnum.Meet(a, b); ok || got != (api.Tnum{}) {
			t.Errorf("Meet(%#x, %#x) is %#x, %v", a, b, got, ok)
		}
		if got, ok := tnum.Meet(b, a); ok || got != (api.Tnum{}) {
			t.Errorf("Meet(%#x, %#x) is %#x, %v", b, a, got, ok)
		}
	}
}

// P3.3, P3.4, P3.6: each operation on any two edges is what its bits say.
func TestOperationsBits(t *testing.T) {
	l := edges()
	for _, op := range operations {
		t.Run(op.name, func(t *testing.T) {
			for _, a := range l {
				for _, b := range l {
					if got, want := op.told(a, b), op.want(a, b); got != want {
						t.Fatalf("%s(%#x, %#x) is %#x, want %#x", op.name, a, b, got, want)
					}
				}
			}
		})
	}
}

// P3.3, P3.6: the chapter's formulas, worked out by hand, where sums and products go over 64 bits.
func TestOperationsByHand(t *testing.T) {
	for i, x := range []struct {
		told func(a, b api.Tnum) api.Tnum
		a, b api.Tnum
		want api.Tnum
	}{
		{tnum.Add, tnum.Of(all), tnum.Of(1), tnum.Of(0)},
		{tnum.Add, tnum.Of(all), api.Tnum{Mask: 1}, api.Tnum{Mask: all}},
		{tnum.Add, api.Tnum{Mask: top}, api.Tnum{Mask: top}, api.Tnum{Mask: top}},
		{tnum.Add, api.Tnum{Value: 1, Mask: top}, tnum.Of(top), api.Tnum{Value: 1, Mask: top}},
		{tnum.Add, tnum.Any(), tnum.Of(3), tnum.Any()},
		{tnum.Add, api.Tnum{Value: 4, Mask: 3}, api.Tnum{Value: 1, Mask: 6}, api.Tnum{Mask: 15}},
		{tnum.Sub, tnum.Of(0), tnum.Of(1), tnum.Of(all)},
		{tnum.Sub, tnum.Of(0), api.Tnum{Mask: 1}, api.Tnum{Mask: all}},
		{tnum.Sub, tnum.Of(8), api.Tnum{Mask: 1}, api.Tnum{Mask: 15}},
		{tnum.Sub, api.Tnum{Mask: 8}, tnum.Of(8), api.Tnum{Mask: all &^ 7}},
		{tnum.Sub, api.Tnum{Value: 8, Mask: 4}, tnum.Of(4), api.Tnum{Mask: 12}},
		{tnum.Sub, tnum.Of(0), api.Tnum{Mask: top}, api.Tnum{Mask: top}},
		{tnum.Mul, tnum.Of(all), tnum.Of(all), tnum.Of(1)},
		{tnum.Mul, api.Tnum{Mask: top}, tnum.Of(3), api.Tnum{Mask: top}},
		{tnum.Mul, tnum.Of(3), api.Tnum{Mask: top}, api.Tnum{Mask: top}},
		{tnum.Mul, tnum.Of(2), api.Tnum{Mask: top}, tnum.Of(0)},
		{tnum.Mul, api.Tnum{Mask: top}, api.Tnum{Mask: top}, tnum.Of(0)},
		{tnum.Mul, api.Tnum{Value: 1, Mask: top}, api.Tnum{Value: 1, Mask: top}, api.Tnum{Value: 1, Mask: top}},
		{tnum.Mul, api.Tnum{Mask: 1}, tnum.Of(all), api.Tnum{Mask: all}},
		{tnum.Mul, tnum.Any(), tnum.Of(0), tnum.Of(0)},
		{tnum.Mul, tnum.Of(0), tnum.Any(), tnum.Of(0)},
		{tnum.Mul, tnum.Any(), tnum.Of(8), api.Tnum{Mask: all &^ 7}},
		{tnum.Mul, tnum.Of(3), api.Tnum{Mask: 1}, api.Tnum{Mask: 3}},
		{tnum.Mul, api.Tnum{Mask: 1}, tnum.Of(5), api.Tnum{Mask: 5}},
		{tnum.Mul, tnum.Of(5), api.Tnum{Mask: 1}, api.Tnum{Mask: 5}},
		{tnum.Mul, api.Tnum{Mask: 3}, tnum.Of(3), api.Tnum{Mask: 15}},
		{tnum.Mul, api.Tnum{Value: 1, Mask: 2}, api.Tnum{Value: 2, Mask: 1}, api.Tnum{Mask: 15}},
	} {
		if got := x.told(x.a, x.b); got != x.want {
			t.Errorf("%d: of %#x and %#x %#x is told, want %#x", i, x.a, x.b, got, x.want)
		}
	}
}

// P3.4: each kind of bit with each.
func TestBitsByHand(t *testing.T) {
	a, b := api.Tnum{Value: 0b111000000, Mask: 0b000111000}, api.Tnum{Value: 0b100100100, Mask: 0b010010010}
	for i, x := range []struct{ got, want api.Tnum }{
		{tnum.And(a, b), api.Tnum{Value: 0b100000000, Mask: 0b010110000}},
		{tnum.Or(a, b), api.Tnum{Value: 0b111100100, Mask: 0b000011010}},
		{tnum.Xor(a, b), api.Tnum{Value: 0b001000100, Mask: 0b010111010}},
		{tnum.Join(a, b), api.Tnum{Value: 0b100000000, Mask: 0b011111110}},
	} {
		if x.got != x.want {
			t.Errorf("%d: %#b, want %#b", i, x.got, x.want)
		}
	}
}

// P3.5: a shift by any distance, also below 0, moves bits, and brings in what it must.
func TestShiftsBits(t *testing.T) {
	for _, op := range shifts {
		for _, a := range edges() {
			for _, n := range distances {
				want := moved(a, func(i int) int { return op.from(i, n) })
				if got := op.told(a, n); got != want {
					t.Fatalf("%s(%#x, %d) is %#x, want %#x", op.name, a, n, got, want)
				}
			}
		}
	}
}

// P3.5: shifts worked out by hand.
func TestShiftsByHand(t *testing.T) {
	a := api.Tnum{Value: 4, Mask: 3}
	for i, x := range []struct{ got, want api.Tnum }{
		{tnum.Lsh(a, 0), a},
		{tnum.Lsh(a, 31), api.Tnum{Value: 4 << 31, Mask: 3 << 31}},
		{tnum.Lsh(a, 32), api.Tnum{Value: 4 << 32, Mask: 3 << 32}},
		{tnum.Lsh(a, 63), api.Tnum{Mask: top}},
		{tnum.Lsh(a, 64), a},
		{tnum.Lsh(a, -1), api.Tnum{Mask: top}},
		{tnum.Lsh(a, -63), api.Tnum{Value: 8, Mask: 6}},
		{tnum.Lsh(a, math.MinInt), a},
		{tnum.Rsh(a, 1), api.Tnum{Value: 2, Mask: 1}},
		{tnum.Rsh(a, 64), a},
		{tnum.Rsh(a, -62), api.Tnum{Value: 1}},
		{tnum.Rsh(api.Tnum{Mask: top}, 63), api.Tnum{Mask: 1}},
		{tnum.Rsh(api.Tnum{Mask: top}, -1), api.Tnum{Mask: 1}},
		{tnum.Arsh(tnum.Of(top), 63, 64), tnum.Of(all)},
		{tnum.Arsh(tnum.Of(top), 64, 64), tnum.Of(top)},
		{tnum.Arsh(tnum.Of(top), -1, 64), tnum.Of(all)},
		{tnum.Arsh(api.Tnum{Mask: top}, 62, 64), api.Tnum{Mask: all - 1}},
		{tnum.Arsh(tnum.Of(1<<31), 31, 64), tnum.Of(1)},
		{tnum.Arsh(tnum.Of(1<<31), 31, 32), tnum.Of(1<<32 - 1)},
		{tnum.Arsh(tnum.Of(1<<31), 32, 32), tnum.Of(1 << 31)},
		{tnum.Arsh(tnum.Of(1<<31), -1, 32), tnum.Of(1<<32 - 1)},
		{tnum.Arsh(api.Tnum{Mask: 1 << 31}, 63, 32), api.Tnum{Mask: 1<<32 - 1}},
		{tnum.Arsh(tnum.Of(top|4), 1, 32), tnum.Of(2)},
		{tnum.Arsh(tnum.Of(top|4), 0, 32), tnum.Of(4)},
		{tnum.Arsh(tnum.Any(), 0, 32), api.Tnum{Mask: 1<<32 - 1}},
	} {
		if x.got != x.want {
			t.Errorf("%d: %#x, want %#x", i, x.got, x.want)
		}
	}
}

// P3.5: Arsh of other than 64 or 32 bits tells nothing.
func TestArshOtherBits(t *testing.T) {
	for _, bits := range []int{math.MinInt, -64, -32, -1, 0, 1, 8, 16, 31, 33, 63, 65, 96, 128, 1<<32 + 32, 1<<32 + 64, math.MaxInt} {
		for _, n := range []int{0, 1, 31, 64, -1} {
			for _, a := range []api.Tnum{{}, {Value: 4, Mask: 3}, tnum.Of(all), tnum.Any()} {
				if got := tnum.Arsh(a, n, bits); got != tnum.Any() {
					t.Errorf("Arsh(%#x, %d, %d) is %#x", a, n, bits, got)
				}
			}
		}
	}
}

// P3.5: Cut leaves the lowest bytes, all from 8 on, none below 1.
func TestCut(t *testing.T) {
	for _, a := range edges() {
		for _, bytes := range []int{math.MinInt, -8, -1, 0, 1, 2, 3, 4, 5, 6, 7, 8, 9, 16, 1 << 32, math.MaxInt} {
			want := moved(a, func(i int) int {
				if i/8 < bytes {
					return i
				}
				return -1
			})
			if got := tnum.Cut(a, bytes); got != want {
				t.Errorf("Cut(%#x, %d) is %#x, want %#x", a, bytes, got, want)
			}
			for _, v := range samples(a) {
				if bytes >= 0 && bytes <= 8 && !tnum.In(tnum.Cut(a, bytes), v&(1<<(8*bytes)-1)) {
					t.Errorf("Cut(%#x, %d) has not what is cut of %#x", a, bytes, v)
				}
			}
		}
	}
	a := api.Tnum{Value: 0xf0f0f0f0f0f0f0f0, Mask: 0x0f000f000f000f0f}
	for bytes, want := range map[int]api.Tnum{
		-1: {}, 0: {}, 1: {Value: 0xf0, Mask: 0xf}, 7: {Value: 0xf0f0f0f0f0f0f0, Mask: 0x000f000f000f0f}, 8: a, 9: a,
	} {
		if got := tnum.Cut(a, bytes); got != want {
			t.Errorf("Cut(%#x, %d) is %#x, want %#x", a, bytes, got, want)
		}
	}
}

// P3.7: what is made of any two numbers of small tnums is of what is told.
func TestSoundSmall(t *testing.T) {
	for _, l := range smalls() {
		for _, a := range l {
			for _, b := range l {
				for _, op := range operations {
					told := op.told(a, b)
					for _, v := range members(a) {
						for _, w := range members(b) {
							if !holds(told, op.made(v, w)) {
								t.Fatalf("%s(%#x, %#x) is %#x, and has not what is made of %#x and %#x", op.name, a, b, told, v, w)
							}
						}
					}
				}
			}
		}
	}
}

// P3.7: likewise what is shifted.
func TestSoundShifts(t *testing.T) {
	for _, op := range shifts {
		for _, l := range append(smalls(), edges()) {
			for _, a := range l {
				for _, n := range distances {
					told := op.told(a, n)
					if !mayBe(told) {
						t.Fatalf("%s(%#x, %d) is %#x, which may not be", op.name, a, n, told)
					}
					for _, v := range samples(a) {
						if !tnum.In(told, op.made(v, n)) {
							t.Fatalf("%s(%#x, %d) is %#x, and has not what is made of %#x", op.name, a, n, told, v)
						}
					}
				}
			}
		}
	}
}

// P3.7: what is told of edges may be, and has what is made of some of their numbers.
func TestSoundEdges(t *testing.T) {
	l := edges()
	for _, a := range l {
		for _, b := range l {
			for _, op := range operations {
				told := op.told(a, b)
				if !mayBe(told) {
					t.Fatalf("%s(%#x, %#x) is %#x, which may not be", op.name, a, b, told)
				}
				for _, v := range samples(a) {
					for _, w := range samples(b) {
						if !tnum.In(told, op.made(v, w)) {
							t.Fatalf("%s(%#x, %#x) is %#x, and has not what is made of %#x and %#x", op.name, a, b, told, v, w)
						}
					}
				}
			}
			if met, _ := tnum.Meet(a, b); !mayBe(met) || !mayBe(tnum.Join(a, b)) {
				t.Fatalf("Meet or Join of %#x and %#x may not be", a, b)
			}
		}
	}
}

// P3.7: of numbers alone it is the number alone.
func TestNumbersAlone(t *testing.T) {
	for _, v := range numbers {
		for _, w := range numbers {
			for _, op := range operations {
				if got, want := op.told(tnum.Of(v), tnum.Of(w)), tnum.Of(op.made(v, w)); got != want {
					t.Errorf("%s(Of(%#x), Of(%#x)) is %#x, want %#x", op.name, v, w, got, want)
				}
			}
		}
		for _, op := range shifts {
			for _, n := range distances {
				if got, want := op.told(tnum.Of(v), n), tnum.Of(op.made(v, n)); got != want {
					t.Errorf("%s(Of(%#x), %d) is %#x, want %#x", op.name, v, n, got, want)
				}
			}
		}
		if got, want := tnum.Cut(tnum.Of(v), 4), tnum.Of(uint64(uint32(v))); got != want {
			t.Errorf("Cut(Of(%#x), 4) is %#x, want %#x", v, got, want)
		}
	}
}

// P3.8: Join has both, and is within all that have both.
func TestJoinIsLeast(t *testing.T) {
	l := small(0, 31, 63)
	for _, a := range l {
		for _, b := range l {
			join := tnum.Join(a, b)
			both := append(members(a), members(b)...)
			for _, v := range both {
				if !holds(join, v) {
					t.Errorf("Join(%#x, %#x) has no %#x", a, b, v)
				}
			}
			for _, c := range append(l, tnum.Any()) {
				hasBoth, hasJoin := true, true
				for _, v := range both {
					hasBoth = hasBoth && holds(c, v)
				}
				for _, v := range members(join) {
					hasJoin = hasJoin && holds(c, v)
				}
				if hasBoth && !hasJoin {
					t.Errorf("Join(%#x, %#x) is %#x, but %#x is less", a, b, join, c)
				}
			}
		}
	}
}

// P3.8: Meet has just what both have; where it is false, that is nothing.
func TestMeetIsBoth(t *testing.T) {
	for _, l := range smalls() {
		every := members(l[len(l)-1]) // the last of small knows none of its bits
		if len(every) != 16 {
			t.Fatalf("%d numbers are gone through", len(every))
		}
		for _, a := range l {
			for _, b := range l {
				met, ok := tnum.Meet(a, b)
				some := false
				for _, v := range every {
					both := holds(a, v) && holds(b, v)
					some = some || both
					if (ok && holds(met, v)) != both {
						t.Errorf("Meet(%#x, %#x) is %#x, %v: %#x", a, b, met, ok, v)
					}
				}
				if ok != some {
					t.Errorf("Meet(%#x, %#x) is %v", a, b, ok)
				}
			}
		}
	}
}

// The chapter's examples.
func TestExamples(t *testing.T) {
	for i, x := range []struct{ got, want api.Tnum }{
		{tnum.Add(api.Tnum{Value: 4, Mask: 2}, api.Tnum{Mask: 1}), api.Tnum{Value: 4, Mask: 3}},
		{tnum.Add(api.Tnum{Mask: 1}, api.Tnum{Value: 1}), api.Tnum{Mask: 3}},
		{tnum.Mul(api.Tnum{Mask: 2}, api.Tnum{Value: 3}), api.Tnum{Mask: 6}},
		{tnum.Mul(tnum.Of(6), tnum.Of(7)), api.Tnum{Value: 42}},
		{tnum.Join(api.Tnum{Value: 4}, api.Tnum{Value: 6}), api.Tnum{Value: 4, Mask: 2}},
	} {
		if x.got != x.want {
			t.Errorf("%d: %#x, want %#x", i, x.got, x.want)
		}
	}
	if m, ok := tnum.Meet(api.Tnum{Value: 4, Mask: 3}, api.Tnum{Value: 1, Mask: 6}); !ok || m != (api.Tnum{Value: 5, Mask: 2}) {
		t.Errorf("Meet is %#x, %v", m, ok)
	}
	if m, ok := tnum.Meet(api.Tnum{Value: 4, Mask: 3}, api.Tnum{Mask: 3}); ok || m != (api.Tnum{}) {
		t.Errorf("Meet is %#x, %v", m, ok)
	}
	if !tnum.Within(api.Tnum{Value: 4}, tnum.Join(api.Tnum{Value: 4}, api.Tnum{Value: 6})) {
		t.Error("Within is false")
	}
}

// R1: also of tnums that may not be every call answers.
func TestNothingPanics(t *testing.T) {
	for _, a := range []api.Tnum{{Value: all, Mask: all}, {Value: top, Mask: top}, {Value: 3, Mask: 1}} {
		for _, b := range []api.Tnum{a, {}, tnum.Any(), tnum.Of(all)} {
			for _, op := range operations {
				op.told(a, b)
				op.told(b, a)
			}
			tnum.Meet(a, b)
			tnum.Join(a, b)
			tnum.Within(a, b)
			tnum.In(a, b.Value)
		}
		for _, n := range distances {
			for _, op := range shifts {
				op.told(a, n)
			}
			tnum.Cut(a, n)
			tnum.Arsh(a, n, n)
		}
	}
}
