package scalar_test

import (
	"testing"

	"lockgate/api"
	"lockgate/scalar"
	"lockgate/word"
)

// about is numbers next to the ends of 0, 31, 32, 63 and 64 bits, and some beside.
func about() []uint64 {
	l := []uint64{12, 255, 256, 1<<40 + 5, 3 << 40}
	for _, end := range []uint64{0, 1 << 31, 1 << 32, top} {
		for n := range uint64(16) {
			l = append(l, end+n-8)
		}
	}
	return l
}

// of is those numbers that a scalar has.
func of(x api.Scalar, numbers []uint64) []uint64 {
	var l []uint64
	for _, v := range numbers {
		if scalar.In(x, v) {
			l = append(l, v)
		}
	}
	return l
}

// group is a scalar and numbers of it.
type group struct {
	x       api.Scalar
	numbers []uint64
}

func groups(l []api.Scalar) []group {
	var out []group
	for _, x := range l {
		if numbers := of(x, about()); len(numbers) > 0 {
			out = append(out, group{x, numbers})
		}
	}
	return out
}

// small is scalars of numbers of three bits, settled and not: all that they have are among about.
func small() []api.Scalar {
	var l []api.Scalar
	for i, x := range threeBits() {
		if i%17 != 0 {
			continue
		}
		l = append(l, x)
		if y, ok := wantNorm(x); ok {
			l = append(l, y)
		}
	}
	return l
}

// threeBits is each T and each U of three bits, with some S.
func threeBits() []api.Scalar {
	var l []api.Scalar
	for _, s := range []api.S{anyS, {Lo: -1, Hi: 5}, {Lo: 2, Hi: most}} {
		for n := range uint64(64) {
			t := api.Tnum{Value: n % 8, Mask: n / 8}
			for m := range uint64(64) {
				u := api.U{Lo: m % 8, Hi: m / 8}
				if x := (api.Scalar{T: t, U: u, S: s}); mayBe(x) {
					l = append(l, x)
				}
			}
		}
	}
	return l
}

// astride is scalars of two numbers, and whatever is between them, on both sides of an end, or far from each other.
func astride() []api.Scalar {
	pairs := [][2]uint64{
		{1<<31 - 1, 1 << 31}, {half, 1 << 32}, {top - 1, top}, {all, 0}, {all - 1, 2}, {1<<31 - 3, 1<<31 + 4}, {half - 1, 1<<32 + 3}, {top - 2, top + 3},
		{0, half}, {5, 1<<32 + 5}, {1, top + 1}, {0, 1 << 31}, {all - 7, all}, {top, top + 7}, {top - 8, top - 1}, {1<<32 - 8, half}, {255, 256}, {12, 3 << 40},
	}
	var l []api.Scalar
	for _, p := range pairs {
		l = append(l, scalar.Join(number(p[0]), number(p[1])), number(p[0]))
	}
	return l
}

// sound goes through each two scalars, each with each.
func sound(l []api.Scalar, check func(a, b group)) {
	g := groups(l)
	for _, a := range g {
		for _, b := range g {
			check(a, b)
		}
	}
}

func soundAlu(t *testing.T, a, b group) {
	for _, op := range operations {
		for _, wide := range []bool{true, false} {
			x := scalar.Alu(op, wide, a.x, b.x)
			for _, v := range a.numbers {
				for _, w := range b.numbers {
					if made, _ := word.Alu(op, wide, v, w); !scalar.In(x, made) {
						t.Fatal(op, wide, a.x, b.x, v, w, made, x)
					}
				}
			}
		}
	}
}

func soundBranch(t *testing.T, a, b group) {
	for _, op := range comparisons {
		for way := range 4 {
			wide, taken := way&1 == 0, way&2 == 0
			x, y, ok := scalar.Branch(op, wide, taken, a.x, b.x)
			for _, v := range a.numbers {
				for _, w := range b.numbers {
					is, _ := word.Jump(op, wide, v, w)
					if is == taken && (!ok || !scalar.In(x, v) || !scalar.In(y, w)) {
						t.Fatal(op, wide, taken, a.x, b.x, v, w, x, y, ok)
					}
				}
			}
		}
	}
}

func TestSoundSmall(t *testing.T) {
	sound(small(), func(a, b group) {
		soundAlu(t, a, b)
		soundBranch(t, a, b)
	})
}

func TestSoundAboutEnds(t *testing.T) {
	l := append(astride(), scalar.Any(), scalar.Upto(1), scalar.Upto(4), onlyU(1<<31-2, 1<<31-1), onlyS(-2, 1), onlyT(1, all-1), onlyT(0, top+1), onlyS(0, most), onlyS(least, -1))
	sound(l, func(a, b group) {
		soundAlu(t, a, b)
		soundBranch(t, a, b)
	})
}

// TestSoundAlone: what is known of one scalar.
func TestSoundAlone(t *testing.T) {
	for _, g := range groups(append(append(raw(), small()...), astride()...)) {
		x, ok := scalar.Norm(g.x)
		for _, v := range g.numbers {
			if !ok || !scalar.In(x, v) {
				t.Fatal(g.x, v, x, ok)
			}
		}
		for _, bits := range []int{16, 32, 64} {
			for _, high := range []bool{true, false} {
				x := scalar.Swap(bits, high, g.x)
				for _, v := range g.numbers {
					if made, _ := word.Swap(bits, high, v); !scalar.In(x, made) || !mayBe(x) {
						t.Fatal(bits, high, g.x, v, made, x)
					}
				}
			}
		}
		if v, is := scalar.Is(g.x); is && (len(g.numbers) != 1 || g.numbers[0] != v) {
			t.Fatal(g.x, v, g.numbers)
		}
	}
}

// TestSoundJoin: Join has what either has, and Within's numbers are all there.
func TestSoundJoin(t *testing.T) {
	sound(append(small(), astride()...), func(a, b group) {
		x := scalar.Join(a.x, b.x)
		within := scalar.Within(a.x, b.x)
		if !scalar.Within(a.x, x) || !scalar.Within(b.x, x) || !mayBe(x) {
			t.Fatal(a.x, b.x, x)
		}
		for _, v := range a.numbers {
			if !scalar.In(x, v) || within && !scalar.In(b.x, v) {
				t.Fatal(a.x, b.x, v, x)
			}
		}
	})
}
