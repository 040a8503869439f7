package scalar

import (
	"lockgate/api"
	"lockgate/span"
	"lockgate/tnum"
	"lockgate/word"
)

// parts is what an operation makes of each part; nil: all numbers.
type parts struct {
	t func(a, b api.Tnum) api.Tnum
	u func(a, b api.U) api.U
	s func(a, b api.S) api.S
}

// pairs is the operations that take two numbers alike.
func pairs() map[int]parts {
	return map[int]parts{
		api.Add: {t: tnum.Add, u: span.UAdd, s: span.SAdd},
		api.Sub: {t: tnum.Sub, u: span.USub, s: span.SSub},
		api.Mul: {t: tnum.Mul, u: span.UMul},
		api.Div: {u: span.UDiv},
		api.Mod: {u: span.UMod},
		api.Or:  {t: tnum.Or, u: span.UOr},
		api.And: {t: tnum.And, u: span.UAnd},
		api.Xor: {t: tnum.Xor},
	}
}

// shifts is the operations that move a number by a distance that is known.
func shifts(wide bool, n int) map[int]parts {
	arsh := parts{t: by(n, arsh32), u: by(n, down31)}
	if wide {
		arsh = parts{t: by(n, arsh64), s: by(n, span.SArsh)}
	}
	return map[int]parts{
		api.Lsh:  {t: by(n, tnum.Lsh), u: by(n, span.ULsh)},
		api.Rsh:  {t: by(n, tnum.Rsh), u: by(n, span.URsh)},
		api.Arsh: arsh,
	}
}

// partsOf is none, so that all are told, of a shift whose distance is not known.
func partsOf(op int, wide bool, b api.Scalar) parts {
	if p, pair := pairs()[op]; pair {
		return p
	}
	n, alone := Is(b)
	if !alone {
		return parts{}
	}
	return shifts(wide, distance(wide, n))[op]
}

// of is not settled: each part is worked out from its like alone.
func (p parts) of(a, b api.Scalar) api.Scalar {
	x := Any()
	if p.t != nil {
		x.T = p.t(a.T, b.T)
	}
	if p.u != nil {
		x.U = p.u(a.U, b.U)
	}
	if p.s != nil {
		x.S = p.s(a.S, b.S)
	}
	return x
}

// by makes an operation on two parts of a shift, whose distance is no part.
func by[P api.Tnum | api.U | api.S](n int, shift func(P, int) P) func(a, b P) P {
	return func(a, _ P) P {
		return shift(a, n)
	}
}

func distance(wide bool, n uint64) int {
	if wide {
		return int(n % 64)
	}
	return int(n % 32)
}

func arsh64(t api.Tnum, n int) api.Tnum {
	return tnum.Arsh(t, n, 64)
}

func arsh32(t api.Tnum, n int) api.Tnum {
	return tnum.Arsh(t, n, 32)
}

// down31 is a narrow shift with a sign: as one without, as long as no number has bit 31.
func down31(u api.U, n int) api.U {
	if u.Hi < 1<<31 {
		return span.URsh(u, n)
	}
	return span.UAll()
}

// made is the number that an operation makes, if those on which it hangs are alone: of Mov a is none of them, of Neg b.
func made(op int, wide bool, a, b api.Scalar) (uint64, bool) {
	v, aloneA := Is(a)
	w, aloneB := Is(b)
	if !aloneA && op != api.Mov || !aloneB && op != api.Neg {
		return 0, false
	}
	return word.Alu(op, wide, v, w)
}
