package scalar

import (
	"lockgate/api"
	"lockgate/span"
	"lockgate/tnum"
	"lockgate/word"
)

// lesson is what a and b may be where something is so of them; false: it can't be so. It is not settled.
type lesson func(a, b api.Scalar) (api.Scalar, api.Scalar, bool)

// jump is what is learnt where it is done, and where it is not.
type jump struct{ taken, passed lesson }

// jumps has of each jump that two numbers decide what is learnt of them. Below is above with a and b the other way round; not below is above, or alike.
func jumps() map[int]jump {
	above, from := higher(1), higher(0)
	signedAbove, signedFrom := higherSigned(1), higherSigned(0)
	return map[int]jump{
		api.Jeq:  {taken: same, passed: different},
		api.Jne:  {taken: different, passed: same},
		api.Jgt:  {taken: above, passed: turned(from)},
		api.Jge:  {taken: from, passed: turned(above)},
		api.Jlt:  {taken: turned(above), passed: from},
		api.Jle:  {taken: turned(from), passed: above},
		api.Jsgt: {taken: signedAbove, passed: turned(signedFrom)},
		api.Jsge: {taken: signedFrom, passed: turned(signedAbove)},
		api.Jslt: {taken: turned(signedAbove), passed: signedFrom},
		api.Jsle: {taken: turned(signedFrom), passed: signedAbove},
		api.Jset: {taken: nothing, passed: disjoint},
	}
}

func lessonOf(op int, taken bool) lesson {
	j := jumps()[op]
	if taken {
		return j.taken
	}
	return j.passed
}

// where is both, if they may be there; nothing is told of what can't be.
func where(may bool, a, b api.Scalar) (api.Scalar, api.Scalar, bool) {
	if !may {
		return api.Scalar{}, api.Scalar{}, false
	}
	return a, b, true
}

// decided tells whether a jump is done; false: not of numbers that are not known.
func decided(op int, wide bool, a, b api.Scalar) (bool, bool) {
	v, aloneA := Is(a)
	w, aloneB := Is(b)
	if !aloneA || !aloneB {
		return false, false
	}
	return word.Jump(op, wide, v, w)
}

// plain tells whether a narrow jump is as a wide one: then nothing stands above the lowest 32 bits, and no sign at their bit 31.
func plain(op int, a, b api.Scalar) bool {
	if !Within(a, Upto(4)) || !Within(b, Upto(4)) {
		return false
	}
	return !signed(op) || a.U.Hi < 1<<31 && b.U.Hi < 1<<31
}

func signed(op int) bool {
	return op == api.Jsgt || op == api.Jsge || op == api.Jslt || op == api.Jsle
}

func nothing(a, b api.Scalar) (api.Scalar, api.Scalar, bool) {
	return a, b, true
}

func turned(l lesson) lesson {
	return func(a, b api.Scalar) (api.Scalar, api.Scalar, bool) {
		b, a, some := l(b, a)
		return a, b, some
	}
}

func same(a, b api.Scalar) (api.Scalar, api.Scalar, bool) {
	t, someT := tnum.Meet(a.T, b.T)
	u, someU := span.UMeet(a.U, b.U)
	s, someS := span.SMeet(a.S, b.S)
	x := api.Scalar{T: t, U: u, S: s}
	return x, x, someT && someU && someS
}

// different learns only at ends: what is taken away amid a span leaves no span.
func different(a, b api.Scalar) (api.Scalar, api.Scalar, bool) {
	v, aloneA := Is(a)
	w, aloneB := Is(b)
	if aloneB {
		a = without(a, w)
	}
	if aloneA {
		b = without(b, v)
	}
	return a, b, true
}

func disjoint(a, b api.Scalar) (api.Scalar, api.Scalar, bool) {
	v, aloneA := Is(a)
	w, aloneB := Is(b)
	someA, someB := true, true
	if aloneB {
		a.T, someA = tnum.Meet(a.T, api.Tnum{Mask: ^w})
	}
	if aloneA {
		b.T, someB = tnum.Meet(b.T, api.Tnum{Mask: ^v})
	}
	return a, b, someA && someB
}

// higher learns that a is above b by gap at least.
func higher(gap uint64) lesson {
	return func(a, b api.Scalar) (api.Scalar, api.Scalar, bool) {
		u, v, some := apart(ends[uint64](a.U), ends[uint64](b.U), gap)
		a.U, b.U = api.U(u), api.U(v)
		return a, b, some
	}
}

// higherSigned is as higher, with a sign.
func higherSigned(gap int64) lesson {
	return func(a, b api.Scalar) (api.Scalar, api.Scalar, bool) {
		s, t, some := apart(ends[int64](a.S), ends[int64](b.S), gap)
		a.S, b.S = api.S(s), api.S(t)
		return a, b, some
	}
}

// without takes a number away from a scalar that is not alone, so that its spans have two ends.
func without(x api.Scalar, v uint64) api.Scalar {
	x.U = api.U(except(ends[uint64](x.U), v))
	x.S = api.S(except(ends[int64](x.S), int64(v)))
	return x
}

// ends is api.U or api.S: both learn alike from comparisons.
type ends[N uint64 | int64] struct{ Lo, Hi N }

// apart is the ends of which high is above low by gap at least; false: an end goes over, or nothing is left between ends.
func apart[N uint64 | int64](high, low ends[N], gap N) (ends[N], ends[N], bool) {
	least, most := low.Lo+gap, high.Hi-gap
	over := least < low.Lo || most > high.Hi
	high.Lo, low.Hi = max(high.Lo, least), min(low.Hi, most)
	return high, low, !over && high.Lo <= high.Hi && low.Lo <= low.Hi
}

func except[N uint64 | int64](x ends[N], v N) ends[N] {
	switch v {
	case x.Lo:
		x.Lo++
	case x.Hi:
		x.Hi--
	}
	return x
}
