package span

// number is what an end may be: without a sign, or with one.
type number interface {
	uint64 | int64
}

// ends is a span of either sign: what both share is written once.
type ends[N number] struct{ Lo, Hi N }

// unsigned and signed are the ends of api.U and api.S, which turn into them and back by a conversion.
type (
	unsigned = ends[uint64]
	signed   = ends[int64]
)

func alone[N number](a ends[N]) bool {
	return a.Lo == a.Hi
}

func within[N number](a, b ends[N]) bool {
	return b.Lo <= a.Lo && a.Hi <= b.Hi
}

func join[N number](a, b ends[N]) ends[N] {
	return ends[N]{min(a.Lo, b.Lo), max(a.Hi, b.Hi)}
}

func meet[N number](a, b ends[N]) (ends[N], bool) {
	m := ends[N]{max(a.Lo, b.Lo), min(a.Hi, b.Hi)}
	if m.Lo > m.Hi {
		return ends[N]{}, false
	}
	return m, true
}

// add is all, if an end goes over: then the sums between wrap round, and no ends tell them.
func add[N number](a, b, all ends[N]) ends[N] {
	lo, under := sum(a.Lo, b.Lo)
	hi, over := sum(a.Hi, b.Hi)
	if under || over {
		return all
	}
	return ends[N]{lo, hi}
}

// subtract is as add: the least difference takes the most away.
func subtract[N number](a, b, all ends[N]) ends[N] {
	lo, under := difference(a.Lo, b.Hi)
	hi, over := difference(a.Hi, b.Lo)
	if under || over {
		return all
	}
	return ends[N]{lo, hi}
}

// sum tells too whether it wrapped round: only then what is added makes it less, or what is below 0 does not.
func sum[N number](x, y N) (N, bool) {
	s := x + y
	return s, (s < x) != (y < 0)
}

// difference is as sum, the other way round.
func difference[N number](x, y N) (N, bool) {
	d := x - y
	return d, (d > x) != (y < 0)
}

// down leans on the shift of a number with a sign: it lets go downward what is left over.
func down[N number](a ends[N], n int) ends[N] {
	by := distance(n)
	return ends[N]{a.Lo >> by, a.Hi >> by}
}

// distance is n modulo 64: two's complement makes it one from 0 on also of an n below 0.
func distance(n int) uint {
	return uint(n) % 64
}
