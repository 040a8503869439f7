package phase_test

import (
	"math"
	"math/big"
	"math/rand"
	"slices"
	"testing"

	"lockgate/phase"
)

// written is a beat that was written at these times, in their order.
func written(l ...int) phase.Beat {
	b := phase.New()
	for _, t := range l {
		b = b.Write(t)
	}
	return b
}

// wantSway is P7.2, by counts: times of a kind modulo 4 lead against those of the kind two behind it.
func wantSway(l []int) int {
	var n [4]int
	for _, t := range l {
		n[(t%4+4)%4]++
	}
	return max(n[0]-n[2], n[2]-n[0]) + max(n[1]-n[3], n[3]-n[1])
}

// border is from which time on a beat of three writes or more is steady: a true number.
func border(l []int) *big.Int {
	n := big.NewInt(int64(l[len(l)-1]))
	return n.Add(n, big.NewInt(int64(4+len(l)-wantSway(l))))
}

// wantSteady is P7.3, by true numbers.
func wantSteady(l []int, now int) bool {
	return len(l) < 3 || big.NewInt(int64(now)).Cmp(border(l)) >= 0
}

// about is a true number and its neighbours, where they are ints.
func about(n *big.Int) []int {
	var l []int
	for d := int64(-2); d <= 2; d++ {
		if x := new(big.Int).Add(n, big.NewInt(d)); x.IsInt64() {
			l = append(l, int(x.Int64()))
		}
	}
	return l
}

// moments is when a beat is asked: about its last time and its border, about 0, and about the ends of int.
func moments(l []int) []int {
	m := []int{math.MinInt, math.MinInt + 1, math.MinInt / 2, -1, 0, 1, math.MaxInt / 2, math.MaxInt - 1, math.MaxInt}
	if len(l) > 0 {
		m = append(m, about(big.NewInt(int64(l[len(l)-1])))...)
		m = append(m, about(border(l))...)
	}
	slices.Sort(m)
	return m
}

// check holds a beat against the chapter's words, P7.4's bounds, and P7.5 from each moment to the next.
func check(t *testing.T, b phase.Beat, l []int) {
	t.Helper()
	sway := b.Sway()
	if b.Writes() != len(l) || sway != wantSway(l) {
		t.Errorf("written at %v: Writes %d, Sway %d, want %d, %d", l, b.Writes(), sway, len(l), wantSway(l))
	}
	if sway < 0 || sway > b.Writes() || (b.Writes()-sway)%2 != 0 {
		t.Errorf("written at %v: Sway %d of %d", l, sway, b.Writes())
	}
	was := false
	for _, now := range moments(l) {
		is := b.Steady(now)
		if is != wantSteady(l, now) || was && !is {
			t.Errorf("written at %v: Steady of %d is %v, and was %v", l, now, is, was)
		}
		was = is
	}
}

// each calls f with all lists of n of some times.
func each(times []int, n int, f func(l []int)) {
	l := make([]int, n)
	var fill func(i int)
	fill = func(i int) {
		if i == n {
			f(l)
			return
		}
		for _, l[i] = range times {
			fill(i + 1)
		}
	}
	fill(0)
}

// The chapter's examples, row by row.
func TestExamples(t *testing.T) {
	if !phase.New().Steady(0) {
		t.Error("never written")
	}
	if b := written(4, 8, 12); b.Sway() != 3 || b.Steady(15) || !b.Steady(16) {
		t.Error("4, 8, 12:", b.Sway(), b.Steady(15), b.Steady(16))
	}
	if b := written(1, 2, 3, 4); b.Sway() != 0 || b.Steady(11) || !b.Steady(12) {
		t.Error("1, 2, 3, 4:", b.Sway(), b.Steady(11), b.Steady(12))
	}
}

// P7.1 to P7.3, with numbers written out: the first time at which it is steady is told, where it is not so always.
func TestRows(t *testing.T) {
	for _, x := range []struct {
		l     []int
		sway  int
		first int
	}{
		{[]int{0, 0, 0}, 3, 4},
		{[]int{1, 1, 1}, 3, 5},
		{[]int{2, 2, 2}, 3, 6},
		{[]int{3, 3, 3}, 3, 7},
		{[]int{-1, -1, -1}, 3, 3},
		{[]int{-5, -1, 3}, 3, 7},
		{[]int{0, 1, 2}, 1, 8},
		{[]int{2, 1, 0}, 1, 6},
		{[]int{0, 1, 1}, 3, 5},
		{[]int{0, 3, 3}, 3, 7},
		{[]int{1, 2, 2}, 3, 6},
		{[]int{0, 2, 1, 3}, 0, 11},
		{[]int{9, 11, 9, 11}, 0, 19},
		{[]int{9, 9, 11, 9}, 2, 15},
		{[]int{4, 8, 12, 14}, 2, 20},
		{[]int{-1, -2, -3, -4}, 0, 4},
		{[]int{100, 50, -7}, 1, -1},
		{[]int{10, 20, 30, 40, 50, 60}, 0, 70},
		{[]int{10, 21, 30, 41, 50, 61}, 6, 65},
	} {
		b := written(x.l...)
		if b.Writes() != len(x.l) || b.Sway() != x.sway || b.Steady(x.first-1) || !b.Steady(x.first) || !b.Steady(x.first+1) {
			t.Errorf("%v: Writes %d, Sway %d, Steady %v, %v, %v", x.l, b.Writes(), b.Sway(), b.Steady(x.first-1), b.Steady(x.first), b.Steady(x.first+1))
		}
		check(t, b, x.l)
	}
}

// P7.1, P7.3: what was never, once or twice written is steady whenever it is asked; written three times it is not.
func TestFew(t *testing.T) {
	times := []int{math.MinInt, math.MinInt + 1, -3, 0, 1, 2, 7, math.MaxInt - 1, math.MaxInt}
	check(t, phase.New(), nil)
	for _, now := range times {
		if !phase.New().Steady(now) {
			t.Error("never written: Steady of", now)
		}
	}
	for n := 1; n < 3; n++ {
		each(times, n, func(l []int) {
			b := written(l...)
			for _, now := range times {
				if !b.Steady(now) {
					t.Error(l, "Steady of", now)
				}
			}
			check(t, b, l)
		})
	}
	each(times, 3, func(l []int) {
		b := written(l...)
		if b.Steady(l[2]) || b.Steady(math.MinInt) {
			t.Error(l, "Steady of its last time, or of the least")
		}
		check(t, b, l)
	})
}

// P7.1 to P7.5: up to five writes at times of each kind, begun at 0, astride 0, below it, and at the ends of int.
func TestKinds(t *testing.T) {
	for _, from := range []int{0, 1, 2, 3, -1, -2, -3, -4, 1 << 31, -1 << 31, 1<<62 - 1, math.MinInt, math.MinInt + 1, math.MaxInt - 4, math.MaxInt - 3} {
		for n := range 6 {
			each([]int{from, from + 1, from + 2, from + 3}, n, func(l []int) { check(t, written(l...), l) })
		}
	}
}

// P7.3: written about the ends of int, and asked about them: differences and sums that go over.
func TestEnds(t *testing.T) {
	const most, least = math.MaxInt, math.MinInt
	for i, x := range []struct {
		l   []int
		now int
		is  bool
	}{
		{[]int{least, least, least}, most, true},
		{[]int{least, least, least}, -1, true},
		{[]int{least, least, least}, 0, true},
		{[]int{least, least, least}, least, false},
		{[]int{least, least, least}, least + 3, false},
		{[]int{least, least, least}, least + 4, true},
		{[]int{least, least + 1, least + 2}, least + 7, false},
		{[]int{least, least + 1, least + 2}, least + 8, true},
		{[]int{most, most, most}, most, false},
		{[]int{most, most, most}, least, false},
		{[]int{most, most, most}, least + 4, false},
		{[]int{most, most, most}, 0, false},
		{[]int{most, most, most - 4}, most - 1, false},
		{[]int{most, most, most - 4}, most, true},
		{[]int{most - 7, most - 6, most - 5}, most, false},
		{[]int{most - 8, most - 7, most - 6}, most, true},
		{[]int{0, 0, most}, most, false},
		{[]int{0, 0, most}, least, false},
		{[]int{0, 0, least}, most, true},
		{[]int{-1, -1, -1}, most, true},
		{[]int{-1, -1, -1}, least, false},
		{[]int{1, 1, 1}, least, false},
		{[]int{1, 1, 1}, most, true},
	} {
		b := written(x.l...)
		if b.Steady(x.now) != x.is {
			t.Errorf("%d: written at %v: Steady of %d is %v", i, x.l, x.now, !x.is)
		}
		check(t, b, x.l)
	}
	times := []int{least, least + 1, least + 2, least + 3, -1, 0, 1, most - 6, most - 3, most - 2, most - 1, most}
	each(times, 4, func(l []int) { check(t, written(l...), l) })
}

// P7.1, P7.3: the last time is the one of the last write, also where that is ahead of another one.
func TestAhead(t *testing.T) {
	b := written(100, 104, 0)
	if b.Sway() != 3 || b.Steady(3) || !b.Steady(4) || !b.Steady(100) {
		t.Error("100, 104, 0:", b.Sway(), b.Steady(3), b.Steady(4))
	}
	if b = b.Write(-8); b.Sway() != 4 || b.Steady(-5) || !b.Steady(-4) || b.Steady(-100) {
		t.Error("and -8:", b.Sway(), b.Steady(-5), b.Steady(-4), b.Steady(-100))
	}
	if b = b.Write(200); b.Steady(0) || b.Steady(203) || !b.Steady(204) {
		t.Error("and 200:", b.Steady(0), b.Steady(203), b.Steady(204))
	}
}

// P7.4: Sway is the same in each order of the times, and wherever their count begins.
func TestOrder(t *testing.T) {
	for _, l := range [][]int{{0, 1, 2, 3, 4}, {4, 4, 5, 6, 9}, {-3, 7, 7, 11, 2}, {1, 2, 1, 2, 2}} {
		want := written(l...).Sway()
		var turn func(i int)
		turn = func(i int) {
			if i == len(l) && written(l...).Sway() != want {
				t.Errorf("%v: Sway is %d, want %d", l, written(l...).Sway(), want)
			}
			for k := i; k < len(l); k++ {
				l[i], l[k] = l[k], l[i]
				turn(i + 1)
				l[i], l[k] = l[k], l[i]
			}
		}
		turn(0)
		for _, from := range []int{-1 << 62, -9, -5, -4, -3, -2, -1, 1, 2, 3, 4, 1 << 20, 1<<62 + 1} {
			b := phase.New()
			for _, x := range l {
				b = b.Write(from + x)
			}
			if b.Sway() != want {
				t.Errorf("%v, begun at %d: Sway is %d, want %d", l, from, b.Sway(), want)
			}
		}
	}
}

// P7.2, P7.4: a time and one that is two behind it lead nowhere together; one that is four behind it leads as far again.
func TestAgainst(t *testing.T) {
	for _, x := range []int{math.MinInt, -7, -6, -5, -4, -1, 0, 1, 2, 3, 1 << 40, math.MaxInt - 4} {
		for _, b := range []phase.Beat{phase.New(), written(1), written(0, 0, 3), written(2, 6, 10, 3, 5)} {
			if got := b.Write(x).Write(x + 2).Sway(); got != b.Sway() {
				t.Errorf("written at %d, and two behind it: Sway is %d, was %d", x, got, b.Sway())
			}
		}
		if got := written(x, x+4).Sway(); got != 2 {
			t.Errorf("written at %d, and four behind it: Sway is %d", x, got)
		}
		if got := written(x, x+1).Sway(); got != 2 {
			t.Errorf("written at %d, and one behind it: Sway is %d", x, got)
		}
	}
}

// P7.5: at all times behind one at which it is steady it is so too, also where it was never so before.
func TestLater(t *testing.T) {
	each([]int{0, 1, 2, 3}, 4, func(l []int) {
		b, was, turns := written(l...), false, 0
		for now := -20; now < 40; now++ {
			is := b.Steady(now)
			if is != was {
				turns++
			}
			was = is
		}
		if turns != 1 || !was {
			t.Errorf("written at %v: it turns %d times, and is %v at last", l, turns, was)
		}
	})
}

// R3, and the chapter's 'Types': what is done with a beat changes no other one.
func TestValues(t *testing.T) {
	lists := [][]int{{}, {1}, {1, 2}, {1, 2, 3}}
	var beats []phase.Beat
	for _, l := range lists {
		beats = append(beats, written(l...))
	}
	copies := slices.Clone(beats)
	for i, b := range beats {
		one, other := b.Write(5), b.Write(6)
		one.Write(7)
		b.Steady(9)
		b.Write(8)
		check(t, one, append(slices.Clone(lists[i]), 5))
		check(t, other, append(slices.Clone(lists[i]), 6))
	}
	copies[3] = copies[3].Write(99)
	for i, b := range beats {
		check(t, b, lists[i])
	}
	check(t, copies[3], []int{1, 2, 3, 99})
	check(t, phase.New(), nil)
}

// P7.2, P7.3: more writes than a number of 24 bits counts: each arrow tells still.
func TestMany(t *testing.T) {
	const n = 1<<24 + 3
	b := phase.New()
	for range n {
		b = b.Write(4)
	}
	if b.Writes() != n || b.Sway() != n || b.Steady(7) || !b.Steady(8) {
		t.Error("at one time:", b.Writes(), b.Sway(), b.Steady(7), b.Steady(8))
	}
	b = b.Write(6).Write(6)
	if b.Sway() != n-2 || b.Steady(13) || !b.Steady(14) {
		t.Error("and twice at 6:", b.Sway(), b.Steady(13), b.Steady(14))
	}
	for i := range n {
		b = b.Write(i)
	}
	// The times from 0 on are of each kind equally often, but for the last three: 0, 1 and 2 modulo 4.
	if b.Writes() != 2*n+2 || b.Sway() != n-1 || b.Steady(n-1+n+6) || !b.Steady(n-1+n+7) {
		t.Error("and at each time:", b.Writes(), b.Sway())
	}
}

// P7.1 to P7.5: times by chance, near each other and far apart, asked after each write.
func TestByChance(t *testing.T) {
	r := rand.New(rand.NewSource(7))
	for range 400 {
		b, l := phase.New(), []int(nil)
		reach := []int{2, 8, 100, math.MaxInt}[r.Intn(4)]
		for range 1 + r.Intn(30) {
			x := r.Intn(reach)
			if r.Intn(3) == 0 {
				x = -x
			}
			b, l = b.Write(x), append(l, x)
			check(t, b, l)
		}
	}
}
