package flow_test

import (
	"math"
	"math/rand"
	"slices"
	"testing"

	"lockgate/api"
	"lockgate/flow"
)

const (
	mov  = 0xb7
	wide = 0x18
	jeq  = 0x15
	ja   = 0x05
	call = 0x85
	exit = 0x95
)

// op is an instruction of an operation; jump has a distance too.
func op(o int) api.Insn        { return api.Insn{Op: o} }
func jump(o, off int) api.Insn { return api.Insn{Op: o, Off: off} }

// slot is where the instruction at i begins, and, of the place behind the last one, where it would.
func slot(l []api.Insn, i int) int {
	n := 0
	for _, x := range l[:i] {
		n++
		if x.Op == wide {
			n++
		}
	}
	return n
}

// kind is one of "exit", "ja", "may" (another one that jumps) and "" (one that does not), by the chapter's words.
func kind(x api.Insn) string {
	if c := x.Op & 7; c != 5 && c != 6 {
		return ""
	}
	switch x.Op >> 4 {
	case 9:
		return "exit"
	case 8:
		return ""
	case 0:
		return "ja"
	}
	return "may"
}

// wantTargets is P6.1: every instruction is asked whether it begins where a jump leads to.
func wantTargets(l []api.Insn) ([]int, api.Errno) {
	if len(l) == 0 {
		return nil, api.ErrShort
	}
	if len(l) > 256 {
		return nil, api.ErrMany
	}
	var t []int
	for i, x := range l {
		to := -1
		if k := kind(x); k == "ja" || k == "may" {
			for j := range l {
				if float64(slot(l, j)) == float64(slot(l, i+1))+float64(x.Off) {
					to = j
				}
			}
			if to < 0 {
				return nil, api.ErrJump
			}
		}
		t = append(t, to)
	}
	if k := kind(l[len(l)-1]); k != "exit" && k != "ja" {
		return nil, api.ErrEnd
	}
	return t, api.OK
}

// wantNext is P6.2.
func wantNext(l []api.Insn, t []int, i int) []int {
	if i < 0 || i >= len(l) {
		return nil
	}
	switch kind(l[i]) {
	case "exit":
		return nil
	case "ja":
		return []int{t[i]}
	case "may":
		if t[i] != i+1 {
			return []int{i + 1, t[i]}
		}
	}
	return []int{i + 1}
}

// wantHeads is P6.3: every instruction asks all others.
func wantHeads(l []api.Insn, t []int) []bool {
	is := make([]bool, len(l))
	for i := range l {
		is[i] = slices.Contains(t, i)
	}
	return is
}

// wantReached is P6.3: as many rounds as there are instructions, each of which goes one instruction further.
func wantReached(l []api.Insn, t []int) []bool {
	is := make([]bool, len(l))
	is[0] = true
	for range l {
		for i := range l {
			if is[i] {
				for _, n := range wantNext(l, t, i) {
					is[n] = true
				}
			}
		}
	}
	return is
}

// isInside is P6.4 and P6.5, of what is answered alone.
func isInside(l []api.Insn, t []int, reached []bool) bool {
	from := make([]bool, len(l))
	for i := range l {
		for _, n := range flow.Next(l, t, i) {
			if n < 0 || n >= len(l) || reached[i] && !reached[n] {
				return false
			}
			if reached[i] {
				from[n] = true
			}
		}
	}
	for i := range l {
		if i > 0 && reached[i] && !from[i] {
			return false
		}
	}
	return reached[0]
}

// check holds all calls of a program against the chapter's words, and tells Targets' error.
func check(t *testing.T, name string, l []api.Insn) api.Errno {
	t.Helper()
	kept := slices.Clone(l)
	want, no := wantTargets(l)
	got, e := flow.Targets(l)
	if e != no || !slices.Equal(got, want) || no != api.OK && got != nil {
		t.Errorf("%s: Targets is %v, %d, want %v, %d", name, got, e, want, no)
		return no
	}
	if no != api.OK {
		return no
	}
	for i := -2; i < len(l)+2; i++ {
		if n := flow.Next(l, want, i); !slices.Equal(n, wantNext(l, want, i)) {
			t.Errorf("%s: Next of %d is %v, want %v", name, i, n, wantNext(l, want, i))
		}
	}
	if h := flow.Heads(l, want); !slices.Equal(h, wantHeads(l, want)) {
		t.Errorf("%s: Heads is %v", name, h)
	}
	reached := flow.Reached(l, want)
	if !slices.Equal(reached, wantReached(l, want)) {
		t.Errorf("%s: Reached is %v", name, reached)
	} else if !isInside(l, want, reached) {
		t.Errorf("%s: a way leads outside, or from nowhere", name)
	}
	if !slices.Equal(l, kept) || !slices.Equal(want, got) {
		t.Errorf("%s: what was given in was changed", name)
	}
	return api.OK
}

// The chapter's examples, row by row.
func TestExamples(t *testing.T) {
	for i, x := range []struct {
		l       []api.Insn
		targets []int
		no      api.Errno
		next    []int
		reached []bool
	}{
		{[]api.Insn{op(mov), jump(jeq, 1), op(mov), op(exit)}, []int{-1, 3, -1, -1}, api.OK, []int{2, 3}, []bool{true, true, true, true}},
		{[]api.Insn{op(wide), jump(ja, -3)}, []int{-1, 0}, api.OK, []int{0}, []bool{true, true}},
		{[]api.Insn{jump(ja, 1), op(mov), op(exit)}, []int{2, -1, -1}, api.OK, []int{2}, []bool{true, false, true}},
		{[]api.Insn{op(wide), jump(ja, -2)}, nil, api.ErrJump, nil, nil},
		{[]api.Insn{jump(jeq, 0), op(exit)}, []int{1, -1}, api.OK, nil, []bool{true, true}},
		{nil, nil, api.ErrShort, nil, nil},
		{[]api.Insn{op(mov)}, nil, api.ErrEnd, nil, nil},
		{[]api.Insn{jump(jeq, -1)}, nil, api.ErrEnd, nil, nil},
	} {
		got, no := flow.Targets(x.l)
		if no != x.no || !slices.Equal(got, x.targets) {
			t.Errorf("%d: Targets is %v, %d", i, got, no)
		}
		if no != api.OK {
			continue
		}
		if n := flow.Next(x.l, got, 1); !slices.Equal(n, x.next) {
			t.Errorf("%d: Next is %v", i, n)
		}
		if r := flow.Reached(x.l, got); !slices.Equal(r, x.reached) {
			t.Errorf("%d: Reached is %v", i, r)
		}
	}
}

// P6.1: the number of instructions, and which error is told where several would be.
func TestTargetsErrors(t *testing.T) {
	exits := slices.Repeat([]api.Insn{op(exit)}, 257)
	wides := slices.Repeat([]api.Insn{op(wide)}, 256)
	for i, x := range []struct {
		l  []api.Insn
		no api.Errno
	}{
		{nil, api.ErrShort},
		{[]api.Insn{}, api.ErrShort},
		{exits[:1], api.OK},
		{exits[:256], api.OK},
		{exits, api.ErrMany},
		{append(slices.Clone(wides[:255]), op(exit)), api.OK},
		{wides, api.ErrEnd},
		{slices.Repeat([]api.Insn{jump(jeq, 999)}, 257), api.ErrMany},
		{slices.Repeat([]api.Insn{op(mov)}, 257), api.ErrMany},
		{[]api.Insn{jump(ja, 9), op(mov)}, api.ErrJump},
		{[]api.Insn{op(mov), jump(jeq, 0)}, api.ErrJump},
		{[]api.Insn{op(mov), jump(jeq, -1)}, api.ErrEnd},
		{[]api.Insn{op(exit), jump(ja, 0)}, api.ErrJump},
	} {
		if got, no := flow.Targets(x.l); no != x.no || no != api.OK && got != nil {
			t.Errorf("%d: Targets is %v, %d, want %d", i, got, no, x.no)
		}
		check(t, "errors", x.l)
	}
}

// P6.1: what a jump amid others, some of which are wide, leads to, whatever its distance is.
func TestTargetsDistances(t *testing.T) {
	l := []api.Insn{op(wide), op(mov), op(wide), op(mov), op(jeq), op(mov), op(wide), op(wide), op(exit)}
	want := map[int]int{-7: 0, -5: 1, -4: 2, -2: 3, -1: 4, 0: 5, 1: 6, 3: 7, 5: 8}
	offs := []int{math.MinInt, math.MinInt + 1, math.MinInt16 - 1, math.MinInt16, math.MaxInt16, math.MaxInt16 + 1, 1 << 16, 1 << 32, -1 << 32, math.MaxInt - 7, math.MaxInt - 6, math.MaxInt - 1, math.MaxInt}
	for off := -600; off <= 600; off++ {
		offs = append(offs, off)
	}
	for _, off := range offs {
		l[4].Off = off
		got, no := flow.Targets(l)
		to, is := want[off]
		if is != (no == api.OK) || !is && (no != api.ErrJump || got != nil) {
			t.Errorf("%d: Targets is %v, %d", off, got, no)
		} else if is && !slices.Equal(got, []int{-1, -1, -1, -1, to, -1, -1, -1, -1}) {
			t.Errorf("%d: Targets is %v, want %d", off, got, to)
		}
		check(t, "distances", l)
	}
}

// P6.1: the furthest jumps that there are, over as many wide instructions as there may be.
func TestTargetsFar(t *testing.T) {
	l := slices.Repeat([]api.Insn{op(wide)}, 256)
	l[0], l[255] = jump(ja, 508), jump(ja, -510)
	got, no := flow.Targets(l)
	if no != api.OK || got[0] != 255 || got[255] != 0 || got[1] != -1 {
		t.Error("Targets", got, no)
	}
	if check(t, "far", l) != api.OK {
		t.Error("far jumps are refused")
	}
	for _, off := range [][2]int{{507, -510}, {509, -510}, {508, -511}, {508, -508}, {math.MaxInt16, -510}, {508, math.MinInt16}, {math.MaxInt, -510}, {508, math.MinInt}} {
		l[0].Off, l[255].Off = off[0], off[1]
		if check(t, "far", l) != api.ErrJump {
			t.Error("no target is told as one", off)
		}
	}
}

// P6.1, P6.2: each operation that a byte may be, amid others and last: which ones jump is written out here.
func TestOperations(t *testing.T) {
	for o := range 256 {
		class, high := o&7, o>>4
		isJump := class == 5 || class == 6
		may := isJump && high != 8 && high != 9
		l := []api.Insn{op(mov), jump(o, 1), op(mov), op(exit)}
		want, next := []int{-1, -1, -1, -1}, []int{2}
		if may {
			want[1], next = 3, []int{2, 3}
		}
		if isJump && high == 0 {
			next = []int{3}
		}
		if isJump && high == 9 {
			next = nil
		}
		got, no := flow.Targets(l)
		if no != api.OK || !slices.Equal(got, want) {
			t.Errorf("%#x: Targets is %v, %d", o, got, no)
			continue
		}
		if n := flow.Next(l, got, 1); !slices.Equal(n, next) {
			t.Errorf("%#x: Next is %v", o, n)
		}
		check(t, "operation", l)
		end := api.ErrEnd
		if isJump && (high == 0 || high == 9) {
			end = api.OK
		}
		if _, no := flow.Targets([]api.Insn{op(mov), jump(o, -1)}); no != end {
			t.Errorf("%#x as the last one: %d, want %d", o, no, end)
		}
		check(t, "last", []api.Insn{op(mov), jump(o, -1)})
		check(t, "last, behind the end", []api.Insn{op(mov), jump(o, 0)})
	}
}

// P6.1: what no byte may be is neither a Ja nor a Call nor an Exit.
func TestNoOperation(t *testing.T) {
	for _, o := range []int{-1, -3, -2, 0x105, 0x195, 0x185, 0x118, exit - 256, 1<<40 + exit, math.MinInt, math.MaxInt, math.MinInt + exit} {
		check(t, "amid", []api.Insn{op(mov), jump(o, 0), op(exit)})
		check(t, "last", []api.Insn{op(mov), jump(o, -1)})
	}
}

// P6.2: of each kind; a jump to the one behind it, to itself, back, and ahead.
func TestNext(t *testing.T) {
	l := []api.Insn{op(wide), jump(jeq, 0), jump(jeq, -1), jump(jeq, -3), jump(0x2e, 4), jump(ja, 0), jump(ja, -1), op(call), jump(ja, 1), op(0x7b), op(exit)}
	to, no := flow.Targets(l)
	if no != api.OK || !slices.Equal(to, []int{-1, 2, 2, 1, 9, 6, 6, -1, 10, -1, -1}) {
		t.Fatal("Targets", to, no)
	}
	for i, want := range [][]int{{1}, {2}, {3, 2}, {4, 1}, {5, 9}, {6}, {6}, {8}, {10}, {10}, nil} {
		if n := flow.Next(l, to, i); !slices.Equal(n, want) {
			t.Errorf("Next of %d is %v, want %v", i, n, want)
		}
	}
	for _, i := range []int{math.MinInt, -1, 11, 12, math.MaxInt} {
		if n := flow.Next(l, to, i); len(n) != 0 {
			t.Errorf("Next of %d is %v", i, n)
		}
	}
	check(t, "next", l)
}

// P6.3: loops, what nobody comes to, and what only that leads to.
func TestHeadsAndReached(t *testing.T) {
	for i, x := range []struct {
		l              []api.Insn
		heads, reached []bool
	}{
		{[]api.Insn{op(exit)}, []bool{false}, []bool{true}},
		{[]api.Insn{jump(ja, -1)}, []bool{true}, []bool{true}},
		{[]api.Insn{op(mov), jump(jeq, -2), op(exit)}, []bool{true, false, false}, []bool{true, true, true}},
		{[]api.Insn{op(exit), jump(jeq, 0), jump(ja, -2)}, []bool{false, true, true}, []bool{true, false, false}},
		{[]api.Insn{jump(ja, 2), op(mov), op(exit), jump(ja, -3)}, []bool{false, true, false, true}, []bool{true, true, true, true}},
		{[]api.Insn{jump(ja, 1), jump(jeq, -1), jump(ja, -1), op(exit)}, []bool{false, true, true, false}, []bool{true, false, true, false}},
		{[]api.Insn{jump(jeq, 2), op(exit), op(mov), jump(ja, -3), op(mov), op(exit)}, []bool{false, true, false, true, false, false}, []bool{true, true, false, true, false, false}},
		{[]api.Insn{op(call), op(wide), jump(0x16, 1), jump(ja, -4), op(exit)}, []bool{false, true, false, false, true}, []bool{true, true, true, true, true}},
	} {
		if check(t, "row", x.l) != api.OK {
			t.Errorf("%d: Targets refuses it", i)
			continue
		}
		to, _ := flow.Targets(x.l)
		if h := flow.Heads(x.l, to); !slices.Equal(h, x.heads) {
			t.Errorf("%d: Heads is %v", i, h)
		}
		if r := flow.Reached(x.l, to); !slices.Equal(r, x.reached) {
			t.Errorf("%d: Reached is %v", i, r)
		}
	}
}

// P6.3 to P6.5: programs as long as may be: one that is gone through from the end, two ways at every instruction, and one half of which nobody comes to.
func TestLongest(t *testing.T) {
	back := make([]api.Insn, 256)
	for i := range back {
		back[i] = jump(ja, -2)
	}
	back[0], back[1] = jump(ja, 254), op(exit)
	both := make([]api.Insn, 256)
	for i := range both {
		both[i] = jump(jeq, 254-i)
	}
	both[255] = op(exit)
	half := slices.Repeat([]api.Insn{op(mov)}, 256)
	half[127], half[255] = op(exit), op(exit)
	loops := slices.Repeat([]api.Insn{jump(0xad, -1)}, 256)
	loops[255] = jump(ja, -256)
	for name, l := range map[string][]api.Insn{"back": back, "both": both, "half": half, "loops": loops} {
		if check(t, name, l) != api.OK {
			t.Error(name, "is refused")
			continue
		}
		to, _ := flow.Targets(l)
		n := 0
		for _, is := range flow.Reached(l, to) {
			if is {
				n++
			}
		}
		if want := map[string]int{"back": 256, "both": 256, "half": 128, "loops": 256}[name]; n != want {
			t.Errorf("%s: %d are reached", name, n)
		}
	}
}

// P6.1 to P6.5: programs by chance, most of whose jumps lead to one of their instructions.
func TestByChance(t *testing.T) {
	r := rand.New(rand.NewSource(6))
	ops := []int{mov, mov, wide, jeq, 0x1d, 0x26, 0xde, 0xe5, ja, 0x06, call, exit, 0x96, 0x7b}
	counts := map[api.Errno]int{}
	for range 4000 {
		l := make([]api.Insn, 1+r.Intn(24))
		for i := range l {
			l[i].Op = ops[r.Intn(len(ops))]
		}
		if r.Intn(8) > 0 {
			l[len(l)-1].Op = []int{exit, ja}[r.Intn(2)]
		}
		for i := range l {
			l[i].Off = slot(l, r.Intn(len(l))) - slot(l, i+1)
		}
		if r.Intn(2) == 0 {
			l[r.Intn(len(l))].Off += r.Intn(3) - 1
		}
		counts[check(t, "by chance", l)]++
	}
	for _, no := range []api.Errno{api.OK, api.ErrJump, api.ErrEnd} {
		if counts[no] < 100 {
			t.Errorf("only %d programs have the error %d", counts[no], no)
		}
	}
}

// R3: nothing is written behind a list's end, and each answer is memory of its own.
func TestMemory(t *testing.T) {
	room := []api.Insn{op(mov), jump(jeq, -2), op(exit), jump(ja, 77), op(wide)}
	l, kept := room[:3], slices.Clone(room)
	to, _ := flow.Targets(l)
	t2 := append(slices.Clone(to), 55, 66)[:3]
	for i := range l {
		n := flow.Next(l, t2, i)
		for k := range n {
			n[k] = 99
		}
		if m := flow.Next(l, t2, i); slices.Contains(m, 99) {
			t.Error("Next of", i, "is kept")
		}
	}
	h, r := flow.Heads(l, t2), flow.Reached(l, t2)
	again, _ := flow.Targets(l)
	again[0], h[0], r[0] = 99, false, false
	if h, r = flow.Heads(l, t2), flow.Reached(l, t2); !h[0] || !r[0] || len(h) != 3 || len(r) != 3 {
		t.Error("Heads, Reached", h, r)
	}
	if !slices.Equal(room, kept) || !slices.Equal(t2[:5], append(slices.Clone(to), 55, 66)) {
		t.Error("what was given in was changed")
	}
	if !slices.Equal(to, []int{-1, 0, -1}) {
		t.Error("answers of Targets share memory", to)
	}
}

// R1: nothing is promised of targets that Targets did not tell, but that all calls end, and that none panics.
func TestWrong(t *testing.T) {
	programs := [][]api.Insn{nil, {}, {op(mov)}, {jump(jeq, 5), op(call)}, {jump(ja, 1), op(mov), op(wide)}, slices.Repeat([]api.Insn{jump(jeq, 1)}, 300)}
	targets := [][]int{nil, {}, {-1}, {5}, {0, 0, 0, 0}, {math.MinInt, math.MaxInt, 1, 2}, {1, 2, 3, -9, 300}, slices.Repeat([]int{299}, 300)}
	for _, l := range programs {
		for _, to := range targets {
			for _, i := range []int{math.MinInt, -1, 0, 1, 2, 299, 300, math.MaxInt} {
				for _, n := range flow.Next(l, to, i) {
					if n < 0 || n >= len(l) {
						t.Error("Next leads outside", l, to, i, n)
					}
				}
			}
			if h, r := flow.Heads(l, to), flow.Reached(l, to); len(h) != len(l) || len(r) != len(l) {
				t.Error("Heads, Reached", len(l), h, r)
			}
		}
	}
}
