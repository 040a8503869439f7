package cells_test

import (
	"bytes"
	"math"
	"math/rand"
	"slices"
	"testing"

	"lockgate/api"
	"lockgate/cells"
	"lockgate/phase"
)

const most, least = math.MaxInt, math.MinInt

// row is what a cell must be: its bytes, the times at which it was written, and whether it is there, and dropped.
type row struct {
	bytes          []byte
	times          []int
	there, dropped bool
}

// pair is cells, and beside them what they must be, by their numbers from 1 on.
type pair struct {
	t    *testing.T
	c    *cells.Cells
	rows []*row
}

func newPair(t *testing.T) *pair { return &pair{t: t, c: cells.New()} }

// row is what the cell of a number must be; nil: it is not there.
func (p *pair) row(id int) *row {
	if id < 1 || id > len(p.rows) || !p.rows[id-1].there {
		return nil
	}
	return p.rows[id-1]
}

func (p *pair) make(b []byte) int {
	p.t.Helper()
	x := &row{there: true}
	for i := 0; i < len(b) && i < api.MaxValue; i++ {
		x.bytes = append(x.bytes, b[i])
	}
	p.rows = append(p.rows, x)
	id := p.c.Make(b)
	if id != len(p.rows) {
		p.t.Errorf("Make: %d, want %d", id, len(p.rows))
	}
	return id
}

// inside is the chapter's word, byte by byte: all bytes of the number are the cell's.
func (x *row) inside(off, size int) bool {
	if x == nil || size != 1 && size != 2 && size != 4 && size != 8 {
		return false
	}
	for i := range size {
		if off > most-i || off+i < 0 || off+i >= len(x.bytes) {
			return false
		}
	}
	return true
}

func (p *pair) load(id, off, size int) {
	p.t.Helper()
	var want uint64
	x := p.row(id)
	is := x.inside(off, size)
	if is {
		for i := size - 1; i >= 0; i-- {
			want = want*256 + uint64(x.bytes[off+i])
		}
	}
	if got, ok := p.c.Load(id, off, size); got != want || ok != is {
		p.t.Errorf("Load %d, %d, %d: %x, %v, want %x, %v", id, off, size, got, ok, want, is)
	}
}

func (p *pair) store(id, off, size int, v uint64, now int) {
	p.t.Helper()
	x := p.row(id)
	is := x.inside(off, size)
	if is {
		for i := range size {
			x.bytes[off+i] = byte(v >> (8 * i))
		}
		x.times = append(x.times, now)
	}
	if p.c.Store(id, off, size, v, now) != is {
		p.t.Errorf("Store %d, %d, %d at %d: %v", id, off, size, now, !is)
	}
}

func (p *pair) write(id int, b []byte, now int) {
	p.t.Helper()
	x := p.row(id)
	is := x != nil && len(x.bytes) == len(b)
	if is {
		x.bytes = slices.Clone(b)
		x.times = append(x.times, now)
	}
	if p.c.Write(id, b, now) != is {
		p.t.Errorf("Write %d of %d bytes at %d: %v", id, len(b), now, !is)
	}
}

func (p *pair) drop(id int) {
	p.t.Helper()
	x := p.row(id)
	is := x != nil && !x.dropped
	if is {
		x.dropped = true
	}
	if p.c.Drop(id) != is {
		p.t.Errorf("Drop %d: %v", id, !is)
	}
}

func (p *pair) sweep() {
	p.t.Helper()
	want := 0
	for _, x := range p.rows {
		if x.there && x.dropped {
			x.there = false
			want++
		}
	}
	if got := p.c.Sweep(); got != want {
		p.t.Errorf("Sweep: %d, want %d", got, want)
	}
}

// check asks all of all cells, of those that are not there any more, and of numbers that were never had.
func (p *pair) check() {
	p.t.Helper()
	live := 0
	for id := 1; id <= len(p.rows); id++ {
		if x := p.row(id); x != nil && !x.dropped {
			live++
		}
		p.checkCell(id)
	}
	for _, id := range []int{least, -1, 0, len(p.rows) + 1, most} {
		p.checkCell(id)
	}
	if p.c.Live() != live {
		p.t.Errorf("Live: %d, want %d", p.c.Live(), live)
	}
}

func (p *pair) checkCell(id int) {
	p.t.Helper()
	x := p.row(id)
	there := x != nil
	if !there {
		x = &row{}
	}
	if got := p.c.Bytes(id); p.c.Size(id) != len(x.bytes) || !bytes.Equal(got, x.bytes) || !there && got != nil {
		p.t.Errorf("the cell %d: Size %d, Bytes %v, want %v", id, p.c.Size(id), got, x.bytes)
	}
	if got := p.c.Version(id); got != len(x.times) {
		p.t.Errorf("the cell %d: Version %d, want %d", id, got, len(x.times))
	}
	beat, last := phase.New(), 0
	for _, last = range x.times {
		beat = beat.Write(last)
	}
	for _, now := range []int{least, -1, 0, last, last + 3, last + 4, last + 5, last + 3 + len(x.times), last + 4 + len(x.times), most} {
		if p.c.Steady(id, now) != (there && beat.Steady(now)) {
			p.t.Errorf("the cell %d, written at %v: Steady of %d is not %v", id, x.times, now, there && beat.Steady(now))
		}
	}
	for off := -1; off <= len(x.bytes); off++ {
		for _, size := range []int{1, 2, 4, 8} {
			p.load(id, off, size)
		}
	}
}

// count is the bytes from first on, n of them.
func count(first, n int) []byte {
	b := make([]byte, n)
	for i := range b {
		b[i] = byte(first + i)
	}
	return b
}

// The chapter's examples, row by row.
func TestExamples(t *testing.T) {
	c := cells.New()
	if c.Make([]byte{1, 2, 3}) != 1 || c.Make(nil) != 2 || c.Size(1) != 3 {
		t.Error("Make, Size")
	}
	if v, is := c.Load(1, 1, 2); v != 0x302 || !is {
		t.Error("Load 1, 1, 2:", v, is)
	}
	if v, is := c.Load(1, 2, 2); v != 0 || is {
		t.Error("Load 1, 2, 2:", v, is)
	}
	if !c.Store(1, 0, 2, 0xABCD, 5) || !bytes.Equal(c.Bytes(1), []byte{0xCD, 0xAB, 3}) || c.Version(1) != 1 {
		t.Error("Store:", c.Bytes(1), c.Version(1))
	}
	if !c.Drop(1) || c.Drop(1) || c.Live() != 1 {
		t.Error("Drop, Live")
	}
	if v, is := c.Load(1, 0, 1); v != 0xCD || !is {
		t.Error("Load of what was dropped:", v, is)
	}
	if c.Sweep() != 1 {
		t.Error("Sweep")
	}
	if v, is := c.Load(1, 0, 1); v != 0 || is {
		t.Error("Load of what was swept away:", v, is)
	}
	if c.Make([]byte{9}) != 3 {
		t.Error("Make behind Sweep")
	}
}

// P8.1: no cells at first; whatever is asked of them, there is nothing.
func TestNone(t *testing.T) {
	p := newPair(t)
	p.check()
	for _, id := range []int{least, -1, 0, 1, 2, most} {
		p.drop(id)
		p.store(id, 0, 1, 1, 0)
		p.write(id, nil, 0)
		p.write(id, []byte{1}, 0)
	}
	p.sweep()
	p.check()
}

// P8.1, P8.2: cells of each number of bytes up to MaxValue, and of more, of which the first MaxValue are taken.
func TestMake(t *testing.T) {
	p := newPair(t)
	for n := range api.MaxValue + 9 {
		p.make(count(n, n))
	}
	last := p.make(count(3, 5000))
	p.check()
	if p.c.Size(last) != api.MaxValue || p.c.Size(api.MaxValue) != api.MaxValue-1 || p.c.Version(last) != 0 {
		t.Error("Size:", p.c.Size(last), p.c.Size(api.MaxValue))
	}
	p.write(last, count(0, 5000), 1) // it has not as many
	p.write(last, count(0, api.MaxValue), 1)
	p.check()
}

// P8.2, P8.3: places and sizes that are wrong, about each edge, and about the ends of int.
func TestInside(t *testing.T) {
	for _, n := range []int{0, 1, 2, 3, 4, 7, 8, 9, 63, 64} {
		p := newPair(t)
		id := p.make(count(10, n))
		for _, off := range []int{least, least + 1, least + 8, -65, -8, -2, -1, 0, 1, n - 9, n - 8, n - 7, n - 4, n - 3, n - 2, n - 1, n, n + 1, 64, 1 << 32, 1 << 62, most - 8, most - 7, most - 1, most} {
			for _, size := range []int{least, -8, -4, -1, 0, 1, 2, 3, 4, 5, 6, 7, 8, 9, 12, 16, 32, 64, 1<<32 + 1, 1 << 33, most} {
				p.load(id, off, size)
				p.store(id, off, size, 0xF1E2D3C4B5A69788, off)
				p.load(id, off, size)
			}
		}
		p.check()
	}
}

// P8.3, P8.5: the lowest bytes of v stand there, the lowest first; no byte beside them is changed.
func TestStore(t *testing.T) {
	for _, x := range []struct {
		off, size int
		want      []byte
	}{
		{0, 1, []byte{0x88, 2, 3, 4, 5, 6, 7, 8, 9, 10}},
		{9, 1, []byte{1, 2, 3, 4, 5, 6, 7, 8, 9, 0x88}},
		{1, 2, []byte{1, 0x88, 0x99, 4, 5, 6, 7, 8, 9, 10}},
		{8, 2, []byte{1, 2, 3, 4, 5, 6, 7, 8, 0x88, 0x99}},
		{3, 4, []byte{1, 2, 3, 0x88, 0x99, 0xAA, 0xBB, 8, 9, 10}},
		{6, 4, []byte{1, 2, 3, 4, 5, 6, 0x88, 0x99, 0xAA, 0xBB}},
		{0, 8, []byte{0x88, 0x99, 0xAA, 0xBB, 0xCC, 0xDD, 0xEE, 0xFF, 9, 10}},
		{2, 8, []byte{1, 2, 0x88, 0x99, 0xAA, 0xBB, 0xCC, 0xDD, 0xEE, 0xFF}},
	} {
		c := cells.New()
		c.Make(count(1, 10))
		c.Make(count(1, 10))
		if !c.Store(1, x.off, x.size, 0xFFEEDDCCBBAA9988, 0) || !bytes.Equal(c.Bytes(1), x.want) {
			t.Errorf("Store of %d bytes at %d: % x", x.size, x.off, c.Bytes(1))
		}
		if !bytes.Equal(c.Bytes(2), count(1, 10)) || c.Version(2) != 0 {
			t.Errorf("Store of %d bytes at %d: the other cell: % x", x.size, x.off, c.Bytes(2))
		}
	}
}

// P8.6: what was stored is loaded, cut to its size; and byte by byte.
func TestThereAndBack(t *testing.T) {
	c := cells.New()
	c.Make(make([]byte, 17))
	for _, v := range []uint64{0, 1, 0x80, 0xFF, 0x100, 0x8000, 0xFFFF, 0x10000, 1 << 31, 1<<32 - 1, 1 << 32, 1 << 63, 0x0123456789ABCDEF, 1<<64 - 1} {
		for _, size := range []int{1, 2, 4, 8} {
			for off := range 18 - size {
				cut := v << (64 - 8*size) >> (64 - 8*size)
				c.Store(1, off, size, ^v, 0)
				c.Store(1, off, size, v, 0)
				if got, is := c.Load(1, off, size); !is || got != cut {
					t.Errorf("Store of %x, %d bytes at %d: Load: %x, %v", v, size, off, got, is)
				}
				for i := range size {
					if got, is := c.Load(1, off+i, 1); !is || got != cut>>(8*i)&255 || byte(got) != c.Bytes(1)[off+i] {
						t.Errorf("Store of %x, %d bytes at %d: the byte %d: %x, %v", v, size, off, i, got, is)
					}
				}
			}
		}
	}
}

// P8.3: Write, of as many bytes, of one fewer, of one more; a cell of no bytes is written too.
func TestWrite(t *testing.T) {
	p := newPair(t)
	for _, n := range []int{0, 1, 2, 8, 63, 64} {
		id := p.make(count(0, n))
		for _, k := range []int{0, n - 1, n, n + 1, 64, 65} {
			if k >= 0 {
				p.write(id, count(100+k, k), k)
			}
		}
		p.check()
	}
	p.write(1, []byte{}, 7)
	p.write(1, nil, 8)
	p.check()
	if p.c.Version(1) != 4 {
		t.Error("a cell of no bytes: Version", p.c.Version(1))
	}
}

// P8.3: Version counts each time it was written, also with what stood there; nothing else, and not what is refused.
func TestVersion(t *testing.T) {
	c := cells.New()
	c.Make([]byte{1, 2})
	for i, f := range []func() bool{
		func() bool { return c.Store(1, 0, 1, 1, 0) },
		func() bool { return c.Write(1, []byte{1, 2}, 0) },
		func() bool { return c.Store(1, 0, 2, 5, -1) },
		func() bool { return c.Write(1, []byte{3, 4}, least) },
		func() bool { return c.Store(1, 1, 1, 9, most) },
	} {
		if !f() || c.Version(1) != i+1 {
			t.Errorf("%d: Version %d", i, c.Version(1))
		}
		c.Store(1, 1, 2, 7, 0)
		c.Store(1, 0, 3, 7, 0)
		c.Store(2, 0, 1, 7, 0)
		c.Write(1, []byte{1}, 0)
		c.Load(1, 0, 1)
		c.Bytes(1)
		c.Steady(1, 0)
		c.Size(1)
		c.Live()
		c.Make([]byte{1, 2})
		c.Sweep()
		if c.Version(1) != i+1 {
			t.Errorf("%d: Version %d behind what writes nothing there", i, c.Version(1))
		}
	}
}

// P8.3: Steady, with numbers written out: of what was never written, of the rhythm of both kinds of writes, of another cell.
func TestSteady(t *testing.T) {
	c := cells.New()
	c.Make([]byte{0, 0})
	c.Make([]byte{0, 0})
	for _, now := range []int{least, -1, 0, 1, most} {
		if !c.Steady(1, now) || c.Steady(0, now) || c.Steady(3, now) || c.Steady(-1, now) {
			t.Error("never written: Steady of", now)
		}
	}
	c.Store(1, 0, 1, 0, 4)
	c.Write(1, []byte{0, 0}, 8)
	if !c.Steady(1, 8) || !c.Steady(1, least) {
		t.Error("written twice")
	}
	c.Store(1, 1, 1, 0, 12)
	if c.Steady(1, 15) || !c.Steady(1, 16) || !c.Steady(2, 12) {
		t.Error("written at 4, 8, 12:", c.Steady(1, 15), c.Steady(1, 16), c.Steady(2, 12))
	}
	c.Store(1, 2, 1, 0, 15) // outside, so it is not written
	c.Write(1, nil, 15)
	if !c.Steady(1, 16) {
		t.Error("what is refused was written")
	}
	c.Write(1, []byte{1, 1}, 14)
	if c.Steady(1, 19) || !c.Steady(1, 20) {
		t.Error("and at 14:", c.Steady(1, 19), c.Steady(1, 20))
	}
	c.Drop(1)
	if c.Steady(1, 19) || !c.Steady(1, 20) {
		t.Error("dropped")
	}
	c.Sweep()
	if c.Steady(1, 20) || c.Steady(1, most) || !c.Steady(2, 20) {
		t.Error("swept away")
	}
}

// P8.4: a dropped cell is asked and written as before, but Live, and is dropped once only.
func TestDrop(t *testing.T) {
	p := newPair(t)
	for i := range 4 {
		p.make(count(i, 8))
	}
	for _, id := range []int{2, 2, 4, 0, -2, 5, least, most} {
		p.drop(id)
		p.check()
	}
	p.store(2, 1, 4, 0xDEADBEEF, 3)
	p.write(4, count(90, 8), 5)
	p.write(2, count(1, 7), 5)
	p.check()
	p.drop(2)
	p.check()
	if p.c.Live() != 2 || p.c.Version(2) != 1 || p.c.Size(4) != 8 {
		t.Error("Live", p.c.Live())
	}
}

// P8.4: Sweep takes away what is dropped, once, and nothing else; what is away is neither written nor dropped.
func TestSweep(t *testing.T) {
	p := newPair(t)
	p.sweep()
	for i := range 6 {
		p.make(count(i, 3))
	}
	p.sweep()
	p.check()
	for _, id := range []int{5, 1, 3} {
		p.drop(id)
	}
	p.sweep()
	p.check()
	p.sweep()
	for _, id := range []int{1, 3, 5} {
		p.drop(id)
		p.store(id, 0, 1, 1, 0)
		p.write(id, count(0, 3), 0)
	}
	p.sweep()
	p.check()
	p.drop(2)
	p.drop(6)
	p.sweep()
	p.drop(4)
	p.check()
	if p.c.Live() != 0 || p.c.Sweep() != 1 || p.c.Sweep() != 0 {
		t.Error("the last one")
	}
}

// P8.1, P8.5: a number is never had twice, also if all cells, or the last one, are swept away.
func TestNumbers(t *testing.T) {
	c := cells.New()
	for i := 1; i <= 20000; i++ {
		if id := c.Make([]byte{byte(i)}); id != i {
			t.Fatalf("Make: %d, want %d", id, i)
		}
		if c.Live() != 1 || i > 1 && (c.Size(i-1) != 0 || c.Drop(i-1)) {
			t.Fatal("the cell ahead of", i)
		}
		c.Drop(i)
		if c.Sweep() != 1 || c.Live() != 0 {
			t.Fatal("Sweep of", i)
		}
	}
}

// P8.5: what is written into one cell changes no other one, nor other cells' cells.
func TestApart(t *testing.T) {
	p, q := newPair(t), newPair(t)
	same := count(1, 64)
	for range 5 {
		p.make(same)
		q.make(same)
	}
	p.write(1, count(7, 64), 1)
	p.store(2, 0, 8, 0, 2)
	p.store(3, 56, 8, 0, 3)
	q.store(4, 28, 8, 1<<63, 4)
	p.drop(5)
	q.drop(1)
	p.sweep()
	p.check()
	q.check()
	p.make(same)
	q.sweep()
	q.drop(2)
	p.check()
	q.check()
}

// R3: what is handed in is neither changed nor kept, nor the spare room behind it; what is handed out is new memory.
func TestNewMemory(t *testing.T) {
	c := cells.New()
	in, room := count(1, 8), count(1, 8)
	id := c.Make(in[:4])
	c.Store(id, 0, 4, 0, 1)
	if !bytes.Equal(in, room) {
		t.Error("what was made of is changed:", in)
	}
	copy(in, count(50, 8))
	if !bytes.Equal(c.Bytes(id), make([]byte, 4)) {
		t.Error("what was made of is kept:", c.Bytes(id))
	}
	c.Write(id, in[2:6], 2)
	c.Store(id, 1, 2, 0, 3)
	if !bytes.Equal(in, count(50, 8)) {
		t.Error("what was written is changed:", in)
	}
	copy(in, make([]byte, 8))
	want := []byte{52, 0, 0, 55}
	one, other := c.Bytes(id), c.Bytes(id)
	one[3] = 9
	_ = append(one[:1], 8, 7, 6, 5, 4)
	if !bytes.Equal(c.Bytes(id), want) || !bytes.Equal(other, want) {
		t.Error("what was told is kept:", c.Bytes(id), other)
	}
	c.Store(id, 0, 1, 77, 4)
	if other[0] != 52 {
		t.Error("what was told is changed:", other)
	}
	long := count(0, 100)
	c.Store(c.Make(long), 56, 8, 0, 0)
	if !bytes.Equal(long, count(0, 100)) {
		t.Error("what was made of is changed:", long)
	}
}

// R4: what is asked changes nothing: it is answered alike each time.
func TestAsked(t *testing.T) {
	p := newPair(t)
	for i := range 5 {
		p.make(count(i, i))
	}
	p.store(4, 1, 2, 500, 3)
	p.drop(3)
	p.check()
	p.check()
}

// P8.1 to P8.6: what is done by chance, held against lists of what must be.
func TestByChance(t *testing.T) {
	r := rand.New(rand.NewSource(8))
	for range 60 {
		p := newPair(t)
		for range 120 {
			p.step(r)
			p.check()
			if t.Failed() {
				return // all behind it would fail too
			}
		}
	}
}

// step does one thing by chance; numbers, places and sizes are mostly ones that are there.
func (p *pair) step(r *rand.Rand) {
	p.t.Helper()
	id := r.Intn(len(p.rows)+3) - 1
	n := r.Intn(12)
	if x := p.row(id); x != nil && r.Intn(4) > 0 {
		n = len(x.bytes)
	}
	b := make([]byte, n)
	r.Read(b)
	switch k := r.Intn(20); {
	case k < 3:
		p.make(b)
	case k < 10:
		p.store(id, r.Intn(n+3)-1, []int{1, 2, 4, 8, 3, 0}[r.Intn(6)], r.Uint64(), r.Intn(100)-10)
	case k < 16:
		p.write(id, b, r.Intn(100)-10)
	case k < 19:
		p.drop(id)
	default:
		p.sweep()
	}
}
