package array_test

import (
	"bytes"
	"math"
	"math/rand"
	"testing"

	"lockgate/api"
	"lockgate/array"
	"lockgate/cells"
)

const most, least = math.MaxInt, math.MinInt

// want is what an array must be: the cells of its places in order, of so many bytes each.
type want struct {
	ids  []int
	size int
}

// cut is a number held to 1 up to the greatest, by the chapter's words.
func cut(n, greatest int) int {
	if n < 1 {
		return 1
	}
	if n > greatest {
		return greatest
	}
	return n
}

// made is what an array of new cells must be, whose first one is to have that number.
func made(first, places, size int) want {
	w := want{size: cut(size, api.MaxValue)}
	for i := 0; i < cut(places, api.MaxEntries); i++ {
		w.ids = append(w.ids, first+i)
	}
	return w
}

// check asks for all places of an array, and for such as there are not.
func check(t *testing.T, a *array.Array, w want) {
	t.Helper()
	n := len(w.ids)
	if a.Len() != n {
		t.Errorf("Len: %d, want %d", a.Len(), n)
	}
	for i, id := range w.ids {
		if got, is := a.Cell(i); got != id || !is {
			t.Errorf("Cell %d of %d: %d, %v, want %d", i, n, got, is, id)
		}
	}
	for _, i := range []int{least, least + 1, -1 << 32, -n, -2, -1, n, n + 1, 2 * n, 64, 65, 1 << 32, 1<<32 + 1, most - 1, most} {
		if i >= 0 && i < n {
			continue
		}
		if got, is := a.Cell(i); got != 0 || is {
			t.Errorf("Cell %d of %d: %d, %v, though there is no such place", i, n, got, is)
		}
	}
}

// fresh asks whether an array's cells are noughts, as many as must be, that were never written.
func fresh(t *testing.T, c *cells.Cells, w want) {
	t.Helper()
	for _, id := range w.ids {
		if c.Size(id) != w.size || !bytes.Equal(c.Bytes(id), make([]byte, w.size)) || c.Version(id) != 0 {
			t.Errorf("the cell %d: % x, written %d times, want %d noughts", id, c.Bytes(id), c.Version(id), w.size)
		}
	}
}

// The chapter's examples, row by row.
func TestExamples(t *testing.T) {
	c := cells.New()
	a := array.New(c, 3, 4)
	for _, x := range []struct {
		i, id int
		is    bool
	}{{0, 1, true}, {2, 3, true}, {3, 0, false}, {-1, 0, false}} {
		if id, is := a.Cell(x.i); id != x.id || is != x.is {
			t.Errorf("Cell %d: %d, %v", x.i, id, is)
		}
	}
	if a.Len() != 3 {
		t.Error("Len:", a.Len())
	}
	a = array.New(c, 0, 0)
	if id, is := a.Cell(0); id != 4 || !is || c.Size(id) != 1 {
		t.Error("New of 0, 0: Cell 0:", id, is, c.Size(id))
	}
	a = array.New(c, 100, 100)
	id, is := a.Cell(63)
	if a.Len() != 64 || !is || c.Size(id) != 64 {
		t.Error("New of 100, 100:", a.Len(), id, is, c.Size(id))
	}
}

// P9.1, P9.2: each number of places with each size about their ends, and such as are wrong; one behind the other in the same cells.
func TestNew(t *testing.T) {
	numbers := []int{least, least + 1, -1 << 32, -65, -64, -2, -1, 0, 1, 2, 3, 7, 8, 9, 31, 32, 62, 63, 64, 65, 66, 127, 128, 129, 1<<8 + 1, 1 << 32, 1<<32 + 1, 1 << 62, most - 1, most}
	c, first := cells.New(), 1
	for _, places := range numbers {
		for _, size := range numbers {
			a, w := array.New(c, places, size), made(first, places, size)
			first += len(w.ids)
			check(t, a, w)
			fresh(t, c, w)
			if c.Live() != first-1 {
				t.Fatalf("New of %d, %d: %d cells are there, want %d", places, size, c.Live(), first-1)
			}
		}
	}
}

// P9.1, P9.2: all numbers of places and all sizes there are.
func TestEach(t *testing.T) {
	for n := 1; n <= 64; n++ {
		c := cells.New()
		check(t, array.New(c, n, 65-n), made(1, n, 65-n))
		fresh(t, c, made(1, n, 65-n))
		if c.Live() != n || c.Size(1) != 65-n {
			t.Errorf("New of %d, %d: %d cells of %d bytes", n, 65-n, c.Live(), c.Size(1))
		}
	}
}

// P9.1: cells are made of what is there already, behind those that were swept away too.
func TestBehind(t *testing.T) {
	c := cells.New()
	c.Make([]byte{1, 2, 3})
	c.Make(nil)
	a := array.New(c, 2, 2)
	check(t, a, made(3, 2, 2))
	for id := 1; id <= 4; id++ {
		c.Drop(id)
	}
	c.Sweep()
	b := array.New(c, 3, 1)
	check(t, b, made(5, 3, 1))
	fresh(t, c, made(5, 3, 1))
	check(t, a, made(3, 2, 2))
	if c.Live() != 3 {
		t.Error("Live:", c.Live())
	}
}

// P9.3: what is written into one place's cell is in no other's, of the same array or of another.
func TestApart(t *testing.T) {
	c := cells.New()
	a, b := array.New(c, 64, 8), array.New(c, 64, 8)
	seen := map[int]int{}
	for k, x := range []*array.Array{a, b} {
		for i := range x.Len() {
			id, _ := x.Cell(i)
			seen[id]++
			if !c.Store(id, 0, 8, uint64(1000*k+i), i) {
				t.Errorf("the place %d of the array %d: not written", i, k)
			}
		}
	}
	if len(seen) != 128 {
		t.Errorf("%d unlike cells", len(seen))
	}
	for k, x := range []*array.Array{a, b} {
		for i := range x.Len() {
			id, _ := x.Cell(i)
			if v, is := c.Load(id, 0, 8); v != uint64(1000*k+i) || !is || c.Version(id) != 1 {
				t.Errorf("the place %d of the array %d: %d, %v, written %d times", i, k, v, is, c.Version(id))
			}
		}
	}
}

// P9.3: nothing that is done with cells changes a place, not that its own cell is dropped and swept away either.
func TestStays(t *testing.T) {
	c := cells.New()
	a, w := array.New(c, 5, 3), made(1, 5, 3)
	for i, f := range []func(){
		func() { c.Make([]byte{9}) },
		func() { c.Store(1, 0, 1, 7, 0) },
		func() { c.Write(2, []byte{1, 2, 3}, 1) },
		func() { c.Drop(3) },
		func() { c.Drop(6) },
		func() { c.Sweep() },
		func() { c.Make(make([]byte, 3)) },
		func() { array.New(c, 64, 64) },
		func() { c.Drop(1); c.Drop(2); c.Drop(4); c.Drop(5) },
		func() { c.Sweep() },
		func() { c.Make([]byte{0, 0, 0}) },
	} {
		f()
		check(t, a, w)
		if t.Failed() {
			t.Fatal("behind the step", i)
		}
	}
	if c.Size(1) != 0 || c.Size(3) != 0 {
		t.Error("the cells of places are there though they were swept away")
	}
}

// P9.2, R4: what is asked changes nothing: neither what the next one is told, nor the cells.
func TestAsked(t *testing.T) {
	c := cells.New()
	a, w := array.New(c, 4, 2), made(1, 4, 2)
	for range 3 {
		check(t, a, w)
		fresh(t, c, w)
	}
	if c.Live() != 4 || c.Make(nil) != 5 {
		t.Error("asking made cells, or took some away")
	}
}

// R4: cells and arrays apart from these are nothing to them.
func TestOthers(t *testing.T) {
	c, d := cells.New(), cells.New()
	a, b := array.New(c, 3, 2), array.New(d, 2, 3)
	check(t, a, made(1, 3, 2))
	check(t, b, made(1, 2, 3))
	c.Store(1, 0, 2, 0xFFFF, 0)
	fresh(t, d, made(1, 2, 3))
	check(t, array.New(c, 1, 1), made(4, 1, 1))
	check(t, b, made(1, 2, 3))
}

// P9.1 to P9.3 by chance: arrays amid cells that are made, written, dropped and swept away.
func TestChance(t *testing.T) {
	r := rand.New(rand.NewSource(9))
	for range 30 {
		c, next := cells.New(), 1
		var all []*array.Array
		var wants []want
		for range 200 {
			switch r.Intn(6) {
			case 0:
				places, size := r.Intn(80)-8, r.Intn(80)-8
				a, w := array.New(c, places, size), made(next, places, size)
				fresh(t, c, w)
				all, wants = append(all, a), append(wants, w)
				next += len(w.ids)
			case 1:
				c.Make(make([]byte, r.Intn(9)))
				next++
			case 2, 3:
				c.Store(r.Intn(next+1), 0, 1, r.Uint64(), r.Intn(99))
			case 4:
				c.Drop(r.Intn(next + 1))
			case 5:
				c.Sweep()
			}
		}
		for i, a := range all {
			check(t, a, wants[i])
		}
	}
}
