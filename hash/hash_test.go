package hash_test

import (
	"bytes"
	"math"
	"math/big"
	"math/rand"
	"slices"
	"testing"

	"lockgate/api"
	"lockgate/hash"
)

const most, least = math.MaxInt, math.MinInt

// cut is a number held to 1 up to the greatest.
func cut(n, greatest int) int { return max(1, min(n, greatest)) }

// sum is a key's sum in true numbers, taken modulo 2^32 behind each step.
func sum(k []byte) uint32 {
	whole := new(big.Int).Lsh(big.NewInt(1), 32)
	s := big.NewInt(2166136261)
	for _, b := range k {
		s.Xor(s, big.NewInt(int64(b)))
		s.Mul(s, big.NewInt(16777619))
		s.Mod(s, whole)
	}
	return uint32(s.Uint64())
}

// spot is what a place must be: empty, marked, or a key with its cell.
type spot struct {
	marked, held bool
	key          string
	cell         int
}

// table is what a hash must be, by the chapter's words.
type table struct {
	key, most int
	spots     []spot
}

func newTable(key, max int) *table {
	w := &table{key: cut(key, api.MaxKey), most: cut(max, api.MaxEntries)}
	places := 1
	for places < 2*w.most {
		places *= 2
	}
	w.spots = make([]spot, places)
	return w
}

// way is all places of a key's way, in order.
func (w *table) way(k string) []int {
	var l []int
	p := int(sum([]byte(k))) % len(w.spots)
	for range w.spots {
		l = append(l, p)
		p++
		if p == len(w.spots) {
			p = 0
		}
	}
	return l
}

// at is the place at which a key is there, or -1.
func (w *table) at(k string) int {
	for _, p := range w.way(k) {
		x := w.spots[p]
		if x.held && x.key == k {
			return p
		}
		if !x.held && !x.marked {
			return -1
		}
	}
	return -1
}

func (w *table) len() int {
	n := 0
	for _, x := range w.spots {
		if x.held {
			n++
		}
	}
	return n
}

func (w *table) put(k string, cell int) api.Errno {
	switch {
	case len(k) != w.key:
		return api.ErrSize
	case w.at(k) >= 0:
		return api.ErrTwice
	case w.len() >= w.most:
		return api.ErrFull
	}
	for _, p := range w.way(k) {
		if !w.spots[p].held {
			w.spots[p] = spot{held: true, key: k, cell: cell}
			return api.OK
		}
	}
	panic("a table without room")
}

func (w *table) find(k string) (int, bool) {
	if p := w.at(k); len(k) == w.key && p >= 0 {
		return w.spots[p].cell, true
	}
	return 0, false
}

func (w *table) del(k string) (int, bool) {
	cell, is := w.find(k)
	if is {
		w.spots[w.at(k)] = spot{marked: true}
	}
	return cell, is
}

func (w *table) keys() []string {
	var l []string
	for _, x := range w.spots {
		if x.held {
			l = append(l, x.key)
		}
	}
	return l
}

// pair is a hash, and beside it what it must be; both are asked for the same.
type pair struct {
	t *testing.T
	h *hash.Hash
	w *table
}

func newPair(t *testing.T, key, max int) *pair {
	return &pair{t, hash.New(key, max), newTable(key, max)}
}

func (p *pair) put(k string, cell int) api.Errno {
	p.t.Helper()
	want := p.w.put(k, cell)
	if no := p.h.Put([]byte(k), cell); no != want {
		p.t.Errorf("Put % x, %d: %d, want %d", k, cell, no, want)
	}
	return want
}

func (p *pair) find(k string) {
	p.t.Helper()
	want, there := p.w.find(k)
	if cell, is := p.h.Find([]byte(k)); cell != want || is != there {
		p.t.Errorf("Find % x: %d, %v, want %d, %v", k, cell, is, want, there)
	}
}

func (p *pair) del(k string) {
	p.t.Helper()
	want, there := p.w.del(k)
	if cell, is := p.h.Del([]byte(k)); cell != want || is != there {
		p.t.Errorf("Del % x: %d, %v, want %d, %v", k, cell, is, want, there)
	}
}

// same asks for the keys in order, for how many there are, and for the cells of some.
func (p *pair) same(pool []string) {
	p.t.Helper()
	want := p.w.keys()
	if n := p.h.Len(); n != len(want) {
		p.t.Errorf("Len: %d, want %d", n, len(want))
	}
	if l := texts(p.h.Keys()); !slices.Equal(l, want) {
		p.t.Errorf("Keys: % x, want % x", l, want)
	}
	for _, k := range pool {
		p.find(k)
	}
}

func texts(l [][]byte) []string {
	var out []string
	for _, k := range l {
		out = append(out, string(k))
	}
	return out
}

// meeting is n keys of so many bytes whose ways begin at that place of so many.
func meeting(n, size, place, places int) []string {
	var l []string
	for i := 0; len(l) < n; i++ {
		k := make([]byte, size)
		k[0] = byte(i)
		if size > 1 {
			k[size-1] = byte(i >> 8)
		}
		if int(sum(k))%places == place {
			l = append(l, string(k))
		}
	}
	return l
}

// The chapter's examples, row by row.
func TestExamples(t *testing.T) {
	h := hash.New(1, 2)
	for i, x := range []struct {
		key  string
		cell int
		no   api.Errno
	}{{"\x61", 7, api.OK}, {"\x61", 8, api.ErrTwice}, {"\x62", 9, api.OK}, {"\x63", 1, api.ErrFull}, {"\x61\x61", 1, api.ErrSize}} {
		if no := h.Put([]byte(x.key), x.cell); no != x.no {
			t.Errorf("Put %d: %d, want %d", i, no, x.no)
		}
	}
	if cell, is := h.Find([]byte{0x61}); cell != 7 || !is {
		t.Error("Find 61:", cell, is)
	}
	if cell, is := h.Del([]byte{0x61}); cell != 7 || !is {
		t.Error("Del 61:", cell, is)
	}
	if cell, is := h.Find([]byte{0x61}); cell != 0 || is {
		t.Error("Find 61 behind Del:", cell, is)
	}
	if cell, is := h.Find([]byte{0x62}); cell != 9 || !is || h.Len() != 1 {
		t.Error("Find 62, Len:", cell, is, h.Len())
	}
	for i := range 20 {
		no := h.Put([]byte{0x64}, 5)
		if cell, is := h.Del([]byte{0x64}); no != api.OK || cell != 5 || !is {
			t.Errorf("Put 64, Del 64 for the time %d: %d, %d, %v", i, no, cell, is)
		}
	}
	if cell, is := h.Find([]byte{0x62}); cell != 9 || !is {
		t.Error("Find 62 in the end:", cell, is)
	}
}

// P10.1: sums that were published, and others in true numbers.
func TestSum(t *testing.T) {
	for _, x := range []struct {
		key  string
		want uint32
	}{{"", 0x811C9DC5}, {"a", 0xE40C292C}, {"foobar", 0xBF9CF968}, {"b", 0xE70C2DE5}, {"fo", 0x6222E842}, {"foo", 0xA9F37ED7}} {
		if s := hash.Sum([]byte(x.key)); s != x.want {
			t.Errorf("Sum of %q: %x, want %x", x.key, s, x.want)
		}
	}
	if s := hash.Sum(nil); s != 0x811C9DC5 {
		t.Errorf("Sum of nil: %x", s)
	}
	r := rand.New(rand.NewSource(10))
	for n := range 300 {
		k := make([]byte, n)
		r.Read(k)
		if s := hash.Sum(k); s != sum(k) {
			t.Errorf("Sum of % x: %x, want %x", k, s, sum(k))
		}
	}
	for b := range 256 {
		k := []byte{byte(b)}
		if s := hash.Sum(k); s != sum(k) {
			t.Errorf("Sum of %x: %x, want %x", b, s, sum(k))
		}
	}
}

// P10.1, P10.2, P10.3: both numbers about their ends, and such as are wrong: how long a key is, and how many there may be.
func TestNew(t *testing.T) {
	numbers := []int{least, least + 1, -1 << 32, -65, -64, -17, -2, -1, 0, 1, 2, 3, 7, 8, 15, 16, 17, 31, 32, 33, 63, 64, 65, 66, 127, 128, 129, 1<<8 + 1, 1 << 32, 1<<32 + 1, 1 << 62, most - 1, most}
	for _, key := range numbers {
		for _, max := range numbers {
			p := newPair(t, key, max)
			p.same(nil)
			size, n := cut(key, 16), cut(max, 64)
			for _, l := range []int{0, 1, size - 1, size + 1, 16, 17, 100} {
				if l != size && p.put(string(make([]byte, l)), 3) != api.ErrSize {
					t.Errorf("New of %d, %d: a key of %d bytes", key, max, l)
				}
			}
			for i := range n {
				k := make([]byte, size)
				k[size-1] = byte(i)
				if no := p.put(string(k), i+1); no != api.OK {
					t.Errorf("New of %d, %d: Put %d: %d", key, max, i, no)
				}
			}
			k := make([]byte, size)
			k[size-1] = 200
			if no := p.put(string(k), 1); no != api.ErrFull {
				t.Errorf("New of %d, %d: one key more: %d", key, max, no)
			}
			p.same([]string{string(make([]byte, size)), string(k)})
			if t.Failed() {
				t.Fatalf("New of %d, %d", key, max)
			}
		}
	}
}

// P10.2, P10.3: for each number of keys there may be: the places that all keys stand at, which tell how many places there are.
func TestPlaces(t *testing.T) {
	for n := 1; n <= 64; n++ {
		p := newPair(t, 2, n)
		var pool []string
		for i := range n {
			pool = append(pool, string([]byte{byte(37 * i), byte(i)}))
			p.put(pool[i], -i)
		}
		p.same(pool)
		for i := range n {
			if i%3 != 0 {
				p.del(pool[i])
			}
		}
		p.same(pool)
	}
}

// P10.2: keys of other lengths are not there, also where those of the table begin with them, or they with those.
func TestLengths(t *testing.T) {
	for size := 1; size <= 16; size++ {
		p := newPair(t, size, 64)
		for i := range 64 {
			k := make([]byte, size)
			k[0] = byte(i)
			p.put(string(k), i+1)
		}
		for l := range 40 {
			for i := range 64 {
				k := make([]byte, l)
				if l > 0 {
					k[0] = byte(i)
				}
				p.find(string(k))
				if l != size {
					p.del(string(k))
					if no := p.put(string(k), 1); no != api.ErrSize {
						t.Errorf("Put of %d bytes, want %d: %d", l, size, no)
					}
				}
			}
		}
		if cell, is := p.h.Find(nil); cell != 0 || is {
			t.Error("Find nil:", cell, is)
		}
		if cell, is := p.h.Del(nil); cell != 0 || is || p.h.Put(nil, 1) != api.ErrSize {
			t.Error("Del nil, Put nil:", cell, is)
		}
		p.same(nil)
	}
}

// P10.2, P10.3, P10.4: keys whose ways begin at one place, each in turn, also the last one, behind which the first one comes.
func TestMeeting(t *testing.T) {
	for place := range 16 {
		pool := meeting(10, 2, place, 16)
		p := newPair(t, 2, 8)
		for i, k := range pool {
			if no := p.put(k, 10+i); (no == api.OK) != (i < 8) {
				t.Errorf("Put %d: %d", i, no)
			}
			p.same(pool)
		}
		p.del(pool[3])
		p.same(pool)
		p.del(pool[3])
		p.del(pool[0])
		p.same(pool)
		p.put(pool[7], 99) // it stands behind both places that are marked
		p.same(pool)
		p.put(pool[8], 50)
		p.same(pool)
		p.put(pool[3], 51)
		p.same(pool)
		p.put(pool[9], 52)
		p.same(pool)
		for _, i := range []int{7, 8, 1, 2, 3, 4, 5, 6} {
			p.del(pool[i])
			p.same(pool)
		}
		p.put(pool[9], 53)
		p.same(pool)
		if l := p.h.Keys(); len(l) != 1 || string(l[0]) != pool[9] {
			t.Errorf("Keys: % x", l)
		}
	}
}

// P10.3: the first place of a key's way is taken that is empty or marked, but not ahead of the question whether the key stands behind.
func TestFirstMarked(t *testing.T) {
	pool := meeting(3, 1, 3, 4)
	p := newPair(t, 1, 2)
	a, b, c := pool[0], pool[1], pool[2]
	p.put(a, 1)
	p.put(b, 2) // at the first place, behind the last one
	if l := texts(p.h.Keys()); !slices.Equal(l, []string{b, a}) {
		t.Errorf("Keys: % x", l)
	}
	p.del(a)
	if no := p.put(b, 3); no != api.ErrTwice {
		t.Error("Put of a key that stands behind a mark:", no)
	}
	p.put(c, 4)
	if l := texts(p.h.Keys()); !slices.Equal(l, []string{b, c}) {
		t.Errorf("Keys: % x", l)
	}
	p.same(pool)
}

// P10.3: which error comes first: of the length, of a key that is there, of a table that is full.
func TestOrder(t *testing.T) {
	h := hash.New(2, 1)
	for i, x := range []struct {
		key string
		no  api.Errno
	}{{"", api.ErrSize}, {"ab", api.OK}, {"ab", api.ErrTwice}, {"ac", api.ErrFull}, {"a", api.ErrSize}, {"abc", api.ErrSize}, {"", api.ErrSize}} {
		if no := h.Put([]byte(x.key), i); no != x.no {
			t.Errorf("Put %q: %d, want %d", x.key, no, x.no)
		}
	}
	if cell, is := h.Find([]byte("ab")); cell != 1 || !is || h.Len() != 1 {
		t.Error("Find ab:", cell, is, h.Len())
	}
}

// P10.3: a cell may be any number, and 0 is told with true.
func TestCells(t *testing.T) {
	h := hash.New(1, 8)
	for i, cell := range []int{0, -1, least, most, 1, 1 << 32} {
		k := []byte{byte(i)}
		if no := h.Put(k, cell); no != api.OK {
			t.Errorf("Put of the cell %d: %d", cell, no)
		}
		if got, is := h.Find(k); got != cell || !is {
			t.Errorf("Find: %d, %v, want %d", got, is, cell)
		}
		if i%2 == 0 {
			if got, is := h.Del(k); got != cell || !is {
				t.Errorf("Del: %d, %v, want %d", got, is, cell)
			}
		}
	}
}

// P10.2, P10.4: where all places are marked, and none is empty any more, keys are looked for in all of them, and it ends.
func TestAllMarked(t *testing.T) {
	for n := 1; n <= 64; n *= 2 {
		p := newPair(t, 2, n)
		var all []string
		for place := range len(p.w.spots) {
			all = append(all, meeting(1, 2, place, len(p.w.spots))...)
		}
		for i, k := range all {
			p.put(k, i+1)
			p.del(k)
		}
		p.same(all)
		far := meeting(4, 2, 0, len(p.w.spots))
		p.put(all[1], 7)
		p.same(all)
		for i, k := range far {
			p.put(k, i)
			p.same(far)
		}
		p.del(far[0])
		p.same(far)
	}
}

// P10.5: the same key again and again, amid others of its way, takes no place for good, and another one stays.
func TestAgain(t *testing.T) {
	pool := meeting(4, 3, 7, 8)
	p := newPair(t, 3, 4)
	p.put(pool[0], 1)
	p.put(pool[1], 2)
	for i := range 1000 {
		p.put(pool[2], i)
		p.put(pool[3], -i)
		p.del(pool[2+i%2])
		p.find(pool[1])
		p.del(pool[3-i%2])
	}
	p.same(pool)
}

// R2: what is refused changes nothing.
func TestRefused(t *testing.T) {
	p := newPair(t, 1, 2)
	p.put("a", 1)
	p.put("b", 2)
	for range 3 {
		p.h.Put([]byte("a"), 9)
		p.h.Put([]byte("c"), 9)
		p.h.Put([]byte("ab"), 9)
		p.h.Put(nil, 9)
		p.h.Del([]byte("c"))
		p.h.Del([]byte("ab"))
		p.same([]string{"a", "b", "c", "ab", ""})
	}
	p.del("a")
	p.put("d", 4)
	p.same([]string{"a", "b", "c", "d"})
}

// R3: what is handed in is neither changed nor kept, nor is what lies behind its end.
func TestHandedIn(t *testing.T) {
	h := hash.New(2, 4)
	room := []byte{1, 2, 3, 4, 5, 6}
	k := room[2:4]
	h.Put(k, 7)
	h.Find(k)
	h.Put(k, 8)
	hash.Sum(k)
	h.Put(room[1:3], 9)
	h.Del(room[1:3])
	h.Find(room[:3])
	if !bytes.Equal(room, []byte{1, 2, 3, 4, 5, 6}) {
		t.Errorf("what was handed in: % x", room)
	}
	k[0], k[1] = 0, 0
	if cell, is := h.Find([]byte{3, 4}); cell != 7 || !is {
		t.Error("Find 03 04:", cell, is)
	}
	if cell, is := h.Find([]byte{0, 0}); cell != 0 || is {
		t.Error("Find 00 00:", cell, is)
	}
}

// R3: the keys that are told share nothing with the table, with another answer, or with each other.
func TestHandedOut(t *testing.T) {
	p := newPair(t, 3, 8)
	var pool []string
	for i := range 8 {
		pool = append(pool, string([]byte{byte(i), 1, 2}))
		p.put(pool[i], i)
	}
	want := p.w.keys()
	first, other := p.h.Keys(), p.h.Keys()
	for i, k := range first {
		whole := k[:cap(k)]
		for j := range whole {
			whole[j] = 0xEE
		}
		if i+1 < len(first) && string(first[i+1]) != want[i+1] {
			t.Error("what was written into a key is in the next one:", i)
		}
	}
	for i := range first {
		first[i] = append(first[i][:0], "nothing of the kind"...)
	}
	if !slices.Equal(texts(other), want) {
		t.Errorf("another answer: % x", other)
	}
	other = append(other, []byte("behind"))
	other[0] = nil
	p.same(pool)
	if l := hash.New(1, 1).Keys(); len(l) != 0 {
		t.Errorf("Keys of none: % x", l)
	}
}

// R4: tables of which one thing was asked tell one thing, and no table has what is another's.
func TestApart(t *testing.T) {
	p, q, o := newPair(t, 2, 16), newPair(t, 2, 16), newPair(t, 2, 16)
	pool := meeting(8, 2, 30, 32)
	for i, k := range pool {
		p.put(k, i)
		q.put(k, i)
		if i%2 == 0 {
			o.put(k, 100+i)
		}
	}
	p.same(pool)
	q.same(pool)
	o.same(pool)
	if !slices.Equal(texts(p.h.Keys()), texts(q.h.Keys())) {
		t.Error("two tables of the same keys are unlike")
	}
	q.del(pool[1])
	p.same(pool)
	o.same(pool)
}

// P10.1 to P10.5: steps by chance, with keys of one length of which many meet; the cells by a map beside.
func TestByChance(t *testing.T) {
	r := rand.New(rand.NewSource(1010))
	for _, x := range []struct{ key, max, pool int }{{1, 1, 3}, {1, 2, 5}, {2, 3, 6}, {4, 5, 12}, {16, 16, 30}, {8, 33, 60}, {1, 64, 130}, {3, 64, 70}} {
		p := newPair(t, x.key, x.max)
		var pool []string
		for i := range x.pool {
			k := make([]byte, x.key)
			r.Read(k)
			k[0] = byte(i)
			pool = append(pool, string(k))
		}
		last := map[string]int{}
		for step := range 3000 {
			k := pool[r.Intn(len(pool))]
			if r.Intn(2) == 0 {
				if p.put(k, step) == api.OK {
					last[k] = step
				}
			} else {
				p.del(k)
				delete(last, k)
			}
			if step%50 == 0 {
				p.same(pool)
			}
			p.known(pool, last)
			if t.Failed() {
				t.Fatalf("key %d, max %d: behind the step %d", x.key, x.max, step)
			}
		}
	}
}

// known is P10.5 by a map of the cells that were given last.
func (p *pair) known(pool []string, last map[string]int) {
	p.t.Helper()
	if p.h.Len() != len(last) {
		p.t.Errorf("Len: %d, want %d", p.h.Len(), len(last))
	}
	for _, k := range pool {
		want, there := last[k]
		if cell, is := p.h.Find([]byte(k)); cell != want || is != there {
			p.t.Errorf("Find % x: %d, %v, want %d, %v", k, cell, is, want, there)
		}
	}
}
