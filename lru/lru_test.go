package lru_test

import (
	"bytes"
	"math"
	"math/rand"
	"slices"
	"strings"
	"testing"

	"lockgate/api"
	"lockgate/lru"
)

const most, least = math.MaxInt, math.MinInt

// held is what a key that is there must have: its cell, and when it was used last.
type held struct{ cell, used int }

// uses is what an lru must be, by the chapter's words: each use has a number of its own.
type uses struct {
	size, most, step int
	of               map[string]held
}

func newUses(key, many int) *uses {
	return &uses{size: max(1, min(key, api.MaxKey)), most: max(1, min(many, api.MaxEntries)), of: map[string]held{}}
}

func (w *uses) use(k string, cell int) {
	w.step++
	w.of[k] = held{cell, w.step}
}

// oldest is the key that was used longest ago.
func (w *uses) oldest() string {
	l := w.keys()
	return l[len(l)-1]
}

// keys is the keys by when they were used, the last one first.
func (w *uses) keys() []string {
	var l []string
	for k := range w.of {
		l = append(l, k)
	}
	slices.SortFunc(l, func(a, b string) int { return w.of[b].used - w.of[a].used })
	return l
}

func (w *uses) peek(k string) (int, bool) {
	x, is := w.of[k]
	return x.cell, is
}

func (w *uses) put(k string, cell int) (string, int, api.Errno) {
	if len(k) != w.size {
		return "", 0, api.ErrSize
	}
	if _, is := w.of[k]; is {
		return "", 0, api.ErrTwice
	}
	gone, its := "", 0
	if len(w.of) == w.most {
		gone = w.oldest()
		its = w.of[gone].cell
		delete(w.of, gone)
	}
	w.use(k, cell)
	return gone, its, api.OK
}

// both is an lru, and beside it what it must be; both are asked for the same.
type both struct {
	t *testing.T
	l *lru.Lru
	w *uses
}

func newBoth(t *testing.T, key, max int) *both {
	return &both{t, lru.New(key, max), newUses(key, max)}
}

// put answers what must go, and the error that there must be.
func (p *both) put(k string, cell int) (string, api.Errno) {
	p.t.Helper()
	want, its, e := p.w.put(k, cell)
	gone, of, no := p.l.Put([]byte(k), cell)
	if string(gone) != want || of != its || no != e || want == "" && len(gone) != 0 {
		p.t.Errorf("Put % x, %d: % x, %d, %d, want % x, %d, %d", k, cell, gone, of, no, want, its, e)
	}
	return want, e
}

func (p *both) told(name, k string, cell int, is bool) {
	p.t.Helper()
	if want, there := p.w.peek(k); cell != want || is != there {
		p.t.Errorf("%s % x: %d, %v, want %d, %v", name, k, cell, is, want, there)
	}
}

func (p *both) peek(k string) {
	p.t.Helper()
	cell, is := p.l.Peek([]byte(k))
	p.told("Peek", k, cell, is)
}

func (p *both) find(k string) {
	p.t.Helper()
	cell, is := p.l.Find([]byte(k))
	p.told("Find", k, cell, is)
	if want, there := p.w.peek(k); there {
		p.w.use(k, want)
	}
}

func (p *both) del(k string) {
	p.t.Helper()
	cell, is := p.l.Del([]byte(k))
	p.told("Del", k, cell, is)
	delete(p.w.of, k)
}

// same asks for the keys in order, for how many there are, and for the cells of those and of some others, by which none is used.
func (p *both) same(others ...string) {
	p.t.Helper()
	want := p.w.keys()
	for _, k := range append(others, want...) {
		p.peek(k)
	}
	if n := p.l.Len(); n != len(want) {
		p.t.Errorf("Len: %d, want %d", n, len(want))
	}
	if l := asTexts(p.l.Keys()); !slices.Equal(l, want) {
		p.t.Errorf("Keys: % x, want % x", l, want)
	}
}

func asTexts(keys [][]byte) []string {
	l := make([]string, len(keys))
	for i, k := range keys {
		l[i] = string(k)
	}
	return l
}

// numbered is a key of so many bytes that ends with the number.
func numbered(size, n int) string {
	k := make([]byte, size)
	k[size-1] = byte(n)
	return string(k)
}

// The chapter's examples, call by call.
func TestExamples(t *testing.T) {
	l := lru.New(1, 2)
	for i, k := range []string{"a", "b"} {
		if gone, its, no := l.Put([]byte(k), i+1); len(gone) != 0 || its != 0 || no != api.OK {
			t.Errorf("Put %s: %q, %d, %d", k, gone, its, no)
		}
	}
	if cell, is := l.Find([]byte("a")); cell != 1 || !is {
		t.Error("Find a:", cell, is)
	}
	if gone, its, no := l.Put([]byte("c"), 3); string(gone) != "b" || its != 2 || no != api.OK {
		t.Errorf("Put c: %q, %d, %d", gone, its, no)
	}
	if k := asTexts(l.Keys()); !slices.Equal(k, []string{"c", "a"}) {
		t.Errorf("Keys: %q", k)
	}
	for k, want := range map[string]api.Errno{"a": api.ErrTwice, "ab": api.ErrSize} {
		if gone, its, no := l.Put([]byte(k), 9); len(gone) != 0 || its != 0 || no != want {
			t.Errorf("Put %s: %q, %d, %d", k, gone, its, no)
		}
	}
	if cell, is := l.Del([]byte("a")); cell != 1 || !is {
		t.Error("Del a:", cell, is)
	}
	if cell, is := l.Del([]byte("a")); cell != 0 || is || l.Len() != 1 {
		t.Error("Del a once more, Len:", cell, is, l.Len())
	}
}

// P11.1, P11.3: both numbers about their ends, and such as are wrong: how long a key is, and how many there may be.
func TestNew(t *testing.T) {
	numbers := []int{least, least + 1, -1 << 32, -65, -64, -17, -16, -1, 0, 1, 2, 3, 8, 15, 16, 17, 32, 63, 64, 65, 128, 1<<8 + 1, 1 << 32, 1<<32 + 1, 1 << 62, most - 1, most}
	for _, key := range numbers {
		for _, max := range numbers {
			p := newBoth(t, key, max)
			size, n := p.w.size, p.w.most
			p.same("", numbered(size, 0))
			for _, other := range []int{0, 1, size - 1, size + 1, 15, 16, 17, 100} {
				if k := string(make([]byte, other)); other != size {
					p.put(k, 3)
					p.find(k)
					p.del(k)
				}
			}
			p.same()
			for i := range n {
				if gone, no := p.put(numbered(size, i), i+1); gone != "" || no != api.OK {
					t.Errorf("New of %d, %d: Put %d: % x, %d", key, max, i, gone, no)
				}
			}
			p.same(numbered(size, n))
			if gone, no := p.put(numbered(size, n), -1); gone != numbered(size, 0) || no != api.OK {
				t.Errorf("New of %d, %d: one key more: % x, %d", key, max, gone, no)
			}
			p.same(numbered(size, 0))
			if t.Failed() {
				t.Fatalf("New of %d, %d", key, max)
			}
		}
	}
}

// P11.1: none is there, and none is told.
func TestNone(t *testing.T) {
	l := lru.New(2, 3)
	if l.Len() != 0 || len(l.Keys()) != 0 {
		t.Error("Len, Keys of none:", l.Len(), l.Keys())
	}
	l.Put([]byte("ab"), 1)
	l.Del([]byte("ab"))
	if l.Len() != 0 || len(l.Keys()) != 0 {
		t.Error("Len, Keys behind the last one:", l.Len(), l.Keys())
	}
}

// P11.2, P11.4: each place of the order, from those of one key up to those of all: looked at, used, and taken away.
func TestEachPlace(t *testing.T) {
	for n := 1; n <= 64; n++ {
		for at := range n {
			p := newBoth(t, 3, 64)
			for i := range n {
				p.put(numbered(3, i), 100+i)
			}
			k := numbered(3, at)
			p.peek(k)
			p.same()
			p.find(k)
			p.same()
			p.find(k)
			p.same()
			if first := p.l.Keys()[0]; string(first) != k {
				t.Errorf("%d keys: % x was used, and the first one is % x", n, k, first)
			}
			other := numbered(3, (at+n/2)%n)
			p.del(other)
			p.same(other)
			p.del(other)
			p.put(other, at)
			p.same()
			if t.Failed() {
				t.Fatalf("%d keys, the one at %d", n, at)
			}
		}
	}
}

// P11.2, P11.3, P11.4: keys of other lengths are not there, also where those of the map begin with them, or they with those.
func TestLengths(t *testing.T) {
	for size := 1; size <= 16; size++ {
		p := newBoth(t, size, 4)
		noughts := string(make([]byte, 40))
		p.put(noughts[:size], 1)
		p.put(numbered(size, 7), 2)
		for n := range 40 {
			if n == size {
				continue
			}
			if _, no := p.put(noughts[:n], 3); no != api.ErrSize {
				t.Errorf("Put of %d bytes, want %d: %d", n, size, no)
			}
			p.peek(noughts[:n])
			p.find(noughts[:n])
			p.del(noughts[:n])
			p.same()
		}
		for name, call := range map[string]func([]byte) (int, bool){"Peek": p.l.Peek, "Find": p.l.Find, "Del": p.l.Del} {
			if cell, is := call(nil); cell != 0 || is {
				t.Errorf("%s of nil: %d, %v", name, cell, is)
			}
		}
		if gone, its, no := p.l.Put(nil, 1); gone != nil || its != 0 || no != api.ErrSize {
			t.Error("Put of nil:", gone, its, no)
		}
		p.same()
	}
}

// P11.2: a key is told by all its bytes.
func TestAllBytes(t *testing.T) {
	for size := 1; size <= 16; size++ {
		p := newBoth(t, size, 64)
		for i := range size {
			k := make([]byte, size)
			k[i] = 0x80
			p.put(string(k), i+1)
			k[i] = 0x81
			p.put(string(k), -i)
		}
		p.same(string(make([]byte, size)))
	}
}

// P11.3: which error comes first, and that none goes beside one, where the map is full.
func TestOrder(t *testing.T) {
	p := newBoth(t, 2, 2)
	for i, x := range []struct {
		key  string
		no   api.Errno
		gone string
	}{{"", api.ErrSize, ""}, {"ab", api.OK, ""}, {"ab", api.ErrTwice, ""}, {"cd", api.OK, ""}, {"ab", api.ErrTwice, ""}, {"cd", api.ErrTwice, ""}, {"a", api.ErrSize, ""}, {"abc", api.ErrSize, ""}, {"ef", api.OK, "ab"}, {"ab", api.OK, "cd"}} {
		if gone, no := p.put(x.key, i); gone != x.gone || no != x.no {
			t.Errorf("Put %q: %q, %d, want %q, %d", x.key, gone, no, x.gone, x.no)
		}
		p.same()
	}
}

// P11.2, P11.3, P11.4: a cell may be any number, and 0 is told with true; it stays with its key wherever that goes.
func TestCells(t *testing.T) {
	p := newBoth(t, 1, 5)
	numbers := []int{0, -1, least, most, 1, 1 << 32, 0, least + 1, -1 << 32}
	for i, cell := range numbers {
		p.put(numbered(1, i), cell)
		p.find(numbered(1, i-2))
		p.same()
	}
	for i := range numbers {
		p.del(numbered(1, i))
		p.same()
	}
}

// P11.3, P11.5: a map of one key: each that comes takes the place of the one that is there, also of one that was just used.
func TestOne(t *testing.T) {
	p := newBoth(t, 1, 1)
	for i := range 300 {
		k := numbered(1, i)
		if gone, _ := p.put(k, i); i > 0 && gone != numbered(1, i-1) {
			t.Errorf("Put %d: % x goes", i, gone)
		}
		p.find(k)
		p.same(numbered(1, i+1))
	}
}

// P11.5: who goes was used longest ago: nothing but Find and a Put that is done is a use.
func TestNoUse(t *testing.T) {
	p := newBoth(t, 1, 3)
	p.put("a", 1)
	p.put("b", 2)
	p.put("c", 3)
	p.l.Peek([]byte("a"))
	p.l.Put([]byte("a"), 9)
	p.l.Keys()
	p.l.Len()
	p.l.Del([]byte("x"))
	p.l.Find([]byte("ax"))
	if gone, _ := p.put("d", 4); gone != "a" {
		t.Errorf("%q goes", gone)
	}
	p.find("b")
	if gone, _ := p.put("e", 5); gone != "c" {
		t.Errorf("%q goes", gone)
	}
	p.same("a", "c")
}

// P11.5: where one was taken away there is room, and none goes until all is filled again.
func TestRoomAgain(t *testing.T) {
	p := newBoth(t, 1, 4)
	for i := range 4 {
		p.put(numbered(1, i), i)
	}
	p.del(numbered(1, 0))
	p.del(numbered(1, 2))
	for i, want := range []string{"", "", numbered(1, 1), numbered(1, 3), numbered(1, 10)} {
		if gone, _ := p.put(numbered(1, 10+i), 10+i); gone != want {
			t.Errorf("Put %d: % x goes, want % x", i, gone, want)
		}
		p.same()
	}
}

// P11.5: a key that is used again and again never goes while another one is there.
func TestAgain(t *testing.T) {
	for _, n := range []int{2, 3, 4, 63, 64} {
		p := newBoth(t, 2, n)
		stays := "\xFF\xFF"
		p.put(stays, -7)
		for i := range 1000 {
			k := string([]byte{byte(i), byte(i >> 8)})
			gone, _ := p.put(k, i)
			if i < n-1 && gone != "" || i >= n-1 && gone != string([]byte{byte(i - n + 1), byte((i - n + 1) >> 8)}) {
				t.Fatalf("%d keys: behind Put %d: % x goes", n, i, gone)
			}
			p.find(stays)
		}
		p.same()
	}
}

// R2: what is refused changes nothing.
func TestRefused(t *testing.T) {
	p := newBoth(t, 1, 2)
	p.put("a", 1)
	p.put("b", 2)
	for range 3 {
		for _, k := range []string{"a", "b", "ab", ""} {
			p.put(k, 9)
			p.same("c", "ab", "")
		}
		p.del("c")
		p.find("ab")
		p.same("c", "ab", "")
	}
	p.put("d", 4)
	p.same("a", "b", "d")
}

// R3: what is handed in is neither changed nor kept, nor is what lies behind its end.
func TestHandedIn(t *testing.T) {
	l := lru.New(2, 2)
	room := []byte{1, 2, 3, 4, 5, 6}
	k := room[2:4]
	l.Put(k, 7)
	l.Find(k)
	l.Peek(k)
	l.Put(k, 8)
	l.Put(room[1:3], 9)
	l.Put(room[4:6], 10)
	l.Del(room[1:3])
	l.Find(room[:3])
	l.Put(room[2:4], 11)
	if !bytes.Equal(room, []byte{1, 2, 3, 4, 5, 6}) {
		t.Errorf("what was handed in: % x", room)
	}
	clear(room)
	if cell, is := l.Peek([]byte{3, 4}); cell != 11 || !is {
		t.Error("Peek 03 04:", cell, is)
	}
	if cell, is := l.Peek([]byte{0, 0}); cell != 0 || is {
		t.Error("Peek 00 00:", cell, is)
	}
}

// spoil writes over all that a list of keys, or a key, holds, also behind its end.
func spoil(keys ...[]byte) {
	for _, k := range keys[:cap(keys)] {
		whole := k[:cap(k)]
		for i := range whole {
			whole[i] = 0xEE
		}
	}
	clear(keys[:cap(keys)])
}

// R3: the keys that are told share nothing with the map, with another answer, or with each other.
func TestHandedOut(t *testing.T) {
	p := newBoth(t, 3, 8)
	for i := range 8 {
		p.put(numbered(3, i), i)
	}
	want := p.w.keys()
	first, other := p.l.Keys(), p.l.Keys()
	for i, k := range first {
		spoil(k)
		if i+1 < len(first) && string(first[i+1]) != want[i+1] {
			t.Error("what was written into a key is in the next one:", i)
		}
	}
	spoil(first...)
	if !slices.Equal(asTexts(other), want) {
		t.Errorf("another answer: % x", other)
	}
	p.same()
	gone, _, _ := p.l.Put([]byte("new"), 9)
	p.w.put("new", 9)
	told := p.l.Keys()
	spoil(gone)
	p.same()
	if !slices.Equal(asTexts(told), p.w.keys()) {
		t.Errorf("keys that were told: % x", told)
	}
	p.find(numbered(3, 4))
	p.del(numbered(3, 5))
	if string(told[0]) != "new" || len(told) != 8 {
		t.Errorf("keys that were told ahead of a use: % x", told)
	}
}

// R4: maps of which one thing was asked tell one thing, and no map has what is another's.
func TestApart(t *testing.T) {
	p, q, o := newBoth(t, 1, 4), newBoth(t, 1, 4), newBoth(t, 1, 4)
	for i := range 9 {
		k := numbered(1, i)
		p.put(k, i)
		q.put(k, i)
		p.find(numbered(1, i-2))
		q.find(numbered(1, i-2))
		if i%2 == 0 {
			o.put(k, 100+i)
		}
		p.same()
		q.same()
		o.same()
	}
	if !slices.Equal(asTexts(p.l.Keys()), asTexts(q.l.Keys())) {
		t.Error("two maps of the same calls are unlike")
	}
	q.find(numbered(1, 6))
	q.del(numbered(1, 7))
	p.same()
	o.same()
}

// P11.1 to P11.5: steps by chance.
func TestByChance(t *testing.T) {
	r := rand.New(rand.NewSource(1111))
	for _, x := range []struct{ key, most, keys int }{{1, 1, 3}, {1, 2, 4}, {2, 3, 5}, {4, 5, 9}, {16, 16, 24}, {8, 33, 60}, {1, 64, 90}, {3, 64, 66}} {
		p := newBoth(t, x.key, x.most)
		for step := range 3000 {
			k := strings.Repeat(string([]byte{byte(r.Intn(x.keys) * 3)}), x.key)
			switch r.Intn(6) {
			case 0, 1, 2:
				p.put(k, step)
			case 3, 4:
				p.find(k)
			case 5:
				p.del(k)
			}
			p.same(k)
			if t.Failed() {
				t.Fatalf("%d keys of %d bytes: behind the step %d", x.most, x.key, step)
			}
		}
	}
}
