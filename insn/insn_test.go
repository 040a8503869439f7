package insn_test

import (
	"bytes"
	"encoding/binary"
	"encoding/hex"
	"math"
	"slices"
	"strings"
	"testing"

	"lockgate/api"
	"lockgate/insn"
)

// table is what each operation uses (d, s, o, i: Dst, Src, Off, Imm), and whether it writes Dst (w), row by row as the chapter has it.
func table() map[int]string {
	t := map[int]string{0x18: "dsiw", 0x84: "dw", 0x87: "dw", 0xd4: "diw", 0xdc: "diw", 0x05: "o", 0x85: "i", 0x95: ""}
	for _, size := range []int{0x60, 0x68, 0x70, 0x78} {
		t[size+1], t[size+2], t[size+3] = "dsow", "doi", "dso"
	}
	for _, k := range []int{0x00, 0x10, 0x20, 0x30, 0x40, 0x50, 0x60, 0x70, 0x90, 0xa0, 0xb0, 0xc0} {
		t[k+4], t[k+7], t[k+0xc], t[k+0xf] = "diw", "diw", "dsw", "dsw"
	}
	for _, k := range []int{0x10, 0x20, 0x30, 0x40, 0x50, 0x60, 0x70, 0xa0, 0xb0, 0xc0, 0xd0} {
		t[k+5], t[k+6], t[k+0xd], t[k+0xe] = "dio", "dio", "dso", "dso"
	}
	return t
}

// within tells whether n has so many bits with its sign.
func within(n int, bits uint) bool {
	return n >= -1<<(bits-1) && n <= 1<<(bits-1)-1
}

// want is P2.1, by the table.
func want(t map[int]string, x api.Insn) api.Errno {
	uses, is := t[x.Op]
	if !is {
		return api.ErrOp
	}
	if x.Dst < 0 || x.Dst > 10 || x.Src < 0 || x.Src > 10 || x.Dst == 10 && strings.Contains(uses, "w") {
		return api.ErrReg
	}
	if !within(x.Off, 16) || x.Op != 0x18 && !within(x.Imm, 32) {
		return api.ErrRange
	}
	for name, field := range map[string]int{"d": x.Dst, "s": x.Src, "o": x.Off, "i": x.Imm} {
		if field != 0 && !strings.Contains(uses, name) {
			return api.ErrField
		}
	}
	if (x.Op == 0xd4 || x.Op == 0xdc) && !slices.Contains([]int{16, 32, 64}, x.Imm) {
		return api.ErrField
	}
	if x.Op == 0x18 && (x.Src > 1 || x.Src == 1 && (x.Imm < 1 || x.Imm > 8)) {
		return api.ErrField
	}
	return api.OK
}

var (
	registers = []int{math.MinInt, -1, 0, 1, 2, 9, 10, 11, 15, 16, 256, math.MaxInt}
	distances = []int{math.MinInt, -32769, -32768, -1, 0, 1, 32767, 32768, 65536, math.MaxInt}
	numbers   = []int{math.MinInt, -1 << 32, -1<<31 - 1, -1 << 31, -16, -1, 0, 1, 7, 8, 9, 15, 16, 17, 32, 33, 64, 65, 1<<31 - 1, 1 << 31, 1 << 32, 1<<32 + 1, 1<<32 + 16, math.MaxInt}
)

// all is every instruction of an operation with fields about their ends.
func all(op int, yield func(api.Insn)) {
	for _, dst := range registers {
		for _, src := range registers {
			for _, off := range distances {
				for _, imm := range numbers {
					yield(api.Insn{Op: op, Dst: dst, Src: src, Off: off, Imm: imm})
				}
			}
		}
	}
}

// good is every one of those that Check must take, of all operations.
func good() []api.Insn {
	var l []api.Insn
	t := table()
	for op := range 256 {
		all(op, func(x api.Insn) {
			if want(t, x) == api.OK {
				l = append(l, x)
			}
		})
	}
	return l
}

// plain is one instruction of an operation of the table that Check must take.
func plain(op int) api.Insn {
	x := api.Insn{Op: op}
	if op == 0xd4 || op == 0xdc {
		x.Imm = 16
	}
	return x
}

// P2.1: each operation that a byte may be, with fields about their ends, has the first of its errors.
func TestCheckFieldsAboutTheirEnds(t *testing.T) {
	uses, bad, counts := table(), 0, map[api.Errno]int{}
	for op := range 256 {
		all(op, func(x api.Insn) {
			w := want(uses, x)
			counts[w]++
			if no := insn.Check(x); no != w && bad < 20 {
				bad++
				t.Errorf("Check(%+v) is %d, want %d", x, no, w)
			}
		})
	}
	for _, no := range []api.Errno{api.OK, api.ErrOp, api.ErrReg, api.ErrRange, api.ErrField} {
		if counts[no] == 0 {
			t.Errorf("no instruction has the error %d", no)
		}
	}
}

// P2.1: there are 112 operations, and none outside a byte.
func TestCheckOperations(t *testing.T) {
	uses, n := table(), 0
	for op := -1024; op < 1024; op++ {
		no := insn.Check(plain(op))
		if no == api.OK {
			n++
		}
		if _, is := uses[op]; is != (no == api.OK) || !is && no != api.ErrOp {
			t.Errorf("Check of %#x is %d", op, no)
		}
	}
	if n != 112 {
		t.Errorf("there are %d operations", n)
	}
	for _, op := range []int{math.MinInt, math.MinInt + 0x18, math.MaxInt, 1<<32 + 0x18, 1<<8 + 0xb7, -0x100 + 0x95, 0x95 - 1<<63} {
		if no := insn.Check(api.Insn{Op: op, Dst: 99, Off: 1 << 40}); no != api.ErrOp {
			t.Errorf("Check of %#x is %d", op, no)
		}
	}
}

// P2.1: where several errors are so, ErrOp is ahead of ErrReg, ErrReg of ErrRange, ErrRange of ErrField.
func TestCheckOrderOfErrors(t *testing.T) {
	for _, c := range []struct {
		x    api.Insn
		want api.Errno
	}{
		{api.Insn{Op: 0x8f, Dst: 11, Off: 1 << 15, Imm: 1 << 31}, api.ErrOp},
		{api.Insn{Op: 0xd7, Dst: 10, Imm: 8}, api.ErrOp},
		{api.Insn{Op: 0xb7, Dst: 10, Off: 1 << 15, Imm: 1 << 31}, api.ErrReg},
		{api.Insn{Op: 0xb7, Src: 11, Off: 1}, api.ErrReg},
		{api.Insn{Op: 0x95, Dst: -1, Off: 1 << 15}, api.ErrReg},
		{api.Insn{Op: 0x95, Src: 11}, api.ErrReg},
		{api.Insn{Op: 0x18, Dst: 10, Src: 2}, api.ErrReg},
		{api.Insn{Op: 0xb7, Src: 1, Off: 1 << 15}, api.ErrRange},
		{api.Insn{Op: 0xbf, Imm: 1 << 31}, api.ErrRange},
		{api.Insn{Op: 0x95, Imm: -1<<31 - 1}, api.ErrRange},
		{api.Insn{Op: 0xd4, Imm: 1 << 31}, api.ErrRange},
		{api.Insn{Op: 0x18, Src: 2, Off: -32769}, api.ErrRange},
		{api.Insn{Op: 0x18, Src: 1, Imm: 1 << 40}, api.ErrField},
	} {
		if no := insn.Check(c.x); no != c.want {
			t.Errorf("Check(%+v) is %d, want %d", c.x, no, c.want)
		}
	}
}

// P2.1: every field that is not used must be 0, alone.
func TestCheckUnusedFields(t *testing.T) {
	for op, uses := range table() {
		for name, set := range map[string]func(*api.Insn){
			"d": func(x *api.Insn) { x.Dst = 1 }, "s": func(x *api.Insn) { x.Src = 1 },
			"o": func(x *api.Insn) { x.Off = -1 }, "i": func(x *api.Insn) { x.Imm = 32 },
		} {
			if op == 0x18 && name == "s" {
				continue
			}
			x, want := plain(op), api.OK
			set(&x)
			if !strings.Contains(uses, name) {
				want = api.ErrField
			}
			if no := insn.Check(x); no != want {
				t.Errorf("Check(%+v) is %d, want %d", x, no, want)
			}
		}
	}
}

// P2.1: of OpWide with SrcMap Imm is a map's number; with 0 it is any; no other Src.
func TestCheckWide(t *testing.T) {
	for imm := -3; imm < 20; imm++ {
		want := api.ErrField
		if imm >= 1 && imm <= api.MaxMaps {
			want = api.OK
		}
		if no := insn.Check(api.Insn{Op: api.OpWide, Src: api.SrcMap, Imm: imm}); no != want {
			t.Errorf("the map %d: %d, want %d", imm, no, want)
		}
		if no := insn.Check(api.Insn{Op: api.OpWide, Imm: imm}); no != api.OK {
			t.Errorf("the number %d: %d", imm, no)
		}
		if no := insn.Check(api.Insn{Op: api.OpWide, Src: 2, Imm: imm}); no != api.ErrField {
			t.Errorf("Src 2 and %d: %d", imm, no)
		}
	}
	for _, imm := range []int{math.MinInt, 1<<32 + 1, -1<<32 + 8, math.MaxInt} {
		if no := insn.Check(api.Insn{Op: api.OpWide, Src: api.SrcMap, Imm: imm}); no != api.ErrField {
			t.Errorf("the map %d: %d", imm, no)
		}
		if no := insn.Check(api.Insn{Op: api.OpWide, Imm: imm}); no != api.OK {
			t.Errorf("the number %d: %d", imm, no)
		}
	}
}

// P2.2: Size is 2 of OpWide alone, and Width is that of the table's memory operations, whatever other fields are.
func TestSizeAndWidth(t *testing.T) {
	widths := map[int]int{
		0x61: 4, 0x69: 2, 0x71: 1, 0x79: 8,
		0x62: 4, 0x6a: 2, 0x72: 1, 0x7a: 8,
		0x63: 4, 0x6b: 2, 0x73: 1, 0x7b: 8,
	}
	check := func(op int) {
		size := 1
		if op == 0x18 {
			size = 2
		}
		for _, x := range []api.Insn{{Op: op}, {Op: op, Dst: 99, Src: -1, Off: math.MinInt, Imm: math.MaxInt}} {
			if n := insn.Size(x); n != size {
				t.Errorf("Size(%+v) is %d, want %d", x, n, size)
			}
			if n := insn.Width(x); n != widths[op] {
				t.Errorf("Width(%+v) is %d, want %d", x, n, widths[op])
			}
		}
	}
	for op := -1024; op < 1024; op++ {
		check(op)
	}
	for _, op := range []int{math.MinInt + 0x61, math.MaxInt, 1<<32 + 0x18, 1<<32 + 0x79} {
		check(op)
	}
}

// bytesOf is an instruction's bytes, by the library.
func bytesOf(x api.Insn) []byte {
	b := make([]byte, 8)
	b[0], b[1] = byte(x.Op), byte(16*x.Src+x.Dst)
	binary.LittleEndian.PutUint16(b[2:], uint16(x.Off))
	binary.LittleEndian.PutUint32(b[4:], uint32(x.Imm))
	if x.Op == 0x18 {
		b = append(b, 0, 0, 0, 0)
		b = binary.LittleEndian.AppendUint32(b, uint32(uint64(x.Imm)>>32))
	}
	return b
}

// P2.3, P2.4, P2.5: each instruction that is one has its bytes, Size times eight of them, and comes back from them.
func TestEachInstructionAsBytes(t *testing.T) {
	for _, x := range good() {
		b, no := insn.Put([]api.Insn{x})
		if no != api.OK || !bytes.Equal(b, bytesOf(x)) || len(b) != 8*insn.Size(x) {
			t.Fatalf("Put of %+v is % x, %d, want % x", x, b, no, bytesOf(x))
		}
		if l, no := insn.Get(b); no != api.OK || !slices.Equal(l, []api.Insn{x}) {
			t.Fatalf("Get of % x is %+v, %d, want %+v", b, l, no, x)
		}
	}
}

// P2.3, P2.5: many instructions have the bytes of each, one behind the other.
func TestManyInstructionsAsBytes(t *testing.T) {
	l := good()
	for n := 0; n+200 < len(l); n += 4999 {
		part := l[n : n+200]
		var want []byte
		for _, x := range part {
			want = append(want, bytesOf(x)...)
		}
		b, no := insn.Put(part)
		if no != api.OK || !bytes.Equal(b, want) {
			t.Fatalf("Put from %d on: %d", n, no)
		}
		if back, no := insn.Get(b); no != api.OK || !slices.Equal(back, part) {
			t.Fatalf("Get from %d on: %d", n, no)
		}
	}
}

// P2.3: the first instruction that is none tells the error, whatever the next ones are.
func TestPutFirstError(t *testing.T) {
	exit, reg, field := api.Insn{Op: 0x95}, api.Insn{Op: 0xb7, Dst: 10}, api.Insn{Op: 0x95, Imm: 1}
	far, none := api.Insn{Op: 0xb7, Imm: 1 << 31}, api.Insn{}
	for _, c := range []struct {
		l    []api.Insn
		want api.Errno
	}{
		{[]api.Insn{none}, api.ErrOp},
		{[]api.Insn{exit, reg}, api.ErrReg},
		{[]api.Insn{field, reg, none}, api.ErrField},
		{[]api.Insn{exit, far, exit, none}, api.ErrRange},
		{append(slices.Repeat([]api.Insn{exit}, 255), field), api.ErrField},
		{append(slices.Repeat([]api.Insn{exit}, 256), none), api.ErrMany},
		{append([]api.Insn{none}, slices.Repeat([]api.Insn{exit}, 256)...), api.ErrMany},
	} {
		if b, no := insn.Put(c.l); no != c.want || len(b) != 0 {
			t.Errorf("Put of %d, the first %+v: % x, %d, want %d", len(c.l), c.l[0], b, no, c.want)
		}
	}
}

// P2.3, P2.4: as many instructions as may be, of one or of two times eight bytes, and one more.
func TestAsManyAsMayBe(t *testing.T) {
	for _, x := range []api.Insn{{Op: 0x95}, {Op: 0x18, Dst: 9, Imm: -2}} {
		l := slices.Repeat([]api.Insn{x}, api.MaxInsns)
		b, no := insn.Put(l)
		if no != api.OK || !bytes.Equal(b, bytes.Repeat(bytesOf(x), api.MaxInsns)) {
			t.Errorf("Put of %d: %d", len(l), no)
		}
		if back, no := insn.Get(b); no != api.OK || !slices.Equal(back, l) {
			t.Errorf("Get of %d: %d", len(l), no)
		}
		if b, no := insn.Put(append(l, x)); no != api.ErrMany || len(b) != 0 {
			t.Errorf("Put of one more: %d", no)
		}
		for _, more := range [][]byte{bytesOf(x), {0x95}, {0x18}, {0xff}, bytes.Repeat([]byte{0xff}, 8)} {
			if l, no := insn.Get(slices.Concat(b, more)); no != api.ErrMany || len(l) != 0 {
				t.Errorf("Get of that and % x: %d", more, no)
			}
		}
	}
}

// P2.3, P2.4: no instruction is no byte, and back.
func TestNothing(t *testing.T) {
	for _, l := range [][]api.Insn{nil, {}} {
		if b, no := insn.Put(l); no != api.OK || len(b) != 0 {
			t.Errorf("Put of nothing: % x, %d", b, no)
		}
	}
	for _, b := range [][]byte{nil, {}} {
		if l, no := insn.Get(b); no != api.OK || len(l) != 0 {
			t.Errorf("Get of nothing: %+v, %d", l, no)
		}
	}
}

// P2.4: bytes that end amid an instruction, wherever, are too few, though what is there be none.
func TestGetShort(t *testing.T) {
	ahead := bytesOf(api.Insn{Op: 0x95})
	for op := range 256 {
		whole := 8 * insn.Size(api.Insn{Op: op})
		for n := 1; n < whole; n++ {
			b := slices.Repeat([]byte{0xff}, n)
			b[0] = byte(op)
			for _, b := range [][]byte{b, slices.Concat(ahead, b)} {
				if l, no := insn.Get(b); no != api.ErrShort || len(l) != 0 {
					t.Errorf("Get of % x: %+v, %d", b, l, no)
				}
			}
		}
	}
}

// P2.4: each of the four noughts of OpWide is needed, and they are looked at behind its length and ahead of Check.
func TestGetNoughts(t *testing.T) {
	x := api.Insn{Op: 0x18, Dst: 2, Imm: -5}
	for i := 8; i < 12; i++ {
		for _, v := range []byte{1, 0x80, 0xff} {
			b := bytesOf(x)
			b[i] = v
			if l, no := insn.Get(b); no != api.ErrField || len(l) != 0 {
				t.Errorf("the byte %d is %d: %d", i, v, no)
			}
			b[1] = 0xbb // no registers
			if _, no := insn.Get(b); no != api.ErrField {
				t.Errorf("the byte %d is %d, and no registers: %d", i, v, no)
			}
			b[i] = 0
			if _, no := insn.Get(b); no != api.ErrReg {
				t.Errorf("noughts, and no registers: %d", no)
			}
		}
	}
}

// P2.4: the first instruction that has an error tells it, whatever comes behind it.
func TestGetFirstError(t *testing.T) {
	exit := bytesOf(api.Insn{Op: 0x95})
	none, reg, field := bytesOf(api.Insn{Op: 0x8f}), bytesOf(api.Insn{Op: 0xb7, Dst: 10}), bytesOf(api.Insn{Op: 0x95, Off: 1})
	for _, c := range []struct {
		b    []byte
		want api.Errno
	}{
		{slices.Concat(none, reg), api.ErrOp},
		{slices.Concat(exit, reg, none), api.ErrReg},
		{slices.Concat(field, []byte{1}), api.ErrField},
		{slices.Concat(exit, []byte{0x18}), api.ErrShort},
		{slices.Concat(bytes.Repeat(exit, 255), none, exit), api.ErrOp},
		{slices.Concat(reg, bytes.Repeat(exit, 256)), api.ErrReg},
	} {
		if l, no := insn.Get(c.b); no != c.want || len(l) != 0 {
			t.Errorf("Get of %d bytes: %d, want %d", len(c.b), no, c.want)
		}
	}
}

// P2.4, P2.5: whatever eight or sixteen bytes are, Get tells what Check tells of their fields, and Put makes again what it takes.
func TestGetOfWhateverBytes(t *testing.T) {
	uses, tails := table(), []string{
		"000000000000", "010000000000", "ffff00000000", "000010000000", "000020000000", "000040000000", "008000000000",
		"ff7fffffffff", "0000ffffff7f", "000000000080", "000001000000", "000008000000", "000009000000", "000000010000",
	}
	taken := 0
	for op := range 256 {
		for second := range 256 {
			for _, tail := range tails {
				rest, _ := hex.DecodeString(tail)
				b := append([]byte{byte(op), byte(second)}, rest...)
				x := api.Insn{Op: op, Dst: second % 16, Src: second / 16}
				x.Off = int(int16(binary.LittleEndian.Uint16(rest)))
				x.Imm = int(int32(binary.LittleEndian.Uint32(rest[2:])))
				if op == 0x18 {
					b = append(b, 0, 0, 0, 0, 0xfe, 0xff, 0xff, 0xff)
					x.Imm = x.Imm&(1<<32-1) - 2<<32
				}
				l, no := insn.Get(b)
				if no != want(uses, x) || no == api.OK && !slices.Equal(l, []api.Insn{x}) || no != api.OK && len(l) != 0 {
					t.Fatalf("Get of % x: %+v, %d, want %+v, %d", b, l, no, x, want(uses, x))
				}
				if no != api.OK {
					continue
				}
				taken++
				if again, no := insn.Put(l); no != api.OK || !bytes.Equal(again, b) {
					t.Fatalf("Put of Get of % x: % x, %d", b, again, no)
				}
			}
		}
	}
	if taken == 0 {
		t.Error("Get took none")
	}
}

// P2.6: unlike lists have unlike bytes: of all single instructions and of all short lists of some.
func TestUnlikeListsAreApart(t *testing.T) {
	seen := map[string]int{}
	l := good()
	some := []api.Insn{{Op: 0x95}, {Op: 0x05}, {Op: 0x18}, {Op: 0x18, Imm: 0x95 << 32}, {Op: 0x18, Imm: 0x95}, {Op: 0xb7, Imm: 0x95}}
	lists := [][]api.Insn{nil}
	for _, a := range some {
		for _, b := range some {
			lists = append(lists, []api.Insn{a, b})
			for _, c := range some {
				lists = append(lists, []api.Insn{a, b, c})
			}
		}
	}
	for _, x := range l {
		lists = append(lists, []api.Insn{x})
	}
	for i, l := range lists {
		b, no := insn.Put(l)
		if no != api.OK {
			t.Fatalf("Put of %+v: %d", l, no)
		}
		if j, is := seen[string(b)]; is {
			t.Fatalf("%+v and %+v have the bytes % x", lists[j], l, b)
		}
		seen[string(b)] = i
	}
}

// The chapter's examples.
func TestExamples(t *testing.T) {
	for _, c := range []struct {
		x    api.Insn
		want string
	}{
		{api.Insn{Op: 0xb7, Dst: 1, Imm: -1}, "b7 01 00 00 ff ff ff ff"},
		{api.Insn{Op: 0x18, Dst: 2, Imm: 1<<32 + 5}, "18 02 00 00 05 00 00 00 00 00 00 00 01 00 00 00"},
		{api.Insn{Op: 0x7b, Dst: 10, Src: 1, Off: -8}, "7b 1a f8 ff 00 00 00 00"},
	} {
		b, no := insn.Put([]api.Insn{c.x})
		if want, _ := hex.DecodeString(strings.ReplaceAll(c.want, " ", "")); no != api.OK || !bytes.Equal(b, want) {
			t.Errorf("Put of %+v: % x, %d, want %s", c.x, b, no, c.want)
		}
	}
	for _, c := range []struct {
		x    api.Insn
		want api.Errno
	}{
		{api.Insn{Op: 0xb7, Dst: 10}, api.ErrReg}, {api.Insn{Op: 0xb7, Dst: 1, Src: 1}, api.ErrField}, {api.Insn{Op: 0x8f}, api.ErrOp},
		{api.Insn{Op: 0xb7, Imm: 1 << 31}, api.ErrRange}, {api.Insn{Op: 0xd4, Imm: 8}, api.ErrField},
	} {
		if no := insn.Check(c.x); no != c.want {
			t.Errorf("Check(%+v) is %d, want %d", c.x, no, c.want)
		}
		if b, no := insn.Put([]api.Insn{c.x}); no != c.want || len(b) != 0 {
			t.Errorf("Put of %+v: % x, %d, want %d", c.x, b, no, c.want)
		}
	}
}

// R3: what is handed in stays as it is, with the spare room behind it, and answers share no memory.
func TestMemoryIsNew(t *testing.T) {
	room := []api.Insn{{Op: 0xb7, Imm: 1}, {Op: 0x95}, {Op: 0xff, Dst: 7}}
	kept := slices.Clone(room)
	b, _ := insn.Put(room[:2])
	c, _ := insn.Put(room[:2])
	if !slices.Equal(room, kept) {
		t.Errorf("Put changed its list: %+v", room)
	}
	bytesRoom := append(slices.Clone(b), 0xee)
	keptBytes := slices.Clone(bytesRoom)
	l, _ := insn.Get(bytesRoom[:16])
	m, _ := insn.Get(bytesRoom[:16])
	if !bytes.Equal(bytesRoom, keptBytes) {
		t.Errorf("Get changed its bytes: % x", bytesRoom)
	}
	b[0], l[0] = 0, api.Insn{}
	if !bytes.Equal(c, keptBytes[:16]) || !slices.Equal(m, kept[:2]) {
		t.Error("two answers share memory")
	}
}
