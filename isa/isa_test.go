package isa

import (
	"math"
	"slices"
	"strconv"
	"sync"
	"testing"

	"tenement/alu"
	"tenement/api"
)

// rule is what the document says of an instruction's words, bit by bit from 31 to 0: 0 and 1 are fixed, d, n, m, i are the bits of its fields. Imm is from least to most; it is a number in two's complement, or stands there less its sign.
type rule struct {
	op          int8
	bits        string
	text        string
	least, most int64
	two, minus  bool
}

func rules() []rule {
	return []rule{
		{op: api.InNop, bits: "11010101000000110010000000011111", text: "nop"},
		{op: api.InMov, bits: "11010010100iiiiiiiiiiiiiiii00ddd", text: "mov D,I", most: 65535},
		{op: api.InAdd, bits: "1000101100000mmm00000000nnn00ddd", text: "add D,N,M"},
		{op: api.InSub, bits: "1100101100000mmm00000000nnn00ddd", text: "sub D,N,M"},
		{op: api.InAnd, bits: "1000101000000mmm00000000nnn00ddd", text: "and D,N,M"},
		{op: api.InOrr, bits: "1010101000000mmm00000000nnn00ddd", text: "orr D,N,M"},
		{op: api.InEor, bits: "1100101000000mmm00000000nnn00ddd", text: "eor D,N,M"},
		{op: api.InAddi, bits: "1001000100iiiiiiiiiiii00nnn00ddd", text: "addi D,N,I", most: 2047},
		{op: api.InAddi, bits: "1101000100iiiiiiiiiiii00nnn00ddd", text: "addi D,N,I", least: -2048, most: -1, minus: true},
		{op: api.InLdr, bits: "111110010100000000000000nnn00ddd", text: "ldr D,N"},
		{op: api.InStr, bits: "111110010000000000000000nnn00ddd", text: "str D,N"},
		{op: api.InLdxr, bits: "110010000101111101111100nnn00ddd", text: "ldxr D,N"},
		{op: api.InStxr, bits: "1100100000000mmm01111100nnn00ddd", text: "stxr D,N,M"},
		{op: api.InStlr, bits: "110010001001111111111100nnn00ddd", text: "stlr D,N"},
		{op: api.InDmb, bits: "11010101000000110011111110111111", text: "dmb"},
		{op: api.InB, bits: "000101iiiiiiiiiiiiiiiiiiiiiiiiii", text: "b I", least: -1024, most: 1023, two: true},
		{op: api.InCbz, bits: "10110100iiiiiiiiiiiiiiiiiii00ddd", text: "cbz D,I", least: -1024, most: 1023, two: true},
		{op: api.InCbnz, bits: "10110101iiiiiiiiiiiiiiiiiii00ddd", text: "cbnz D,I", least: -1024, most: 1023, two: true},
		{op: api.InSvc, bits: "11010100000000000000000000000001", text: "svc"},
	}
}

// reading is a rule as bits of a word: which are fixed, and how; which are a field's, from its lowest on.
type reading struct {
	rule
	mask, word uint32
	own        map[byte][]int
}

func readings() []reading {
	var l []reading
	for _, r := range rules() {
		x := reading{rule: r, own: map[byte][]int{}}
		for k := range 32 {
			switch c := r.bits[31-k]; c {
			case '0', '1':
				x.mask |= 1 << k
				x.word |= uint32(c-'0') << k
			default:
				x.own[c] = append(x.own[c], k)
			}
		}
		l = append(l, x)
	}
	return l
}

// number is what the bits of a field say, each worth twice the one below it.
func (x *reading) number(w uint32, field byte) int64 {
	sum, worth := int64(0), int64(1)
	for _, k := range x.own[field] {
		sum += int64(w>>k&1) * worth
		worth *= 2
	}
	return sum
}

// decode reads a word as the rules say, InBad if none of them does.
func decode(l []reading, w uint32) api.Instr {
	for k := range l {
		x := &l[k]
		if w&x.mask != x.word {
			continue
		}
		i := api.Instr{Op: x.op, D: int8(x.number(w, 'd')), N: int8(x.number(w, 'n')), M: int8(x.number(w, 'm')), Imm: x.number(w, 'i')}
		if x.minus {
			i.Imm = -i.Imm
		}
		if half := int64(1) << len(x.own['i']) / 2; x.two && i.Imm >= half {
			i.Imm -= 2 * half
		}
		if x.least <= i.Imm && i.Imm <= x.most {
			return i
		}
	}
	return api.Instr{Op: api.InBad}
}

// spread puts a number's lower bits to the places of a field.
func (x *reading) spread(field byte, v int64) uint32 {
	var w uint32
	for at, k := range x.own[field] {
		w |= uint32(v>>at&1) << k
	}
	return w
}

// encode is the word of an instruction of this rule.
func (x *reading) encode(i api.Instr) uint32 {
	imm := i.Imm
	if x.minus {
		imm = -imm
	}
	return x.word | x.spread('d', int64(i.D)) | x.spread('n', int64(i.N)) | x.spread('m', int64(i.M)) | x.spread('i', imm)
}

// registers are the numbers that a field may have, 0 alone if there is none.
func (x *reading) registers(field byte) []int8 {
	if len(x.own[field]) == 0 {
		return []int8{0}
	}
	return []int8{0, 1, 2, 3, 4, 5, 6, 7}
}

// each calls f with every instruction that may be, but InBad, and the rule of it.
func each(f func(x *reading, i api.Instr)) {
	for _, x := range readings() {
		for imm := x.least; imm <= x.most; imm++ {
			for _, d := range x.registers('d') {
				for _, n := range x.registers('n') {
					for _, m := range x.registers('m') {
						f(&x, api.Instr{Op: x.op, D: d, N: n, M: m, Imm: imm})
					}
				}
			}
		}
	}
}

// eachWord calls f with the words near to those of instructions, and with many others: all lower halves below the upper halves of the rules and of their neighbours, some lower halves below all upper ones.
func eachWord(f func(w uint32)) {
	upper := map[uint32]bool{0: true, 0xffff: true}
	lower := map[uint32]bool{0: true, 0xffff: true}
	for _, x := range readings() {
		u, l := x.word>>16, x.word&0xffff
		upper[u], lower[l] = true, true
		for k := range 16 {
			upper[u^1<<k] = true
			lower[l^1<<k] = true
			lower[l|0xe7^1<<k] = true
		}
	}
	for u := range upper {
		for l := range uint32(1 << 16) {
			f(u<<16 | l)
		}
	}
	for l := range lower {
		for u := range uint32(1 << 16) {
			f(u<<16 | l)
		}
	}
}

// someWords calls f with one word of 61 of those of eachWord.
func someWords(f func(w uint32)) {
	eachWord(func(w uint32) {
		if w%61 == 0 {
			f(w)
		}
	})
}

// wrong are instructions that may not be: those that may, with one field beyond its bounds, or one that they do not have; Ops that there are not.
func wrong() []api.Instr {
	var l []api.Instr
	beyond := []int8{math.MinInt8, -8, -1, 8, 9, 16, 31, 32, math.MaxInt8}
	bounds := map[int8][2]int64{}
	for _, x := range readings() {
		old := bounds[x.op]
		bounds[x.op] = [2]int64{min(old[0], x.least), max(old[1], x.most)}
		for _, k := range beyond {
			l = append(l, api.Instr{Op: x.op, D: k, Imm: x.least}, api.Instr{Op: x.op, N: k, Imm: x.least}, api.Instr{Op: x.op, M: k, Imm: x.least})
		}
		for field, i := range map[byte]api.Instr{'d': {Op: x.op, D: 1}, 'n': {Op: x.op, N: 1}, 'm': {Op: x.op, M: 1}} {
			if len(x.own[field]) == 0 {
				l = append(l, i)
			}
		}
	}
	for op, b := range bounds {
		for _, imm := range []int64{b[0] - 1, b[1] + 1, b[0] - 1<<32, b[1] + 1<<32, math.MinInt64, math.MaxInt64} {
			l = append(l, api.Instr{Op: op, Imm: imm})
		}
	}
	for op := math.MinInt8; op <= math.MaxInt8; op++ {
		if op < 0 || op > int(api.InBad) {
			l = append(l, api.Instr{Op: int8(op)}, api.Instr{Op: int8(op), D: 1, N: 2, M: 3, Imm: 4})
		}
	}
	return append(l, api.Instr{Op: api.InBad, D: 1}, api.Instr{Op: api.InBad, N: 1}, api.Instr{Op: api.InBad, M: 1}, api.Instr{Op: api.InBad, Imm: 1}, api.Instr{Op: api.InBad, Imm: -1})
}

// example is an instruction with its word and its text, written out.
type example struct {
	w    uint32
	i    api.Instr
	text string
}

func examples() []example {
	return []example{
		{0xd503201f, api.Instr{}, "nop"},
		{0xd28000a3, api.Instr{Op: api.InMov, D: 3, Imm: 5}, "mov x3,5"},
		{0xd2800000, api.Instr{Op: api.InMov}, "mov x0,0"},
		{0xd29fffe7, api.Instr{Op: api.InMov, D: 7, Imm: 65535}, "mov x7,65535"},
		{0x8b030041, api.Instr{Op: api.InAdd, D: 1, N: 2, M: 3}, "add x1,x2,x3"},
		{0xcb0000e0, api.Instr{Op: api.InSub, N: 7}, "sub x0,x7,x0"},
		{0x8a070000, api.Instr{Op: api.InAnd, M: 7}, "and x0,x0,x7"},
		{0xaa000007, api.Instr{Op: api.InOrr, D: 7}, "orr x7,x0,x0"},
		{0xca0700e7, api.Instr{Op: api.InEor, D: 7, N: 7, M: 7}, "eor x7,x7,x7"},
		{0x91000041, api.Instr{Op: api.InAddi, D: 1, N: 2}, "addi x1,x2,0"},
		{0x911ffc41, api.Instr{Op: api.InAddi, D: 1, N: 2, Imm: 2047}, "addi x1,x2,2047"},
		{0xd1000441, api.Instr{Op: api.InAddi, D: 1, N: 2, Imm: -1}, "addi x1,x2,-1"},
		{0xd1200041, api.Instr{Op: api.InAddi, D: 1, N: 2, Imm: -2048}, "addi x1,x2,-2048"},
		{0xf9400041, api.Instr{Op: api.InLdr, D: 1, N: 2}, "ldr x1,x2"},
		{0xf9000041, api.Instr{Op: api.InStr, D: 1, N: 2}, "str x1,x2"},
		{0xc85f7c41, api.Instr{Op: api.InLdxr, D: 1, N: 2}, "ldxr x1,x2"},
		{0xc8037c41, api.Instr{Op: api.InStxr, D: 1, N: 2, M: 3}, "stxr x1,x2,x3"},
		{0xc89ffc41, api.Instr{Op: api.InStlr, D: 1, N: 2}, "stlr x1,x2"},
		{0xd5033fbf, api.Instr{Op: api.InDmb}, "dmb"},
		{0x14000000, api.Instr{Op: api.InB}, "b 0"},
		{0x17ffffff, api.Instr{Op: api.InB, Imm: -1}, "b -1"},
		{0x140003ff, api.Instr{Op: api.InB, Imm: 1023}, "b 1023"},
		{0x17fffc00, api.Instr{Op: api.InB, Imm: -1024}, "b -1024"},
		{0xb4000047, api.Instr{Op: api.InCbz, D: 7, Imm: 2}, "cbz x7,2"},
		{0xb5ffffa0, api.Instr{Op: api.InCbnz, Imm: -3}, "cbnz x0,-3"},
		{0xd4000001, api.Instr{Op: api.InSvc}, "svc"},
	}
}

// P7.1

func TestDecodeAndEncodeExamples(t *testing.T) {
	for _, c := range examples() {
		if i := Decode(c.w); i != c.i {
			t.Errorf("Decode(%x) is %v", c.w, i)
		}
		if w, e := Encode(c.i); w != c.w || e != api.OK {
			t.Errorf("Encode(%v) is %x, %v", c.i, w, e)
		}
	}
}

func TestWordsOfNoneAreBad(t *testing.T) {
	for _, w := range []uint32{
		0, 1, math.MaxUint32,
		0xd28000a8, 0xd28000b3, 0xd2a000a3, 0xd30000a3, // mov with register 8, with 16, moved up, another
		0x8b080041, 0x8b100041, 0x8b030101, 0x8b030241, 0x8b030441, 0x8b030048, 0x8b030051, // add with register 8 or 16, with a shift
		0x91200041, 0x913ffc41, 0x91400041, 0x91000048, 0x91000101, // addi beyond 2047, moved up, with register 8
		0xd1000041, 0xd1200441, 0xd13ffc41, 0xd1400441, // addi of -0, beyond -2048, moved up
		0xf9400441, 0xf9000441, 0xf9c00041, // ldr and str with a place behind the register, a prefetch
		0xc85ffc41, 0xc8407c41, 0xc8087c41, 0xc803fc41, 0xc89f7c41, 0xc8dffc41, // others of the exclusive ones
		0x14000400, 0x17fffbff, 0x16000000, 0x15ffffff, 0x94000000, // b beyond 1023, beyond -1024, the farthest ones, another
		0xb4008000, 0xb4ff7fe0, 0xb4800000, 0xb47fffe0, 0xb4000048, 0xb5008000, 0xb5ff7fe0, 0xb5000010, // cbz and cbnz likewise
		0xd503205f, 0xd5033bbf, 0xd5033f9f, 0xd5033fdf, // hints, other barriers
		0xd4000021, 0xd4000000, 0xd4000002, // svc with a number, others
	} {
		if i := Decode(w); i != (api.Instr{Op: api.InBad}) {
			t.Errorf("Decode(%x) is %v", w, i)
		}
	}
}

func TestDecodeIsAsTheBitsSay(t *testing.T) {
	l := readings()
	someWords(func(w uint32) {
		if i, want := Decode(w), decode(l, w); i != want {
			t.Fatalf("Decode(%x) is %v, want %v", w, i, want)
		}
	})
}

// One decoder reads all the words: of Decode's own there is one a call, which takes its time.
func TestDecoderIsAsTheBitsSay(t *testing.T) {
	l := readings()
	var d decoder
	eachWord(func(w uint32) {
		if i, want := d.decode(w), decode(l, w); i != want {
			t.Fatalf("decode(%x) is %v, want %v", w, i, want)
		}
	})
}

func TestDecodeOneOrTwoBitsBesideInstructions(t *testing.T) {
	l := readings()
	for _, c := range examples() {
		for k := range 32 {
			for j := range 32 {
				w := c.w ^ 1<<k ^ 1<<j
				if i, want := Decode(w), decode(l, w); i != want {
					t.Fatalf("Decode(%x) is %v, want %v", w, i, want)
				}
			}
		}
	}
}

func TestEncodeIsAsTheBitsSay(t *testing.T) {
	each(func(x *reading, i api.Instr) {
		if w, e := Encode(i); w != x.encode(i) || e != api.OK {
			t.Fatalf("Encode(%v) is %x, %v, want %x", i, w, e, x.encode(i))
		}
	})
}

func TestEncodeRefusesWhatMayNotBe(t *testing.T) {
	for _, i := range append(wrong(), api.Instr{Op: api.InBad}) {
		if w, e := Encode(i); w != 0 || e != api.ErrInstr {
			t.Errorf("Encode(%v) is %x, %v", i, w, e)
		}
	}
}

func TestImageIsAllWordsInOrder(t *testing.T) {
	for _, empty := range [][]api.Instr{nil, {}} {
		if l, e := Image(empty); len(l) != 0 || e != api.OK {
			t.Errorf("Image(%v) is %x, %v", empty, l, e)
		}
	}
	var all []api.Instr
	var want []uint32
	each(func(x *reading, i api.Instr) {
		if i.Imm >= -2 && i.Imm <= 2 {
			all = append(all, i)
			want = append(want, x.encode(i))
		}
	})
	for _, n := range []int{1, 2, api.MaxImage, api.MaxImage + 1, len(all)} {
		if l, e := Image(all[:n]); !slices.Equal(l, want[:n]) || e != api.OK {
			t.Errorf("Image of %d is %x, %v", n, l, e)
		}
	}
	slices.Reverse(all)
	slices.Reverse(want)
	if l, e := Image(all); !slices.Equal(l, want) || e != api.OK {
		t.Errorf("Image backwards is not all words: %v", e)
	}
	same := slices.Repeat([]api.Instr{{Op: api.InB, Imm: -1}}, 100)
	if l, e := Image(same); !slices.Equal(l, slices.Repeat([]uint32{0x17ffffff}, 100)) || e != api.OK {
		t.Errorf("Image of the same 100 times is %x, %v", l, e)
	}
}

func TestImageRefusesOneThatMayNotBe(t *testing.T) {
	for _, bad := range append(wrong(), api.Instr{Op: api.InBad}) {
		for at := range 3 {
			image := []api.Instr{{Op: api.InMov, D: 1, Imm: 2}, {}, {Op: api.InSvc}}
			image[at] = bad
			if l, e := Image(image); l != nil || e != api.ErrInstr {
				t.Errorf("Image(%v) is %x, %v", image, l, e)
			}
		}
	}
}

func TestImageIsNewAndLeavesItsArgument(t *testing.T) {
	spare := api.Instr{Op: api.InBad, D: 9}
	given := []api.Instr{{Op: api.InAddi, D: 1, N: 2, Imm: -3}, {Op: api.InSvc}, spare, spare}
	old := slices.Clone(given)
	first, _ := Image(given[:2])
	kept := slices.Clone(first)
	second, _ := Image(given[:2])
	for k := range second {
		second[k] = 0
	}
	_ = append(second, 1)
	if !slices.Equal(first, kept) || !slices.Equal(given, old) {
		t.Errorf("an answer shares memory: %x, %v", first, given)
	}
	given[0] = api.Instr{}
	if third, e := Image(given[:2]); !slices.Equal(first, kept) || third[0] != 0xd503201f || e != api.OK {
		t.Errorf("what was handed in is kept: %x, %x", first, third)
	}
}

func TestDecodeByManyAtOnce(t *testing.T) {
	l := readings()
	answers := make([]bool, 8)
	var all sync.WaitGroup
	for k := range answers {
		all.Go(func() {
			right := true
			for _, c := range examples() {
				w := c.w ^ uint32(k)
				right = right && Decode(w) == decode(l, w)
			}
			answers[k] = right
		})
	}
	all.Wait()
	if slices.Contains(answers, false) {
		t.Error(answers)
	}
}

func TestRowsAreMadeOnceAndApart(t *testing.T) {
	var d decoder
	if len(d.made) > 0 {
		t.Error("there are rows ahead of the first call that wants them")
	}
	d.decode(0)
	l := d.made
	d.decode(0xd503201f)
	if again := d.rows(); len(l) == 0 || len(again) != len(l) || &again[0] != &l[0] {
		t.Error("the rows are not made, or made again")
	}
	var other decoder
	if &other.rows()[0] == &l[0] {
		t.Error("two objects share their rows")
	}
	for k, a := range l {
		for _, b := range l[:k] {
			if both := a.mask & b.mask; a.word&both == b.word&both {
				t.Errorf("%x and %x have words alike", a.word, b.word)
			}
		}
	}
}

// P7.2

func TestTextExamples(t *testing.T) {
	for _, c := range examples() {
		if s := Text(c.i); s != c.text {
			t.Errorf("Text(%v) is %q, want %q", c.i, s, c.text)
		}
	}
	if s := Text(api.Instr{Op: api.InBad}); s != "bad" {
		t.Errorf("the text of InBad is %q", s)
	}
}

func TestTextIsAsTheRuleSays(t *testing.T) {
	each(func(x *reading, i api.Instr) {
		if s, want := Text(i), tell(x.text, i); s != want {
			t.Fatalf("Text(%v) is %q, want %q", i, s, want)
		}
	})
}

// tell puts the numbers of the fields into the text of a rule.
func tell(text string, i api.Instr) string {
	var l []byte
	for _, c := range []byte(text) {
		switch c {
		case 'D':
			l = append(l, 'x', '0'+byte(i.D))
		case 'N':
			l = append(l, 'x', '0'+byte(i.N))
		case 'M':
			l = append(l, 'x', '0'+byte(i.M))
		case 'I':
			l = strconv.AppendInt(l, i.Imm, 10)
		default:
			l = append(l, c)
		}
	}
	return string(l)
}

func TestTextOfWhatMayNotBeIsBad(t *testing.T) {
	for _, i := range wrong() {
		if s := Text(i); s != "bad" {
			t.Errorf("Text(%v) is %q", i, s)
		}
	}
}

// P7.3

func TestDecodeOfEncodeIsTheInstruction(t *testing.T) {
	each(func(_ *reading, i api.Instr) {
		w, e := Encode(i)
		if back := Decode(w); back != i || e != api.OK {
			t.Fatalf("Encode(%v) is %x, %v, Decode of which is %v", i, w, e, back)
		}
	})
}

func TestEncodeOfDecodeIsTheWord(t *testing.T) {
	var d decoder
	eachWord(func(w uint32) {
		i := d.decode(w)
		switch v, e := Encode(i); {
		case i.Op == api.InBad && (i != api.Instr{Op: api.InBad} || v != 0 || e != api.ErrInstr):
			t.Fatalf("Decode(%x) is %v, Encode of which is %x, %v", w, i, v, e)
		case i.Op != api.InBad && (v != w || e != api.OK):
			t.Fatalf("Decode(%x) is %v, Encode of which is %x, %v", w, i, v, e)
		}
	})
}

func TestWhatDecodeTellsMayBe(t *testing.T) {
	var d decoder
	eachWord(func(w uint32) {
		if i := d.decode(w); alu.Check(i) != api.OK {
			t.Fatalf("Decode(%x) is %v", w, i)
		}
	})
}

func TestUnlikeInstructionsHaveUnlikeWords(t *testing.T) {
	seen := map[uint32]api.Instr{}
	each(func(_ *reading, i api.Instr) {
		w, _ := Encode(i)
		if j, is := seen[w]; is {
			t.Fatalf("%v and %v are both %x", i, j, w)
		}
		seen[w] = i
	})
}
