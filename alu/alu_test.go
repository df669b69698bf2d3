package alu

import (
	"math"
	"math/big"
	"slices"
	"strings"
	"testing"

	"tenement/api"
)

// rule is what the document says of an Op: its fields, which of them name registers that it reads, or one that it writes, the bounds of Imm, whether it is done on registers, or wants memory.
type rule struct {
	has, reads, writes string
	least, most        int64
	alu, memory        bool
}

func rules() map[int8]rule {
	return map[int8]rule{
		api.InNop:  {alu: true},
		api.InMov:  {has: "D", writes: "D", most: 65535, alu: true},
		api.InAdd:  {has: "DNM", reads: "NM", writes: "D", alu: true},
		api.InSub:  {has: "DNM", reads: "NM", writes: "D", alu: true},
		api.InAnd:  {has: "DNM", reads: "NM", writes: "D", alu: true},
		api.InOrr:  {has: "DNM", reads: "NM", writes: "D", alu: true},
		api.InEor:  {has: "DNM", reads: "NM", writes: "D", alu: true},
		api.InAddi: {has: "DN", reads: "N", writes: "D", least: -2048, most: 2047, alu: true},
		api.InLdr:  {has: "DN", reads: "N", writes: "D", memory: true},
		api.InStr:  {has: "DN", reads: "DN", memory: true},
		api.InLdxr: {has: "DN", reads: "N", writes: "D", memory: true},
		api.InStxr: {has: "DNM", reads: "DN", writes: "M", memory: true},
		api.InStlr: {has: "DN", reads: "DN", memory: true},
		api.InDmb:  {},
		api.InB:    {least: -1024, most: 1023, alu: true},
		api.InCbz:  {has: "D", reads: "D", least: -1024, most: 1023, alu: true},
		api.InCbnz: {has: "D", reads: "D", least: -1024, most: 1023, alu: true},
		api.InSvc:  {},
		api.InBad:  {},
	}
}

// named are the numbers in the fields.
func named(i api.Instr) map[string]int8 {
	return map[string]int8{"D": i.D, "N": i.N, "M": i.M}
}

// mayBe says by the rule of its Op whether an instruction may be.
func mayBe(i api.Instr, r rule, is bool) bool {
	return is && i.Imm >= r.least && i.Imm <= r.most && mayName(r.has, "D", i.D) && mayName(r.has, "N", i.N) && mayName(r.has, "M", i.M)
}

func mayName(has, field string, k int8) bool {
	if strings.Contains(has, field) {
		return k >= 0 && k <= 7
	}
	return k == 0
}

// readBy and writtenBy say by the rule what an instruction that may be reads and writes.
func readBy(i api.Instr, r rule) []int {
	if i.Op == api.InSvc {
		return []int{0, 1, 2, 3}
	}
	var l []int
	for k := range api.Registers {
		for field, register := range named(i) {
			if strings.Contains(r.reads, field) && int(register) == k && !slices.Contains(l, k) {
				l = append(l, k)
			}
		}
	}
	return l
}

func writtenBy(i api.Instr, r rule) (int, bool) {
	if i.Op == api.InSvc {
		return 0, true
	}
	for field, register := range named(i) {
		if field == r.writes {
			return int(register), true
		}
	}
	return 0, false
}

// imms are the bounds of all that there are, and some beyond.
func imms() []int64 {
	return []int64{math.MinInt64, math.MinInt32, -1 << 16, -2049, -2048, -2047, -1025, -1024, -1023, -2, -1, 0, 1, 2, 1022, 1023, 1024, 2046, 2047, 2048, 65534, 65535, 65536, 1<<32 + 5, math.MaxInt64}
}

// eachInstr calls f with instructions of all Ops, also of those that are none, with registers' numbers and Imms at the bounds and beyond (few of them for Ops far from the others).
func eachInstr(f func(i api.Instr)) {
	near := []int8{math.MinInt8, -8, -1, 0, 1, 2, 3, 4, 5, 6, 7, 8, 9, 16, math.MaxInt8}
	few := []int8{-1, 0, 7, 8}
	for op := math.MinInt8; op <= math.MaxInt8; op++ {
		numbers := near
		if op < -1 || op > int(api.InBad)+1 {
			numbers = few
		}
		for _, d := range numbers {
			for _, n := range numbers {
				for _, m := range numbers {
					for _, imm := range imms() {
						f(api.Instr{Op: int8(op), D: d, N: n, M: m, Imm: imm})
					}
				}
			}
		}
	}
}

// eachThatMayBe calls f with instructions of all Ops that there are, of all registers, with Imms at the bounds and between.
func eachThatMayBe(f func(i api.Instr, r rule)) {
	all := rules()
	eachInstr(func(i api.Instr) {
		if r, is := all[i.Op]; mayBe(i, r, is) {
			f(i, r)
		}
	})
}

// files are registers as they may stand: all alike, all unlike, at the bounds of numbers, mixed by a fixed rule.
func files() []registers {
	var top, mixed, more registers
	x := uint64(0x9e3779b97f4a7c15)
	for k := range api.Registers {
		top[k] = math.MaxUint64
		x ^= x << 13
		x ^= x >> 7
		x ^= x << 17
		mixed[k] = x
		more[k] = x>>7 ^ ^x
	}
	return []registers{
		{},
		top,
		{1, 2, 3, 4, 5, 6, 7, 8},
		{0, 5, 7, math.MaxUint64, 1 << 63, 1<<63 - 1, 1, 2048},
		{math.MaxUint64, 0, 1 << 63, 0, 1<<32 - 1, 1 << 32, 0xaaaaaaaaaaaaaaaa, 0x5555555555555555},
		mixed,
		more,
	}
}

// pcs are program counters, and such as are none.
func pcs() []int {
	return []int{math.MinInt, math.MinInt + 1, math.MinInt + 1023, -1025, -1, 0, 1, 5, 10, 63, 64, 1024, math.MaxInt - 1023, math.MaxInt - 1, math.MaxInt}
}

// P6.1

func TestCheckExamples(t *testing.T) {
	for _, c := range []struct {
		i    api.Instr
		want api.Errno
	}{
		{api.Instr{}, api.OK},
		{api.Instr{Op: api.InNop, Imm: 1}, api.ErrInstr},
		{api.Instr{Op: api.InNop, D: 1}, api.ErrInstr},
		{api.Instr{Op: api.InMov, D: 7, Imm: 65535}, api.OK},
		{api.Instr{Op: api.InMov, D: 8, Imm: 65535}, api.ErrInstr},
		{api.Instr{Op: api.InMov, D: 7, Imm: 65536}, api.ErrInstr},
		{api.Instr{Op: api.InMov, D: 7, Imm: -1}, api.ErrInstr},
		{api.Instr{Op: api.InMov, N: 1}, api.ErrInstr},
		{api.Instr{Op: api.InMov, M: 1}, api.ErrInstr},
		{api.Instr{Op: api.InAdd, D: 7, N: 7, M: 7}, api.OK},
		{api.Instr{Op: api.InAdd, D: 7, N: 7, M: 8}, api.ErrInstr},
		{api.Instr{Op: api.InSub, D: 7, N: -1, M: 7}, api.ErrInstr},
		{api.Instr{Op: api.InEor, D: 1, N: 2, M: 3, Imm: 1}, api.ErrInstr},
		{api.Instr{Op: api.InAddi, D: 1, N: 2, Imm: -2048}, api.OK},
		{api.Instr{Op: api.InAddi, D: 1, N: 2, Imm: -2049}, api.ErrInstr},
		{api.Instr{Op: api.InAddi, D: 1, N: 2, Imm: 2047}, api.OK},
		{api.Instr{Op: api.InAddi, D: 1, N: 2, Imm: 2048}, api.ErrInstr},
		{api.Instr{Op: api.InAddi, D: 1, N: 2, M: 1}, api.ErrInstr},
		{api.Instr{Op: api.InLdr, D: 1, N: 2}, api.OK},
		{api.Instr{Op: api.InLdr, D: 1, N: 2, M: 1}, api.ErrInstr},
		{api.Instr{Op: api.InLdr, D: 1, N: 2, Imm: 8}, api.ErrInstr},
		{api.Instr{Op: api.InLdxr, D: 1, N: 2, M: 1}, api.ErrInstr},
		{api.Instr{Op: api.InStr, D: 7, N: 7}, api.OK},
		{api.Instr{Op: api.InStlr, D: 7, N: 7, M: 7}, api.ErrInstr},
		{api.Instr{Op: api.InStxr, D: 7, N: 7, M: 7}, api.OK},
		{api.Instr{Op: api.InStxr, D: 7, N: 7, M: 8}, api.ErrInstr},
		{api.Instr{Op: api.InDmb}, api.OK},
		{api.Instr{Op: api.InDmb, N: 1}, api.ErrInstr},
		{api.Instr{Op: api.InB, Imm: -1024}, api.OK},
		{api.Instr{Op: api.InB, Imm: -1025}, api.ErrInstr},
		{api.Instr{Op: api.InB, Imm: 1023}, api.OK},
		{api.Instr{Op: api.InB, Imm: 1024}, api.ErrInstr},
		{api.Instr{Op: api.InB, D: 1}, api.ErrInstr},
		{api.Instr{Op: api.InCbz, D: 7, Imm: 1023}, api.OK},
		{api.Instr{Op: api.InCbz, D: 7, Imm: 1024}, api.ErrInstr},
		{api.Instr{Op: api.InCbnz, D: 7, Imm: -1024}, api.OK},
		{api.Instr{Op: api.InCbnz, D: 7, N: 1, Imm: -1024}, api.ErrInstr},
		{api.Instr{Op: api.InSvc}, api.OK},
		{api.Instr{Op: api.InSvc, Imm: 1}, api.ErrInstr},
		{api.Instr{Op: api.InBad}, api.OK},
		{api.Instr{Op: api.InBad, D: 1}, api.ErrInstr},
		{api.Instr{Op: api.InBad + 1}, api.ErrInstr},
		{api.Instr{Op: -1}, api.ErrInstr},
		{api.Instr{Op: math.MinInt8}, api.ErrInstr},
		{api.Instr{Op: math.MaxInt8}, api.ErrInstr},
	} {
		if e := Check(c.i); e != c.want {
			t.Errorf("Check(%+v): %v, not %v", c.i, e, c.want)
		}
	}
}

func TestCheckOfAnyInstruction(t *testing.T) {
	all, n := rules(), 0
	eachInstr(func(i api.Instr) {
		want := api.ErrInstr
		if r, is := all[i.Op]; mayBe(i, r, is) {
			want = api.OK
			n++
		}
		if e := Check(i); e != want {
			t.Errorf("Check(%+v): %v, not %v", i, e, want)
		}
	})
	if n < 5*512 {
		t.Error("few may be:", n)
	}
}

func TestMemory(t *testing.T) {
	all, n := rules(), 0
	eachInstr(func(i api.Instr) {
		r, is := all[i.Op]
		want := r.memory && mayBe(i, r, is)
		if want {
			n++
		}
		if is := Memory(i); is != want {
			t.Errorf("Memory(%+v) = %v", i, is)
		}
	})
	if n != 4*64+512 {
		t.Error("of memory:", n)
	}
}

func TestReadsExamples(t *testing.T) {
	for _, c := range []struct {
		i    api.Instr
		want []int
	}{
		{api.Instr{}, nil},
		{api.Instr{Op: api.InMov, D: 3, Imm: 5}, nil},
		{api.Instr{Op: api.InAdd, D: 1, N: 2, M: 3}, []int{2, 3}},
		{api.Instr{Op: api.InSub, D: 1, N: 3, M: 2}, []int{2, 3}},
		{api.Instr{Op: api.InAnd, D: 3, N: 3, M: 3}, []int{3}},
		{api.Instr{Op: api.InOrr, D: 1, N: 7, M: 0}, []int{0, 7}},
		{api.Instr{Op: api.InEor, D: 1, N: 0, M: 0}, []int{0}},
		{api.Instr{Op: api.InAddi, D: 1, N: 4, Imm: 3}, []int{4}},
		{api.Instr{Op: api.InLdr, D: 1, N: 4}, []int{4}},
		{api.Instr{Op: api.InLdxr, D: 4, N: 1}, []int{1}},
		{api.Instr{Op: api.InStr, D: 1, N: 4}, []int{1, 4}},
		{api.Instr{Op: api.InStlr, D: 4, N: 1}, []int{1, 4}},
		{api.Instr{Op: api.InStr, D: 4, N: 4}, []int{4}},
		{api.Instr{Op: api.InStxr, D: 5, N: 4, M: 3}, []int{4, 5}},
		{api.Instr{Op: api.InStxr, D: 5, N: 5, M: 5}, []int{5}},
		{api.Instr{Op: api.InDmb}, nil},
		{api.Instr{Op: api.InB, Imm: 3}, nil},
		{api.Instr{Op: api.InCbz, D: 6, Imm: 3}, []int{6}},
		{api.Instr{Op: api.InCbnz, D: 6, Imm: 3}, []int{6}},
		{api.Instr{Op: api.InSvc}, []int{0, 1, 2, 3}},
		{api.Instr{Op: api.InBad}, nil},
		{api.Instr{Op: api.InSvc, D: 1}, nil},
		{api.Instr{Op: api.InAdd, D: 8, N: 2, M: 3}, nil},
		{api.Instr{Op: api.InAdd, D: 1, N: 2, M: -3}, nil},
		{api.Instr{Op: api.InCbz, D: 6, Imm: 1024}, nil},
		{api.Instr{Op: 19, D: 1, N: 2, M: 3}, nil},
	} {
		if l := Reads(c.i); !slices.Equal(l, c.want) {
			t.Errorf("Reads(%+v): %v, not %v", c.i, l, c.want)
		}
	}
}

func TestReadsOfAnyInstruction(t *testing.T) {
	all := rules()
	eachInstr(func(i api.Instr) {
		var want []int
		if r, is := all[i.Op]; mayBe(i, r, is) {
			want = readBy(i, r)
		}
		if l := Reads(i); !slices.Equal(l, want) {
			t.Errorf("Reads(%+v): %v, not %v", i, l, want)
		}
	})
}

func TestReadsAnswersNewMemory(t *testing.T) {
	for _, i := range []api.Instr{{Op: api.InSvc}, {Op: api.InAdd, N: 1, M: 2}, {Op: api.InStr, D: 2, N: 1}} {
		l := Reads(i)
		want := slices.Clone(l)
		for k := range l[:cap(l)] {
			l[:cap(l)][k] = 99
		}
		if again := Reads(i); !slices.Equal(again, want) {
			t.Errorf("Reads(%+v): %v once the first list is changed, not %v", i, again, want)
		}
	}
}

func TestWritesExamples(t *testing.T) {
	for _, c := range []struct {
		i    api.Instr
		want int
		is   bool
	}{
		{api.Instr{}, 0, false},
		{api.Instr{Op: api.InMov, D: 3, Imm: 5}, 3, true},
		{api.Instr{Op: api.InMov}, 0, true},
		{api.Instr{Op: api.InAdd, D: 1, N: 2, M: 3}, 1, true},
		{api.Instr{Op: api.InAddi, D: 7, N: 4, Imm: 3}, 7, true},
		{api.Instr{Op: api.InLdr, D: 1, N: 4}, 1, true},
		{api.Instr{Op: api.InLdxr, D: 4, N: 1}, 4, true},
		{api.Instr{Op: api.InStr, D: 1, N: 4}, 0, false},
		{api.Instr{Op: api.InStlr, D: 4, N: 1}, 0, false},
		{api.Instr{Op: api.InStxr, D: 5, N: 4, M: 3}, 3, true},
		{api.Instr{Op: api.InDmb}, 0, false},
		{api.Instr{Op: api.InB, Imm: 3}, 0, false},
		{api.Instr{Op: api.InCbz, D: 6, Imm: 3}, 0, false},
		{api.Instr{Op: api.InCbnz, D: 6, Imm: 3}, 0, false},
		{api.Instr{Op: api.InSvc}, 0, true},
		{api.Instr{Op: api.InBad}, 0, false},
		{api.Instr{Op: api.InMov, D: 3, Imm: 65536}, 0, false},
		{api.Instr{Op: api.InMov, D: 8}, 0, false},
		{api.Instr{Op: api.InStxr, D: 8, M: 3}, 0, false},
		{api.Instr{Op: api.InSvc, Imm: 1}, 0, false},
		{api.Instr{Op: -1, D: 3}, 0, false},
	} {
		if k, is := Writes(c.i); k != c.want || is != c.is {
			t.Errorf("Writes(%+v) = %d, %v, not %d, %v", c.i, k, is, c.want, c.is)
		}
	}
}

func TestWritesOfAnyInstruction(t *testing.T) {
	all := rules()
	eachInstr(func(i api.Instr) {
		want, wantIs := 0, false
		if r, is := all[i.Op]; mayBe(i, r, is) {
			want, wantIs = writtenBy(i, r)
		}
		if k, is := Writes(i); k != want || is != wantIs {
			t.Errorf("Writes(%+v) = %d, %v, not %d, %v", i, k, is, want, wantIs)
		}
	})
}

// P6.2

func TestDoExamples(t *testing.T) {
	r := registers{0, 5, 7, math.MaxUint64, 1 << 63, 12, 10, 0}
	for _, c := range []struct {
		i     api.Instr
		k     int // the register that is another behind it, or any of those that stay
		value uint64
		pc    int
	}{
		{api.Instr{}, 0, 0, 6},
		{api.Instr{Op: api.InMov, D: 1}, 1, 0, 6},
		{api.Instr{Op: api.InMov, D: 3, Imm: 65535}, 3, 65535, 6},
		{api.Instr{Op: api.InAdd, D: 0, N: 1, M: 2}, 0, 12, 6},
		{api.Instr{Op: api.InAdd, D: 7, N: 3, M: 1}, 7, 4, 6},
		{api.Instr{Op: api.InAdd, D: 4, N: 4, M: 4}, 4, 0, 6},
		{api.Instr{Op: api.InSub, D: 0, N: 1, M: 2}, 0, math.MaxUint64 - 1, 6},
		{api.Instr{Op: api.InSub, D: 2, N: 2, M: 1}, 2, 2, 6},
		{api.Instr{Op: api.InSub, D: 7, N: 0, M: 4}, 7, 1 << 63, 6},
		{api.Instr{Op: api.InAnd, D: 0, N: 5, M: 6}, 0, 8, 6},
		{api.Instr{Op: api.InOrr, D: 0, N: 5, M: 6}, 0, 14, 6},
		{api.Instr{Op: api.InEor, D: 0, N: 5, M: 6}, 0, 6, 6},
		{api.Instr{Op: api.InEor, D: 3, N: 3, M: 3}, 3, 0, 6},
		{api.Instr{Op: api.InAddi, D: 1, N: 1, Imm: 2047}, 1, 2052, 6},
		{api.Instr{Op: api.InAddi, D: 1, N: 1, Imm: -6}, 1, math.MaxUint64, 6},
		{api.Instr{Op: api.InAddi, D: 0, N: 7, Imm: -2048}, 0, 1<<64 - 2048, 6},
		{api.Instr{Op: api.InAddi, D: 0, N: 3, Imm: 1}, 0, 0, 6},
		{api.Instr{Op: api.InAddi, D: 0, N: 2}, 0, 7, 6},
		{api.Instr{Op: api.InB, Imm: 4}, 0, 0, 9},
		{api.Instr{Op: api.InB}, 0, 0, 5},
		{api.Instr{Op: api.InB, Imm: -7}, 0, 0, -2},
		{api.Instr{Op: api.InCbz, D: 0, Imm: -3}, 0, 0, 2},
		{api.Instr{Op: api.InCbz, D: 1, Imm: -3}, 1, 5, 6},
		{api.Instr{Op: api.InCbz, D: 4, Imm: -3}, 4, 1 << 63, 6},
		{api.Instr{Op: api.InCbnz, D: 0, Imm: -3}, 0, 0, 6},
		{api.Instr{Op: api.InCbnz, D: 1, Imm: -3}, 1, 5, 2},
		{api.Instr{Op: api.InCbnz, D: 4, Imm: 1023}, 4, 1 << 63, 1028},
	} {
		want := r
		want[c.k] = c.value
		if x, pc, e := Do(c.i, r, 5); x != want || pc != c.pc || e != api.OK {
			t.Errorf("Do(%+v) = %v, %d, %v, not %v, %d", c.i, x, pc, e, want, c.pc)
		}
	}
}

// wrapped is the number modulo 2^64.
func wrapped(x *big.Int) uint64 {
	return new(big.Int).Mod(x, new(big.Int).Lsh(big.NewInt(1), 64)).Uint64()
}

// value says by numbers without bounds, or bit by bit, what the instruction writes.
func value(i api.Instr, n, m uint64) uint64 {
	a, b := new(big.Int).SetUint64(n), new(big.Int).SetUint64(m)
	switch i.Op {
	case api.InMov:
		return uint64(i.Imm)
	case api.InAdd:
		return wrapped(a.Add(a, b))
	case api.InSub:
		return wrapped(a.Sub(a, b))
	case api.InAddi:
		return wrapped(a.Add(a, big.NewInt(i.Imm)))
	}
	least := map[int8]uint{api.InAnd: 2, api.InOrr: 1}[i.Op] // how many of the two bits are to be 1
	var v uint64
	for k := range 64 {
		ones := a.Bit(k) + b.Bit(k)
		if i.Op == api.InEor && ones == 1 || i.Op != api.InEor && ones >= least {
			v |= 1 << k
		}
	}
	return v
}

// next says by numbers without bounds where the instruction goes on.
func next(i api.Instr, d uint64, pc int) int {
	by := int64(1)
	if i.Op == api.InB || i.Op == api.InCbz && d == 0 || i.Op == api.InCbnz && d != 0 {
		by = i.Imm
	}
	sum := big.NewInt(int64(pc))
	return int(wrapped(sum.Add(sum, big.NewInt(by))))
}

func TestDoOfAnyThatIsTheAlus(t *testing.T) {
	all, n := files(), map[int8]int{}
	eachThatMayBe(func(i api.Instr, rule rule) {
		if !rule.alu {
			return
		}
		n[i.Op]++
		for _, r := range all {
			want := r
			if k, is := writtenBy(i, rule); is {
				want[k] = value(i, r[i.N], r[i.M])
			}
			if x, pc, e := Do(i, r, 5); x != want || pc != next(i, r[i.D], 5) || e != api.OK {
				t.Errorf("Do(%+v, %v, 5) = %v, %d, %v, not %v, %d", i, r, x, pc, e, want, next(i, r[i.D], 5))
			}
		}
	})
	if len(n) != 11 {
		t.Error("operations:", n)
	}
}

func TestDoAtAnyPc(t *testing.T) {
	r := registers{0, 1}
	var l []api.Instr
	for _, imm := range []int64{-1024, -1023, -1, 0, 1, 2, 1022, 1023} {
		l = append(l, api.Instr{Op: api.InB, Imm: imm})
		for d := range int8(2) {
			l = append(l, api.Instr{Op: api.InCbz, D: d, Imm: imm}, api.Instr{Op: api.InCbnz, D: d, Imm: imm})
		}
	}
	for op := range api.InLdr { // at X0, which is 0, none of these changes anything but the pc
		l = append(l, api.Instr{Op: op})
	}
	for _, i := range l {
		for _, at := range pcs() {
			want := next(i, r[i.D], at)
			if x, pc, e := Do(i, r, at); x != r || pc != want || e != api.OK {
				t.Errorf("Do(%+v, %v, %d) = %v, %d, %v, not %d", i, r, at, x, pc, e, want)
			}
		}
	}
}

func TestDoGoesRound(t *testing.T) {
	for _, c := range []struct {
		i        api.Instr
		pc, want int
	}{
		{api.Instr{}, math.MaxInt, math.MinInt},
		{api.Instr{}, math.MinInt, math.MinInt + 1},
		{api.Instr{}, -1, 0},
		{api.Instr{Op: api.InB, Imm: -1}, math.MinInt, math.MaxInt},
		{api.Instr{Op: api.InB, Imm: 1023}, math.MaxInt, math.MinInt + 1022},
		{api.Instr{Op: api.InCbz, Imm: -1024}, math.MinInt + 1023, math.MaxInt},
	} {
		if _, pc, e := Do(c.i, registers{}, c.pc); pc != c.want || e != api.OK {
			t.Errorf("Do(%+v, .., %d): %d, %v, not %d", c.i, c.pc, pc, e, c.want)
		}
	}
}

// refused tells of a Do that has not answered the error, and all else as it was.
func refused(t *testing.T, i api.Instr, r registers, at int, want api.Errno) {
	t.Helper()
	if x, pc, e := Do(i, r, at); x != r || pc != at || e != want {
		t.Errorf("Do(%+v, %v, %d) = %v, %d, %v, not %v", i, r, at, x, pc, e, want)
	}
}

func TestDoRefusesWhatIsNotTheAlus(t *testing.T) {
	n := map[int8]int{}
	eachThatMayBe(func(i api.Instr, rule rule) {
		if rule.alu {
			return
		}
		n[i.Op]++
		for _, r := range files() {
			refused(t, i, r, 10, api.ErrOrder)
		}
		for _, at := range pcs() {
			refused(t, i, registers{9, 8, 7, 6, 5, 4, 3, 2}, at, api.ErrOrder)
		}
	})
	if len(n) != 8 {
		t.Error("not the alu's:", n)
	}
}

func TestDoRefusesWhatMayNotBe(t *testing.T) {
	all := rules()
	eachInstr(func(i api.Instr) {
		if r, is := all[i.Op]; !mayBe(i, r, is) {
			refused(t, i, registers{9, 8, 7, 6, 5, 4, 3, 2}, 10, api.ErrInstr)
		}
	})
	for _, i := range []api.Instr{{Op: -1}, {Op: 19}, {Op: api.InMov, Imm: 65536}, {Op: api.InAdd, D: 8}, {Op: api.InLdr, Imm: 1}, {Op: api.InSvc, D: 1}, {Op: api.InBad, M: -1}} {
		for _, at := range pcs() {
			refused(t, i, registers{1, 2, 3}, at, api.ErrInstr)
		}
	}
}

// P6.3

func TestDoChangesWhatWritesNamesAlone(t *testing.T) {
	all, changed := files(), map[int8]bool{}
	eachThatMayBe(func(i api.Instr, _ rule) {
		k, is := Writes(i)
		for _, r := range all {
			x, _, e := Do(i, r, 5)
			for place := range x {
				if x[place] == r[place] {
					continue
				}
				changed[i.Op] = true
				if !is || place != k || e != api.OK {
					t.Errorf("Do(%+v, %v, 5) = %v, %v: X%d is another, Writes: %d, %v", i, r, x, e, place, k, is)
				}
			}
		}
	})
	if len(changed) != 7 {
		t.Error("registers changed by:", changed)
	}
}

// unread answers the registers of other, but for those of the list, which are r's.
func unread(r, other registers, reads []int) registers {
	for _, k := range reads {
		other[k] = r[k]
	}
	return other
}

func TestDoHangsOnWhatReadsNamesAlone(t *testing.T) {
	all := files()
	eachThatMayBe(func(i api.Instr, _ rule) {
		k, is := Writes(i)
		reads := Reads(i)
		for _, r := range all {
			x, pc, e := Do(i, r, 5)
			for _, other := range all {
				like := unread(r, other, reads)
				y, pcY, eY := Do(i, like, 5)
				if pc != pcY || e != eY || e == api.OK && is && x[k] != y[k] {
					t.Errorf("Do(%+v): %v, %d, %v of %v; %v, %d, %v of %v", i, x, pc, e, r, y, pcY, eY, like)
				}
			}
		}
	})
}

// TestReadsNamesNoMoreThanCounts: each register that an operation of the alu's is said to read tells, somewhere, in what it does.
func TestReadsNamesNoMoreThanCounts(t *testing.T) {
	for _, i := range []api.Instr{
		{Op: api.InAdd, D: 1, N: 2, M: 3},
		{Op: api.InSub, D: 1, N: 2, M: 3},
		{Op: api.InAnd, D: 1, N: 2, M: 3},
		{Op: api.InOrr, D: 1, N: 2, M: 3},
		{Op: api.InEor, D: 1, N: 2, M: 3},
		{Op: api.InAddi, D: 1, N: 2, Imm: 3},
		{Op: api.InCbz, D: 2, Imm: 3},
		{Op: api.InCbnz, D: 2, Imm: 3},
	} {
		for _, k := range Reads(i) {
			tells := false
			for _, r := range files() {
				other := r
				if other[k] = 0; r[k] == 0 {
					other[k] = 1
				}
				x, pc, _ := Do(i, r, 5)
				y, pcY, _ := Do(i, other, 5)
				tells = tells || pc != pcY || x[1] != y[1]
			}
			if !tells {
				t.Errorf("%+v: X%d tells in nothing", i, k)
			}
		}
	}
}

func TestDoTwiceAnswersTheSame(t *testing.T) {
	eachThatMayBe(func(i api.Instr, _ rule) {
		for _, r := range files()[3:5] {
			before := r
			x, pc, e := Do(i, r, 5)
			y, pcY, eY := Do(i, r, 5)
			if x != y || pc != pcY || e != eY || r != before {
				t.Errorf("Do(%+v, %v, 5): %v, %d, %v, then %v, %d, %v", i, before, x, pc, e, y, pcY, eY)
			}
		}
	})
}
