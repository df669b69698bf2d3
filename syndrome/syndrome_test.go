package syndrome

import (
	"math"
	"testing"

	"tenement/api"
)

// told is a syndrome, its word and its text but for the address.
type told struct {
	s    api.Syndrome
	esr  uint64
	text string
}

// plain are all that have no address.
func plain() []told {
	return []told{
		{api.Syndrome{}, 0xfe000000, "none"},
		{api.Syndrome{Class: api.ClassCall}, 0x56000000, "call"},
		{api.Syndrome{Class: api.ClassInstr}, 0x02000000, "instr"},
		{api.Syndrome{Class: api.ClassTick}, 0xfa000000, "tick"},
	}
}

// accesses are all of ClassData, at address 0.
func accesses() []told {
	var l []told
	for _, x := range []struct {
		fault, level int8
		low          uint64
		text         string
	}{
		{api.FaultTrans, 0, 4, "trans0"},
		{api.FaultTrans, 1, 5, "trans1"},
		{api.FaultTrans, 2, 6, "trans2"},
		{api.FaultTrans, 3, 7, "trans3"},
		{api.FaultPerm, 3, 15, "perm"},
		{api.FaultAlign, 0, 33, "align"},
	} {
		s := api.Syndrome{Class: api.ClassData, Fault: x.fault, Level: x.level}
		l = append(l, told{s, 0x92000000 + x.low, "load " + x.text})
		s.Store = true
		l = append(l, told{s, 0x92000000 + x.low + 64, "store " + x.text})
	}
	return l
}

// address is a number and its digits.
type address struct {
	va   uint64
	text string
}

func addresses() []address {
	l := []address{
		{0, "0"},
		{1, "1"},
		{7, "7"},
		{8, "8"},
		{9, "9"},
		{10, "a"},
		{15, "f"},
		{16, "10"},
		{0x5008, "5008"},
		{0xabc0, "abc0"},
		{0x0123456789abcdef, "123456789abcdef"},
		{0xfedcba9876543210, "fedcba9876543210"},
		{1<<47 - 1, "7fffffffffff"},
		{1 << 47, "800000000000"},
		{1 << 48, "1000000000000"},
		{math.MaxInt64, "7fffffffffffffff"},
		{1 << 63, "8000000000000000"},
		{math.MaxUint64, "ffffffffffffffff"},
	}
	digits, noughts := "1248", ""
	for k := range 64 {
		l = append(l, address{1 << k, digits[k%4:k%4+1] + noughts})
		if k%4 == 3 {
			noughts += "0"
		}
	}
	return l
}

// all are all that may be, those of ClassData at each of the addresses.
func all() []told {
	l := plain()
	for _, c := range accesses() {
		for _, a := range addresses() {
			s := c.s
			s.Va = a.va
			l = append(l, told{s, c.esr, c.text + " " + a.text})
		}
	}
	return l
}

// each calls f with syndromes of all classes and faults, levels about those that are there, and few addresses.
func each(f func(s api.Syndrome)) {
	levels := []int8{math.MinInt8, -127, -64, -3, -2, -1, 0, 1, 2, 3, 4, 5, 6, 7, 8, 15, 16, 63, 64, 126, math.MaxInt8}
	for class := math.MinInt8; class <= math.MaxInt8; class++ {
		for fault := math.MinInt8; fault <= math.MaxInt8; fault++ {
			for _, level := range levels {
				for _, va := range []uint64{0, 1, 0x5008, math.MaxUint64} {
					for _, store := range []bool{false, true} {
						f(api.Syndrome{Class: int8(class), Store: store, Fault: int8(fault), Level: level, Va: va})
					}
				}
			}
		}
	}
}

// may are all that may be, of ClassData at address 0.
func may() map[api.Syndrome]bool {
	m := map[api.Syndrome]bool{}
	for _, c := range append(plain(), accesses()...) {
		m[c.s] = true
	}
	return m
}

// eachWord calls f with words of all classes and of all lower bits, of bit 25 as it must be and as it must not, and with such as have a bit more or less than one that may be.
func eachWord(f func(esr uint64)) {
	for class := range uint64(64) {
		for low := range uint64(1 << 12) {
			f(class<<26 | 1<<25 | low)
			f(class<<26 | low)
		}
	}
	for _, c := range append(plain(), accesses()...) {
		for k := range 64 {
			f(c.esr ^ 1<<k)
			f(c.esr | math.MaxUint64<<k)
		}
	}
	x := uint64(0x9e3779b97f4a7c15)
	for range 1000 {
		x ^= x << 13
		x ^= x >> 7
		x ^= x << 17
		f(x)
		f(x >> 32)
	}
}

// P4.1

func TestCheckOfAnySyndrome(t *testing.T) {
	there := may()
	each(func(s api.Syndrome) {
		bare := s
		if s.Class == api.ClassData {
			bare.Va = 0
		}
		want := api.ErrArg
		if there[bare] {
			want = api.OK
		}
		if e := Check(s); e != want {
			t.Errorf("Check(%+v) = %v, not %v", s, e, want)
		}
		if esr, far, e := Encode(s); e != want || want != api.OK && (esr != 0 || far != 0) {
			t.Errorf("Encode(%+v) = %#x, %#x, %v", s, esr, far, e)
		}
	})
}

func TestCheckTakesAllThatMayBe(t *testing.T) {
	for _, c := range all() {
		if e := Check(c.s); e != api.OK {
			t.Errorf("Check(%+v) = %v", c.s, e)
		}
	}
}

func TestCheckRefusesEachFieldThatAClassHasNot(t *testing.T) {
	for _, c := range plain() {
		for _, s := range []api.Syndrome{
			{Class: c.s.Class, Store: true},
			{Class: c.s.Class, Fault: api.FaultTrans},
			{Class: c.s.Class, Fault: api.FaultAlign},
			{Class: c.s.Class, Fault: -1},
			{Class: c.s.Class, Level: 1},
			{Class: c.s.Class, Level: 3},
			{Class: c.s.Class, Level: -1},
			{Class: c.s.Class, Va: 1},
			{Class: c.s.Class, Va: 0x5008},
			{Class: c.s.Class, Va: math.MaxUint64},
			{Class: c.s.Class, Store: true, Fault: api.FaultPerm, Level: 3, Va: 0x5008},
		} {
			if e := Check(s); e != api.ErrArg {
				t.Errorf("Check(%+v) = %v", s, e)
			}
		}
	}
}

func TestCheckOfLevels(t *testing.T) {
	for _, c := range []struct {
		fault       int8
		least, most int
	}{
		{api.FaultNone, 1, 0},
		{api.FaultTrans, 0, 3},
		{api.FaultPerm, 3, 3},
		{api.FaultAlign, 0, 0},
		{4, 1, 0},
		{-1, 1, 0},
	} {
		for level := math.MinInt8; level <= math.MaxInt8; level++ {
			want := api.ErrArg
			if c.least <= level && level <= c.most {
				want = api.OK
			}
			s := api.Syndrome{Class: api.ClassData, Fault: c.fault, Level: int8(level), Va: 8}
			if e := Check(s); e != want {
				t.Errorf("Check(%+v) = %v, not %v", s, e, want)
			}
		}
	}
}

func TestEncodeExamples(t *testing.T) {
	for _, c := range []struct {
		s        api.Syndrome
		esr, far uint64
		e        api.Errno
	}{
		{api.Syndrome{Class: api.ClassData, Store: true, Fault: api.FaultPerm, Level: 3, Va: 0x5008}, 0x9200004f, 0x5008, api.OK},
		{api.Syndrome{Class: api.ClassCall}, 0x56000000, 0, api.OK},
		{api.Syndrome{Class: api.ClassData, Fault: api.FaultTrans}, 0x92000004, 0, api.OK},
		{api.Syndrome{Class: api.ClassData, Fault: api.FaultAlign, Va: math.MaxUint64}, 0x92000021, math.MaxUint64, api.OK},
		{api.Syndrome{Class: api.ClassData, Fault: api.FaultAlign, Va: 0x5008}, 0x92000021, 0x5008, api.OK},
		{api.Syndrome{Class: api.ClassData, Va: 0x5008}, 0, 0, api.ErrArg},
		{api.Syndrome{Class: api.ClassData, Fault: api.FaultPerm, Va: 0x5008}, 0, 0, api.ErrArg},
		{api.Syndrome{Class: api.ClassData, Fault: api.FaultTrans, Level: 4, Va: 0x5008}, 0, 0, api.ErrArg},
		{api.Syndrome{Class: api.ClassCall, Va: 0x5008}, 0, 0, api.ErrArg},
		{api.Syndrome{Class: 5, Va: 0x5008}, 0, 0, api.ErrArg},
		{api.Syndrome{Class: math.MinInt8}, 0, 0, api.ErrArg},
	} {
		if esr, far, e := Encode(c.s); esr != c.esr || far != c.far || e != c.e {
			t.Errorf("Encode(%+v) = %#x, %#x, %v, not %#x, %#x, %v", c.s, esr, far, e, c.esr, c.far, c.e)
		}
	}
}

func TestEncodeOfAllThatMayBe(t *testing.T) {
	for _, c := range all() {
		if esr, far, e := Encode(c.s); esr != c.esr || far != c.s.Va || e != api.OK {
			t.Errorf("Encode(%+v) = %#x, %#x, %v, not %#x", c.s, esr, far, e, c.esr)
		}
	}
}

func TestDecodeExamples(t *testing.T) {
	for _, c := range []struct {
		esr, far uint64
		want     api.Syndrome
		e        api.Errno
	}{
		{0x9200004f, 0x5008, api.Syndrome{Class: api.ClassData, Store: true, Fault: api.FaultPerm, Level: 3, Va: 0x5008}, api.OK},
		{0x56000000, 0, api.Syndrome{Class: api.ClassCall}, api.OK},
		{0xfe000000, 0, api.Syndrome{}, api.OK},
		{0x02000000, 0, api.Syndrome{Class: api.ClassInstr}, api.OK},
		{0xfa000000, 0, api.Syndrome{Class: api.ClassTick}, api.OK},
		{0x92000007, 0, api.Syndrome{Class: api.ClassData, Fault: api.FaultTrans, Level: 3}, api.OK},
		{0, 0, api.Syndrome{}, api.ErrArg},
		{0, 0x5008, api.Syndrome{}, api.ErrArg},
		{0x54000000, 0, api.Syndrome{}, api.ErrArg},
		{0x56000000, 8, api.Syndrome{}, api.ErrArg},
		{0xfe000000, 1, api.Syndrome{}, api.ErrArg},
		{0x02000000, math.MaxUint64, api.Syndrome{}, api.ErrArg},
		{0xfa000000, 1 << 63, api.Syndrome{}, api.ErrArg},
		{0x56000001, 0, api.Syndrome{}, api.ErrArg},
		{0x56000004, 0, api.Syndrome{}, api.ErrArg},
		{0x56000040, 0, api.Syndrome{}, api.ErrArg},
		{0xfe00000f, 0, api.Syndrome{}, api.ErrArg},
		{0x90000004, 0, api.Syndrome{}, api.ErrArg},
		{0x92000000, 0, api.Syndrome{}, api.ErrArg},
		{0x92000003, 0, api.Syndrome{}, api.ErrArg},
		{0x92000008, 0, api.Syndrome{}, api.ErrArg},
		{0x9200000c, 0, api.Syndrome{}, api.ErrArg},
		{0x9200000e, 0, api.Syndrome{}, api.ErrArg},
		{0x92000020, 0, api.Syndrome{}, api.ErrArg},
		{0x92000022, 0, api.Syndrome{}, api.ErrArg},
		{0x92000084, 0, api.Syndrome{}, api.ErrArg},
		{0x93000004, 0, api.Syndrome{}, api.ErrArg},
		{0x192000004, 0, api.Syndrome{}, api.ErrArg},
		{0x8000000092000004, 0, api.Syndrome{}, api.ErrArg},
		{math.MaxUint64, 0, api.Syndrome{}, api.ErrArg},
		{math.MaxUint64, math.MaxUint64, api.Syndrome{}, api.ErrArg},
	} {
		if s, e := Decode(c.esr, c.far); s != c.want || e != c.e {
			t.Errorf("Decode(%#x, %#x) = %+v, %v, not %+v, %v", c.esr, c.far, s, e, c.want, c.e)
		}
	}
}

func TestDecodeOfAnyWords(t *testing.T) {
	of := map[[2]uint64]api.Syndrome{}
	for _, c := range all() {
		of[[2]uint64{c.esr, c.s.Va}] = c.s
	}
	eachWord(func(esr uint64) {
		for _, far := range []uint64{0, 1, 0x5008, math.MaxUint64} {
			want, is := of[[2]uint64{esr, far}]
			e := api.OK
			if !is {
				e = api.ErrArg
			}
			if s, got := Decode(esr, far); s != want || got != e {
				t.Errorf("Decode(%#x, %#x) = %+v, %v, not %+v, %v", esr, far, s, got, want, e)
			}
		}
	})
}

// P4.2

func TestTextExamples(t *testing.T) {
	for _, c := range []struct {
		s    api.Syndrome
		want string
	}{
		{api.Syndrome{Class: api.ClassData, Store: true, Fault: api.FaultPerm, Level: 3, Va: 0x5008}, "store perm 5008"},
		{api.Syndrome{Class: api.ClassCall}, "call"},
		{api.Syndrome{}, "none"},
		{api.Syndrome{Class: api.ClassInstr}, "instr"},
		{api.Syndrome{Class: api.ClassTick}, "tick"},
		{api.Syndrome{Class: api.ClassData, Fault: api.FaultTrans}, "load trans0 0"},
		{api.Syndrome{Class: api.ClassData, Fault: api.FaultTrans, Level: 3, Va: 0xabc0}, "load trans3 abc0"},
		{api.Syndrome{Class: api.ClassData, Store: true, Fault: api.FaultAlign, Va: math.MaxUint64}, "store align ffffffffffffffff"},
		{api.Syndrome{Class: api.ClassData, Fault: api.FaultPerm, Level: 2}, "?"},
		{api.Syndrome{Class: api.ClassData}, "?"},
		{api.Syndrome{Class: api.ClassCall, Va: 1}, "?"},
		{api.Syndrome{Va: 1}, "?"},
		{api.Syndrome{Class: 5}, "?"},
		{api.Syndrome{Class: -1}, "?"},
	} {
		if text := Text(c.s); text != c.want {
			t.Errorf("Text(%+v) = %q, not %q", c.s, text, c.want)
		}
	}
}

func TestTextOfAllThatMayBe(t *testing.T) {
	for _, c := range all() {
		if text := Text(c.s); text != c.text {
			t.Errorf("Text(%+v) = %q, not %q", c.s, text, c.text)
		}
	}
}

func TestTextOfWhatMayNotBe(t *testing.T) {
	there := may()
	each(func(s api.Syndrome) {
		bare := s
		if s.Class == api.ClassData {
			bare.Va = 0
		}
		if text := Text(s); text == "" || (text == "?") == there[bare] {
			t.Errorf("Text(%+v) = %q", s, text)
		}
	})
}

// P4.3

func TestDecodeOfEncode(t *testing.T) {
	for _, c := range all() {
		esr, far, e := Encode(c.s)
		if e != api.OK {
			t.Errorf("Encode(%+v): %v", c.s, e)
		}
		if s, e := Decode(esr, far); s != c.s || e != api.OK {
			t.Errorf("Decode(%#x, %#x) = %+v, %v, not %+v", esr, far, s, e, c.s)
		}
	}
}

func TestEncodeOfDecode(t *testing.T) {
	eachWord(func(esr uint64) {
		for _, far := range []uint64{0, 1, 0x5008, math.MaxUint64} {
			s, e := Decode(esr, far)
			if e != api.OK {
				continue
			}
			if a, b, e := Encode(s); a != esr || b != far || e != api.OK {
				t.Errorf("Encode(%+v) = %#x, %#x, %v, not %#x, %#x", s, a, b, e, esr, far)
			}
		}
	})
}

func TestNoTwoHaveTheSame(t *testing.T) {
	words, texts := map[[2]uint64]api.Syndrome{}, map[string]api.Syndrome{}
	each(func(s api.Syndrome) {
		esr, far, e := Encode(s)
		if e != api.OK {
			return
		}
		if other, is := words[[2]uint64{esr, far}]; is {
			t.Errorf("%+v and %+v: %#x, %#x", other, s, esr, far)
		}
		text := Text(s)
		if other, is := texts[text]; is {
			t.Errorf("%+v and %+v: %q", other, s, text)
		}
		words[[2]uint64{esr, far}], texts[text] = s, s
	})
	if n := 4 + 12*4; len(words) != n || len(texts) != n {
		t.Errorf("%d words and %d texts, not %d", len(words), len(texts), n)
	}
}
