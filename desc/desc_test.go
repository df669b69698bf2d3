package desc

import (
	"math"
	"testing"

	"tenement/api"
)

// coded is a descriptor and its word.
type coded struct {
	d api.Desc
	w uint64
}

// tables are all descriptors of tables with their words, which are worked out by sums.
func tables() []coded {
	var l []coded
	for f := range 64 {
		l = append(l, coded{api.Desc{Kind: api.DescTable, Frame: f}, 3 + 4096*uint64(f)})
	}
	return l
}

// allPages are all descriptors of pages, likewise.
func allPages() []coded {
	var l []coded
	for f := range 64 {
		for k := range 16 {
			d := api.Desc{Kind: api.DescPage, Frame: f, User: k%2 == 1, RO: k/2%2 == 1, AF: k/4%2 == 1, NG: k/8 == 1}
			w := 3 + 4096*uint64(f)
			if d.User {
				w += 64
			}
			if d.RO {
				w += 128
			}
			if d.AF {
				w += 1024
			}
			if d.NG {
				w += 2048
			}
			l = append(l, coded{d, w})
		}
	}
	return l
}

// at are the words of which bit 0 is 1 and which may be at the level.
func at(level int) map[uint64]api.Desc {
	l := tables()
	if level == 3 {
		l = allPages()
	}
	m := map[uint64]api.Desc{}
	for _, c := range l {
		m[c.w] = c.d
	}
	return m
}

// words are all below frame 66, then those and few others with one bit more, then such as a fixed rule mixes.
func words() []uint64 {
	var l []uint64
	for w := range uint64(66 << 12) {
		l = append(l, w)
	}
	for k := range 64 {
		for _, w := range []uint64{0, 1, 2, 3, 0x5003, 0x54c3, 0x5cc3, 0x3f003, 0x3fcc3} {
			l = append(l, w|1<<k, w^1<<k, w|math.MaxUint64<<k)
		}
	}
	x := uint64(0x9e3779b97f4a7c15)
	for range 1000 {
		x ^= x << 13
		x ^= x >> 7
		x ^= x << 17
		l = append(l, x, x|3, x>>20|3, x>>46|3)
	}
	return l
}

var noLevels = []int{math.MinInt, math.MinInt + 1, -1 << 32, math.MinInt32, -256, -4, -2, -1, 4, 5, 7, 256, 259, math.MaxInt32, 1 << 32, 1<<32 + 3, math.MaxInt - 1, math.MaxInt}

var noFrames = []int{math.MinInt, math.MinInt + 1, -1 << 52, -1 << 36, math.MinInt32, -64, -2, -1, 64, 65, 127, 128, 1 << 20, 1 << 32, 1<<36 - 1, 1 << 36, 1 << 52, 1<<52 + 5, math.MaxInt - 1, math.MaxInt}

// P3.1

func TestDecodeExamples(t *testing.T) {
	for _, c := range []struct {
		w     uint64
		level int
		want  api.Desc
		e     api.Errno
	}{
		{0x5003, 1, api.Desc{Kind: api.DescTable, Frame: 5}, api.OK},
		{0x54c3, 3, api.Desc{Kind: api.DescPage, Frame: 5, AF: true, RO: true, User: true}, api.OK},
		{0x5001, 3, api.Desc{}, api.ErrDesc},
		{0x5001, 0, api.Desc{}, api.ErrDesc},
		{1, 3, api.Desc{}, api.ErrDesc},
		{0, 0, api.Desc{}, api.OK},
		{0, 3, api.Desc{}, api.OK},
		{2, 3, api.Desc{}, api.OK},
		{0x54c2, 3, api.Desc{}, api.OK},
		{math.MaxUint64 - 1, 2, api.Desc{}, api.OK},
		{3, 0, api.Desc{Kind: api.DescTable}, api.OK},
		{3, 2, api.Desc{Kind: api.DescTable}, api.OK},
		{3, 3, api.Desc{Kind: api.DescPage}, api.OK},
		{0x43, 3, api.Desc{Kind: api.DescPage, User: true}, api.OK},
		{0x83, 3, api.Desc{Kind: api.DescPage, RO: true}, api.OK},
		{0x403, 3, api.Desc{Kind: api.DescPage, AF: true}, api.OK},
		{0x803, 3, api.Desc{Kind: api.DescPage, NG: true}, api.OK},
		{0x43, 2, api.Desc{}, api.ErrDesc},
		{0x83, 2, api.Desc{}, api.ErrDesc},
		{0x403, 1, api.Desc{}, api.ErrDesc},
		{0x803, 0, api.Desc{}, api.ErrDesc},
		{7, 3, api.Desc{}, api.ErrDesc},
		{0x103, 3, api.Desc{}, api.ErrDesc},
		{0x203, 3, api.Desc{}, api.ErrDesc},
		{0x3f003, 0, api.Desc{Kind: api.DescTable, Frame: 63}, api.OK},
		{0x3fcc3, 3, api.Desc{Kind: api.DescPage, Frame: 63, AF: true, RO: true, User: true, NG: true}, api.OK},
		{0x40003, 0, api.Desc{}, api.ErrDesc},
		{0x40003, 3, api.Desc{}, api.ErrDesc},
		{1<<47 | 3, 3, api.Desc{}, api.ErrDesc},
		{1<<48 | 3, 3, api.Desc{}, api.ErrDesc},
		{1<<63 | 3, 1, api.Desc{}, api.ErrDesc},
		{math.MaxUint64, 3, api.Desc{}, api.ErrDesc},
	} {
		if d, e := Decode(c.w, c.level); d != c.want || e != c.e {
			t.Errorf("Decode(%#x, %d) = %+v, %v, not %+v, %v", c.w, c.level, d, e, c.want, c.e)
		}
	}
}

func TestDecodeOfAnyWord(t *testing.T) {
	for level := range 4 {
		may := at(level)
		for _, w := range words() {
			want, is := may[w]
			e := api.OK
			if w%2 == 1 && !is {
				e = api.ErrDesc
			}
			if d, got := Decode(w, level); d != want || got != e {
				t.Fatalf("Decode(%#x, %d) = %+v, %v, not %+v, %v", w, level, d, got, want, e)
			}
		}
	}
}

func TestDecodeAtNoLevel(t *testing.T) {
	for _, level := range noLevels {
		for _, w := range []uint64{0, 2, 3, 0x5001, 0x5003, 0x54c3, 1<<63 | 3, math.MaxUint64} {
			if d, e := Decode(w, level); d != (api.Desc{}) || e != api.ErrArg {
				t.Errorf("Decode(%#x, %d) = %+v, %v", w, level, d, e)
			}
		}
	}
}

func TestEncodeExamples(t *testing.T) {
	for _, c := range []struct {
		d    api.Desc
		want uint64
	}{
		{api.Desc{}, 0},
		{api.Desc{Kind: api.DescTable}, 3},
		{api.Desc{Kind: api.DescTable, Frame: 5}, 0x5003},
		{api.Desc{Kind: api.DescTable, Frame: 63}, 0x3f003},
		{api.Desc{Kind: api.DescPage}, 3},
		{api.Desc{Kind: api.DescPage, User: true}, 0x43},
		{api.Desc{Kind: api.DescPage, RO: true}, 0x83},
		{api.Desc{Kind: api.DescPage, AF: true}, 0x403},
		{api.Desc{Kind: api.DescPage, NG: true}, 0x803},
		{api.Desc{Kind: api.DescPage, Frame: 5, AF: true, RO: true, User: true}, 0x54c3},
		{api.Desc{Kind: api.DescPage, Frame: 63, AF: true, RO: true, User: true, NG: true}, 0x3fcc3},
	} {
		if w, e := Encode(c.d); w != c.want || e != api.OK {
			t.Errorf("Encode(%+v) = %#x, %v, not %#x", c.d, w, e, c.want)
		}
	}
}

func TestEncodeOfAllThatMayBe(t *testing.T) {
	for _, c := range append(tables(), allPages()...) {
		if w, e := Encode(c.d); w != c.w || e != api.OK {
			t.Errorf("Encode(%+v) = %#x, %v, not %#x", c.d, w, e, c.w)
		}
	}
}

// refused asks Encode for what may not be.
func refused(t *testing.T, d api.Desc) {
	t.Helper()
	if w, e := Encode(d); w != 0 || e != api.ErrDesc {
		t.Errorf("Encode(%+v) = %#x, %v", d, w, e)
	}
}

func TestEncodeRefusesOtherKinds(t *testing.T) {
	for k := math.MinInt8; k <= math.MaxInt8; k++ {
		if 0 <= k && k <= 2 {
			continue
		}
		for _, f := range []int{0, 5, 63, 64, -1} {
			refused(t, api.Desc{Kind: int8(k), Frame: f})
			refused(t, api.Desc{Kind: int8(k), Frame: f, AF: true, User: true})
		}
	}
}

func TestEncodeRefusesOtherFrames(t *testing.T) {
	for _, f := range noFrames {
		refused(t, api.Desc{Frame: f})
		refused(t, api.Desc{Kind: api.DescTable, Frame: f})
		refused(t, api.Desc{Kind: api.DescPage, Frame: f})
		refused(t, api.Desc{Kind: api.DescPage, Frame: f, AF: true, RO: true, User: true, NG: true})
	}
}

func TestEncodeRefusesFieldsThatAKindHasNot(t *testing.T) {
	for f := 1; f < 64; f++ {
		refused(t, api.Desc{Frame: f})
	}
	for _, k := range []int8{api.DescNone, api.DescTable} {
		for _, c := range allPages() {
			if d := c.d; d.AF || d.RO || d.User || d.NG {
				d.Kind = k
				refused(t, d)
			}
		}
	}
}

// P3.2

func TestTouchExamples(t *testing.T) {
	for _, c := range []struct {
		w, want uint64
		did     bool
	}{
		{3, 0x403, true},
		{0x5003, 0x5403, true},
		{0x5043, 0x5443, true},
		{0x58c3, 0x5cc3, true},
		{0x3f003, 0x3f403, true},
		{0x5403, 0x5403, false},
		{0x54c3, 0x54c3, false},
		{0, 0, false},
		{2, 2, false},
		{0x5002, 0x5002, false},
		{0x5001, 0x5001, false},
		{0x5103, 0x5103, false},
		{7, 7, false},
		{0x40003, 0x40003, false},
		{1<<63 | 3, 1<<63 | 3, false},
		{math.MaxUint64, math.MaxUint64, false},
		{math.MaxUint64 - 1024, math.MaxUint64 - 1024, false},
	} {
		if w, did := Touch(c.w); w != c.want || did != c.did {
			t.Errorf("Touch(%#x) = %#x, %t, not %#x, %t", c.w, w, did, c.want, c.did)
		}
	}
}

func TestTouchOfAnyWord(t *testing.T) {
	may := at(3)
	for _, w := range words() {
		d, is := may[w]
		want, did := w, is && !d.AF
		if did {
			want = w + 1024
		}
		if got, news := Touch(w); got != want || news != did {
			t.Fatalf("Touch(%#x) = %#x, %t, not %#x, %t", w, got, news, want, did)
		}
	}
}

func TestDifferExamples(t *testing.T) {
	for _, c := range []struct {
		a, b uint64
		want bool
	}{
		{0x5003, 0x6003, true},
		{0x5003, 0x64c3, true},
		{0x5cc3, 0x3, true},
		{0x3f003, 0x3e003, true},
		{0x5003, 0x5003, false},
		{0x5003, 0x54c3, false},
		{0x5003, 0, false},
		{0, 0x5003, false},
		{0, 0, false},
		{0x5002, 0x6002, false},
		{0x5003, 0x6002, false},
		{0x5003, 0x6001, false},
		{0x5001, 0x6003, false},
		{0x5003, 0x6103, false},
		{0x5003, 0x40003, false},
		{0x45003, 0x6003, false},
		{1<<63 | 0x5003, 0x6003, false},
		{0x5003, math.MaxUint64, false},
	} {
		if got := Differ(c.a, c.b); got != c.want {
			t.Errorf("Differ(%#x, %#x) = %t", c.a, c.b, got)
		}
	}
}

func TestDifferOfAnyWords(t *testing.T) {
	may := at(3)
	some := []uint64{0, 1, 2, 3, 0x5001, 0x5002, 0x5103, 0x40003, math.MaxUint64}
	for _, c := range allPages() {
		some = append(some, c.w)
	}
	for k := range 64 {
		some = append(some, 0x54c3^1<<k)
	}
	for _, a := range some {
		for _, b := range some {
			x, isX := may[a]
			y, isY := may[b]
			if got, want := Differ(a, b), isX && isY && x.Frame != y.Frame; got != want {
				t.Fatalf("Differ(%#x, %#x) = %t", a, b, got)
			}
		}
	}
}

// P3.3

func TestDecodeOfEncode(t *testing.T) {
	there := func(d api.Desc, levels ...int) {
		w, e := Encode(d)
		if e != api.OK {
			t.Errorf("Encode(%+v): %v", d, e)
		}
		for _, level := range levels {
			if got, e := Decode(w, level); got != d || e != api.OK {
				t.Errorf("Decode(%#x, %d) = %+v, %v, not %+v", w, level, got, e, d)
			}
		}
	}
	there(api.Desc{}, 0, 1, 2, 3)
	for _, c := range tables() {
		there(c.d, 0, 1, 2)
	}
	for _, c := range allPages() {
		there(c.d, 3)
	}
}

func TestEncodeOfDecode(t *testing.T) {
	for level := range 4 {
		for _, w := range words() {
			d, e := Decode(w, level)
			if w%2 == 0 || e != api.OK {
				continue
			}
			if got, e := Encode(d); got != w || e != api.OK {
				t.Fatalf("Encode(%+v) = %#x, %v, not %#x", d, got, e, w)
			}
		}
	}
}

func TestTouchChangesAccessedAlone(t *testing.T) {
	for _, c := range allPages() {
		want := c.d
		want.AF = true
		w, did := Touch(c.w)
		if d, e := Decode(w, 3); d != want || e != api.OK || did == c.d.AF {
			t.Errorf("Touch(%#x) = %#x, %t: %+v, %v", c.w, w, did, d, e)
		}
		if again, did := Touch(w); again != w || did {
			t.Errorf("Touch(%#x) = %#x, %t", w, again, did)
		}
	}
}
