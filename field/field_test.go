package field

import (
	"iter"
	"math"
	"slices"
	"testing"

	"tenement/api"
)

// bounds are places from far below a word to far above it, with all that are in it.
func bounds() []int {
	l := []int{math.MinInt, math.MinInt + 1, math.MinInt32, -65, -64, -63, -2, -1}
	for k := range 67 {
		l = append(l, k)
	}
	return append(l, 127, 128, 1<<20, math.MaxInt32, math.MaxInt-63, math.MaxInt-1, math.MaxInt)
}

// words are plain ones, then such as a fixed rule mixes.
func words() []uint64 {
	l := []uint64{0, 1, 2, 0xabcd, 1 << 63, 1<<63 - 1, 1<<64 - 1, 0x5555555555555555, 0xaaaaaaaaaaaaaaaa}
	x := uint64(0x9e3779b97f4a7c15)
	for range 8 {
		x ^= x << 13
		x ^= x >> 7
		x ^= x << 17
		l = append(l, x)
	}
	return l
}

// there, ones and get say by single bits what the package says by shifts.
func there(hi, lo int) bool {
	return 0 <= lo && lo <= hi && hi <= 63
}

func ones(hi, lo int) uint64 {
	var x uint64
	if there(hi, lo) {
		for k := lo; k <= hi; k++ {
			x |= 1 << k
		}
	}
	return x
}

func get(x uint64, hi, lo int) uint64 {
	var v uint64
	if there(hi, lo) {
		for k := hi; k >= lo; k-- {
			v = 2*v + x>>k%2
		}
	}
	return v
}

// each calls f with all bounds, those of no field too.
func each(f func(hi, lo int)) {
	for _, hi := range bounds() {
		for _, lo := range bounds() {
			f(hi, lo)
		}
	}
}

// P1.1

func TestGetExamples(t *testing.T) {
	for _, c := range []struct {
		x      uint64
		hi, lo int
		want   uint64
	}{
		{0xabcd, 11, 4, 0xbc},
		{0xabcd, 63, 0, 0xabcd},
		{1<<64 - 1, 63, 0, 1<<64 - 1},
		{1 << 63, 63, 63, 1},
		{1<<63 - 1, 63, 63, 0},
		{1, 0, 0, 1},
		{2, 0, 0, 0},
		{0xf0, 7, 4, 15},
		{1<<64 - 1, 3, 4, 0},
		{1<<64 - 1, 3, -1, 0},
		{1<<64 - 1, -1, -1, 0},
		{1<<64 - 1, 64, 0, 0},
		{1<<64 - 1, 64, 64, 0},
		{1<<64 - 1, math.MaxInt, 0, 0},
		{1<<64 - 1, 0, math.MinInt, 0},
		{1<<64 - 1, math.MaxInt, math.MinInt, 0},
		{1<<64 - 1, math.MinInt, math.MaxInt, 0},
	} {
		if v := Get(c.x, c.hi, c.lo); v != c.want {
			t.Errorf("Get(%#x, %d, %d) = %#x, not %#x", c.x, c.hi, c.lo, v, c.want)
		}
	}
}

func TestGetBitByBit(t *testing.T) {
	each(func(hi, lo int) {
		for _, x := range words() {
			if v, want := Get(x, hi, lo), get(x, hi, lo); v != want {
				t.Errorf("Get(%#x, %d, %d) = %#x, not %#x", x, hi, lo, v, want)
			}
		}
	})
}

func TestOnes(t *testing.T) {
	for _, c := range []struct {
		hi, lo int
		want   uint64
	}{{63, 0, 1<<64 - 1}, {0, 0, 1}, {63, 63, 1 << 63}, {3, 2, 12}, {11, 4, 0xff0}, {2, 3, 0}, {64, 0, 0}, {3, -1, 0}} {
		if x := Ones(c.hi, c.lo); x != c.want {
			t.Errorf("Ones(%d, %d) = %#x, not %#x", c.hi, c.lo, x, c.want)
		}
	}
	each(func(hi, lo int) {
		if x, want := Ones(hi, lo), ones(hi, lo); x != want {
			t.Errorf("Ones(%d, %d) = %#x, not %#x", hi, lo, x, want)
		}
	})
}

func TestFits(t *testing.T) {
	for _, c := range []struct {
		v      uint64
		hi, lo int
		want   bool
	}{
		{0, 0, 0, true},
		{1, 0, 0, true},
		{2, 0, 0, false},
		{1, 63, 63, true},
		{2, 63, 63, false},
		{15, 7, 4, true},
		{16, 7, 4, false},
		{1<<64 - 1, 63, 0, true},
		{1<<63 - 1, 63, 1, true},
		{1 << 63, 63, 1, false},
		{1 << 63, 62, 0, false},
		{1<<64 - 1, 7, 4, false},
		{0, 3, 4, false},
		{0, 3, -1, false},
		{0, 64, 0, false},
		{0, math.MaxInt, math.MinInt, false},
	} {
		if ok := Fits(c.v, c.hi, c.lo); ok != c.want {
			t.Errorf("Fits(%#x, %d, %d) = %t", c.v, c.hi, c.lo, ok)
		}
	}
}

func TestFitsAtEachBound(t *testing.T) {
	each(func(hi, lo int) {
		most := get(1<<64-1, hi, lo)
		if ok := Fits(most, hi, lo); ok != there(hi, lo) {
			t.Errorf("Fits(%#x, %d, %d) = %t: it just fits where there is a field", most, hi, lo, ok)
		}
		if ok := Fits(0, hi, lo); ok != there(hi, lo) {
			t.Errorf("Fits(0, %d, %d) = %t", hi, lo, ok)
		}
		if most != 1<<64-1 && Fits(most+1, hi, lo) {
			t.Errorf("Fits(%#x, %d, %d): it just does not", most+1, hi, lo)
		}
	})
}

// P1.2

func TestPutExamples(t *testing.T) {
	for _, c := range []struct {
		x      uint64
		hi, lo int
		v      uint64
		want   uint64
		e      api.Errno
	}{
		{0, 7, 4, 16, 0, api.ErrArg},
		{5, 7, 4, 16, 5, api.ErrArg},
		{0, 7, 4, 15, 0xf0, api.OK},
		{0xffff, 7, 4, 0, 0xff0f, api.OK},
		{0xffff, 7, 4, 5, 0xff5f, api.OK},
		{7, 63, 0, 1<<64 - 1, 1<<64 - 1, api.OK},
		{1<<64 - 1, 63, 0, 9, 9, api.OK},
		{0, 63, 63, 1, 1 << 63, api.OK},
		{1<<64 - 1, 63, 63, 0, 1<<63 - 1, api.OK},
		{1<<64 - 1, 63, 63, 2, 1<<64 - 1, api.ErrArg},
		{6, 0, 0, 1, 7, api.OK},
		{7, 0, 0, 0, 6, api.OK},
		{9, 0, 0, 2, 9, api.ErrArg},
		{9, 3, 4, 0, 9, api.ErrArg},
		{9, 64, 0, 0, 9, api.ErrArg},
		{9, 64, 64, 0, 9, api.ErrArg},
		{9, 3, -1, 0, 9, api.ErrArg},
		{9, math.MaxInt, 0, 0, 9, api.ErrArg},
		{9, 0, math.MinInt, 0, 9, api.ErrArg},
	} {
		if x, e := Put(c.x, c.hi, c.lo, c.v); x != c.want || e != c.e {
			t.Errorf("Put(%#x, %d, %d, %#x) = %#x, %v, not %#x, %v", c.x, c.hi, c.lo, c.v, x, e, c.want, c.e)
		}
	}
}

func TestPutRefusesWhatDoesNotFit(t *testing.T) {
	each(func(hi, lo int) {
		for _, v := range append(words(), get(1<<64-1, hi, lo)+1) {
			for _, x := range words() {
				y, e := Put(x, hi, lo, v)
				if !Fits(v, hi, lo) && (y != x || e != api.ErrArg) {
					t.Errorf("Put(%#x, %d, %d, %#x) = %#x, %v", x, hi, lo, v, y, e)
				}
				if Fits(v, hi, lo) && e != api.OK {
					t.Errorf("Put(%#x, %d, %d, %#x): %v", x, hi, lo, v, e)
				}
			}
		}
	})
}

// P1.3

func TestSignExamples(t *testing.T) {
	for _, c := range []struct {
		x    uint64
		hi   int
		want int64
	}{
		{0xf, 3, -1},
		{0xf, 4, 15},
		{0x8, 3, -8},
		{0x7, 3, 7},
		{0xfff8, 3, -8},
		{0xfff7, 3, 7},
		{0, 0, 0},
		{1, 0, -1},
		{7, 0, -1},
		{6, 0, 0},
		{1 << 63, 63, math.MinInt64},
		{1<<63 - 1, 63, math.MaxInt64},
		{1<<64 - 1, 63, -1},
		{1 << 63, 62, 0},
		{1 << 62, 62, -1 << 62},
		{7, 64, 0},
		{7, 65, 0},
		{7, -1, 0},
		{7, math.MaxInt, 0},
		{7, math.MinInt, 0},
	} {
		if v := Sign(c.x, c.hi); v != c.want {
			t.Errorf("Sign(%#x, %d) = %d, not %d", c.x, c.hi, v, c.want)
		}
	}
}

func TestSignBitByBit(t *testing.T) {
	for _, hi := range bounds() {
		for _, x := range words() {
			var want int64
			if there(hi, 0) {
				want = int64(get(x, hi-1, 0) - x>>hi%2<<hi)
			}
			if v := Sign(x, hi); v != want {
				t.Errorf("Sign(%#x, %d) = %d, not %d", x, hi, v, want)
			}
		}
	}
}

func TestEach(t *testing.T) {
	for _, x := range words() {
		var want []int
		for k := range 64 {
			if x>>k%2 == 1 {
				want = append(want, k)
			}
		}
		if got := slices.Collect(Each(x)); !slices.Equal(got, want) {
			t.Errorf("Each(%#x): %v, not %v", x, got, want)
		}
	}
}

func TestEachOfNothingAndAll(t *testing.T) {
	if Each(0) == nil {
		t.Fatal("an iterator is never nil")
	}
	for k := range Each(0) {
		t.Errorf("Each(0) tells %d", k)
	}
	if l := slices.Collect(Each(1<<64 - 1)); len(l) != 64 || l[0] != 0 || l[63] != 63 {
		t.Errorf("Each of all ones: %v", l)
	}
	if l := slices.Collect(Each(1<<63 | 5)); !slices.Equal(l, []int{0, 2, 63}) {
		t.Errorf("Each of three: %v", l)
	}
}

// first goes over at most n places, and leaves.
func first(s iter.Seq[int], n int) []int {
	var l []int
	for k := range s {
		if len(l) == n {
			break
		}
		l = append(l, k)
	}
	return l
}

func TestEachLeftEarlyAndGoneOverAgain(t *testing.T) {
	s := Each(0xf1)
	if l := first(s, 1); !slices.Equal(l, []int{0}) {
		t.Error("left early:", l)
	}
	for range 2 {
		if l := slices.Collect(s); !slices.Equal(l, []int{0, 4, 5, 6, 7}) {
			t.Error("gone over again:", l)
		}
	}
	n := 0
	for range s {
		n += len(first(s, 2))
	}
	if n != 10 {
		t.Error("gone over while it is gone over:", n)
	}
}

func TestEachAsksNoMoreOnceLeft(t *testing.T) {
	for n := 1; n <= 64; n++ {
		asked := 0
		Each(1<<64 - 1)(func(int) bool {
			asked++
			return asked < n
		})
		if asked != n {
			t.Errorf("asked %d times, left at %d", asked, n)
		}
	}
}

func TestEachTellsWhatTheWordWas(t *testing.T) {
	x := uint64(6)
	s := Each(x)
	x = 1 << 40
	if l := slices.Collect(s); !slices.Equal(l, []int{1, 2}) {
		t.Errorf("Each(6): %v, once the variable is %#x", l, x)
	}
}

// P1.4

func TestGetOfPut(t *testing.T) {
	each(func(hi, lo int) {
		if !there(hi, lo) {
			return
		}
		for _, x := range words() {
			for _, w := range words() {
				v := get(w, hi, lo)
				y, e := Put(x, hi, lo, v)
				if e != api.OK || Get(y, hi, lo) != v || (x^y)&^ones(hi, lo) != 0 {
					t.Errorf("Put(%#x, %d, %d, %#x) = %#x, %v", x, hi, lo, v, y, e)
				}
			}
		}
	})
}

// put is Put where nothing may go wrong.
func put(t *testing.T, x uint64, hi, lo int, v uint64) uint64 {
	t.Helper()
	y, e := Put(x, hi, lo, v)
	if e != api.OK {
		t.Errorf("Put(%#x, %d, %d, %#x): %v", x, hi, lo, v, e)
	}
	return y
}

func TestFieldsApartInAnyOrder(t *testing.T) {
	for top := range 64 {
		for cut := range top {
			for _, x := range words() {
				a, b := get(^x, top, cut+1), get(x>>3, cut, 0)
				one := put(t, put(t, x, top, cut+1, a), cut, 0, b)
				two := put(t, put(t, x, cut, 0, b), top, cut+1, a)
				if one != two || Get(one, top, cut+1) != a || Get(one, cut, 0) != b {
					t.Errorf("%#x: (%d, %d) and (%d, 0): %#x, %#x", x, top, cut+1, cut, one, two)
				}
			}
		}
	}
}
