package addr

import (
	"math"
	"testing"

	"tenement/api"
)

// words are plain ones, those beside each power of 2, then such as a fixed rule mixes.
func words() []uint64 {
	l := []uint64{0, 0x5008, 0x5ffc, 0x7fff_ffff_f008, 0x5555555555555555, 0xaaaaaaaaaaaaaaaa, math.MaxUint64}
	for k := range 64 {
		l = append(l, 1<<k-1, 1<<k, 1<<k+1, 1<<k-8, math.MaxUint64-1<<k)
	}
	x := uint64(0x9e3779b97f4a7c15)
	for range 64 {
		x ^= x << 13
		x ^= x >> 7
		x ^= x << 17
		l = append(l, x, x>>17, x>>29)
	}
	return l
}

// pages are the words that are pages of the user's, and the words so cut that they are.
func pages() []uint64 {
	var l []uint64
	for _, x := range words() {
		l = append(l, x%api.MaxPage)
	}
	return append(l, 513, 200<<27|3<<18|511<<9|7, api.MaxPage-1)
}

// noPages are just not pages of the user's, and far from it.
func noPages() []uint64 {
	l := []uint64{api.MaxPage + 1, math.MaxInt64, math.MaxUint64}
	for k := 35; k < 64; k++ {
		l = append(l, 1<<k, 1<<k|5)
	}
	return l
}

// outside are numbers below 0, and such as are n or greater.
func outside(n int) []int {
	return []int{math.MinInt, math.MinInt + 1, math.MinInt32, -1 << 33, -512, -2, -1, n, n + 1, 2 * n, 1 << 33, math.MaxInt32, math.MaxInt - 1, math.MaxInt}
}

// power says by products what the package says by shifts.
func power(n uint64, k int) uint64 {
	p := uint64(1)
	for range k {
		p *= n
	}
	return p
}

// P2.1

func TestAddressExamples(t *testing.T) {
	for _, c := range []struct {
		va            uint64
		user, aligned bool
		page          uint64
		place         int
	}{
		{0, true, true, 0, 0},
		{1, true, false, 0, 0},
		{4, true, false, 0, 0},
		{7, true, false, 0, 0},
		{8, true, true, 0, 1},
		{0xfff, true, false, 0, 511},
		{0x1000, true, true, 1, 0},
		{0x5008, true, true, 5, 1},
		{0x500c, true, false, 5, 1},
		{0x7fff_ffff_f008, true, true, 1<<35 - 1, 1},
		{1<<47 - 8, true, true, 1<<35 - 1, 511},
		{1<<47 - 1, true, false, 1<<35 - 1, 511},
		{1 << 47, false, true, 1 << 35, 0},
		{1<<48 - 1, false, false, 1<<36 - 1, 511},
		{1 << 48, false, true, 1 << 36, 0},
		{1<<48 | 0x5008, false, true, 1<<36 | 5, 1},
		{1 << 63, false, true, 1 << 51, 0},
		{1<<63 | 0x5008, false, true, 1<<51 | 5, 1},
		{math.MaxUint64 - 7, false, true, 1<<52 - 1, 511},
		{math.MaxUint64, false, false, 1<<52 - 1, 511},
	} {
		if got := User(c.va); got != c.user {
			t.Errorf("User(%#x) = %t", c.va, got)
		}
		if got := Aligned(c.va); got != c.aligned {
			t.Errorf("Aligned(%#x) = %t", c.va, got)
		}
		if got := Page(c.va); got != c.page {
			t.Errorf("Page(%#x) = %#x, not %#x", c.va, got, c.page)
		}
		if got := Place(c.va); got != c.place {
			t.Errorf("Place(%#x) = %d, not %d", c.va, got, c.place)
		}
	}
}

func TestAddressOfAnyWord(t *testing.T) {
	for _, va := range words() {
		if got, want := User(va), va < 1<<47; got != want {
			t.Errorf("User(%#x) = %t", va, got)
		}
		if got, want := Aligned(va), va%8 == 0; got != want {
			t.Errorf("Aligned(%#x) = %t", va, got)
		}
		if got, want := Page(va), va/4096; got != want {
			t.Errorf("Page(%#x) = %#x, not %#x", va, got, want)
		}
		if got, want := Place(va), int(va%4096/8); got != want {
			t.Errorf("Place(%#x) = %d, not %d", va, got, want)
		}
	}
}

// P2.2

func TestVaExamples(t *testing.T) {
	for _, c := range []struct {
		page  uint64
		place int
		want  uint64
		e     api.Errno
	}{
		{0, 0, 0, api.OK},
		{5, 1, 0x5008, api.OK},
		{0, 511, 0xff8, api.OK},
		{api.MaxPage - 1, 0, 0x7fff_ffff_f000, api.OK},
		{api.MaxPage - 1, 511, 1<<47 - 8, api.OK},
		{api.MaxPage, 0, 0, api.ErrArg},
		{api.MaxPage, 511, 0, api.ErrArg},
		{api.MaxPage - 1, 512, 0, api.ErrArg},
		{5, 512, 0, api.ErrArg},
		{5, -1, 0, api.ErrArg},
	} {
		if got, e := Va(c.page, c.place); got != c.want || e != c.e {
			t.Errorf("Va(%#x, %d) = %#x, %v, not %#x, %v", c.page, c.place, got, e, c.want, c.e)
		}
	}
}

func TestVaRefusesWhatIsNone(t *testing.T) {
	for _, page := range noPages() {
		for _, place := range append(outside(512), 0, 1, 511) {
			if got, e := Va(page, place); got != 0 || e != api.ErrArg {
				t.Errorf("Va(%#x, %d) = %#x, %v", page, place, got, e)
			}
		}
	}
	for _, page := range pages() {
		for _, place := range outside(512) {
			if got, e := Va(page, place); got != 0 || e != api.ErrArg {
				t.Errorf("Va(%#x, %d) = %#x, %v", page, place, got, e)
			}
		}
	}
}

func TestIndexAndPrefixExamples(t *testing.T) {
	for _, c := range []struct {
		page   uint64
		level  int
		index  int
		prefix uint64
	}{
		{0, 0, 0, 0},
		{0, 3, 0, 0},
		{513, 3, 1, 513},
		{513, 2, 1, 1},
		{513, 1, 0, 0},
		{513, 0, 0, 0},
		{511, 3, 511, 511},
		{511, 2, 0, 0},
		{512, 3, 0, 512},
		{512, 2, 1, 1},
		{200<<27 | 3<<18 | 511<<9 | 7, 0, 200, 200},
		{200<<27 | 3<<18 | 511<<9 | 7, 1, 3, 200<<9 | 3},
		{200<<27 | 3<<18 | 511<<9 | 7, 2, 511, 200<<18 | 3<<9 | 511},
		{200<<27 | 3<<18 | 511<<9 | 7, 3, 7, 200<<27 | 3<<18 | 511<<9 | 7},
		{api.MaxPage - 1, 0, 255, 255},
		{api.MaxPage - 1, 1, 511, 1<<17 - 1},
		{api.MaxPage - 1, 2, 511, 1<<26 - 1},
		{api.MaxPage - 1, 3, 511, 1<<35 - 1},
	} {
		if k, e := Index(c.page, c.level); k != c.index || e != api.OK {
			t.Errorf("Index(%#x, %d) = %d, %v, not %d", c.page, c.level, k, e, c.index)
		}
		if p, e := Prefix(c.page, c.level); p != c.prefix || e != api.OK {
			t.Errorf("Prefix(%#x, %d) = %#x, %v, not %#x", c.page, c.level, p, e, c.prefix)
		}
	}
}

func TestIndexAndPrefixByDivision(t *testing.T) {
	for _, page := range pages() {
		for level := range 4 {
			prefix := page / power(512, 3-level)
			if p, e := Prefix(page, level); p != prefix || e != api.OK {
				t.Errorf("Prefix(%#x, %d) = %#x, %v, not %#x", page, level, p, e, prefix)
			}
			if k, e := Index(page, level); k != int(prefix%512) || e != api.OK {
				t.Errorf("Index(%#x, %d) = %d, %v, not %d", page, level, k, e, prefix%512)
			}
		}
	}
}

// refused asks Index and Prefix for what is none.
func refused(t *testing.T, page uint64, level int) {
	t.Helper()
	if k, e := Index(page, level); k != 0 || e != api.ErrArg {
		t.Errorf("Index(%#x, %d) = %d, %v", page, level, k, e)
	}
	if p, e := Prefix(page, level); p != 0 || e != api.ErrArg {
		t.Errorf("Prefix(%#x, %d) = %#x, %v", page, level, p, e)
	}
}

func TestIndexAndPrefixRefuseWhatIsNone(t *testing.T) {
	for _, page := range noPages() {
		for _, level := range append(outside(4), 0, 1, 2, 3) {
			refused(t, page, level)
		}
	}
	for _, page := range pages() {
		for _, level := range outside(4) {
			refused(t, page, level)
		}
	}
}

func TestFromExamples(t *testing.T) {
	for _, c := range []struct {
		index [4]int
		want  uint64
		e     api.Errno
	}{
		{[4]int{}, 0, api.OK},
		{[4]int{0, 0, 0, 1}, 1, api.OK},
		{[4]int{0, 0, 1, 0}, 512, api.OK},
		{[4]int{0, 1, 0, 0}, 1 << 18, api.OK},
		{[4]int{1, 0, 0, 0}, 1 << 27, api.OK},
		{[4]int{0, 0, 1, 1}, 513, api.OK},
		{[4]int{200, 3, 511, 7}, 200<<27 | 3<<18 | 511<<9 | 7, api.OK},
		{[4]int{255, 0, 0, 0}, 255 << 27, api.OK},
		{[4]int{255, 511, 511, 511}, api.MaxPage - 1, api.OK},
		{[4]int{256, 0, 0, 0}, 0, api.ErrArg},
		{[4]int{256, 511, 511, 511}, 0, api.ErrArg},
		{[4]int{511, 0, 0, 0}, 0, api.ErrArg},
		{[4]int{512, 0, 0, 0}, 0, api.ErrArg},
		{[4]int{0, 512, 0, 0}, 0, api.ErrArg},
		{[4]int{0, 0, 512, 0}, 0, api.ErrArg},
		{[4]int{0, 0, 0, 512}, 0, api.ErrArg},
		{[4]int{-1, 0, 0, 0}, 0, api.ErrArg},
		{[4]int{0, -1, 0, 0}, 0, api.ErrArg},
		{[4]int{0, 0, -1, 0}, 0, api.ErrArg},
		{[4]int{0, 0, 0, -1}, 0, api.ErrArg},
	} {
		if got, e := From(c.index); got != c.want || e != c.e {
			t.Errorf("From(%v) = %#x, %v, not %#x, %v", c.index, got, e, c.want, c.e)
		}
	}
}

func TestFromRefusesWhatIsNoIndex(t *testing.T) {
	for level := range 4 {
		wrong := outside(512)
		if level == 0 {
			wrong = append(wrong, 256, 257, 511)
		}
		for _, k := range wrong {
			for _, index := range [][4]int{{}, {1, 2, 3, 4}, {255, 511, 511, 511}} {
				index[level] = k
				if got, e := From(index); got != 0 || e != api.ErrArg {
					t.Errorf("From(%v) = %#x, %v", index, got, e)
				}
			}
		}
	}
	if got, e := From([4]int{-1, 512, math.MinInt, math.MaxInt}); got != 0 || e != api.ErrArg {
		t.Errorf("From of four that are none = %#x, %v", got, e)
	}
}

// P2.3

func TestWordExamples(t *testing.T) {
	for _, c := range []struct {
		frame, place int
		want         uint64
		e            api.Errno
	}{
		{0, 0, 0, api.OK},
		{0, 511, 511, api.OK},
		{1, 0, 512, api.OK},
		{3, 9, 1545, api.OK},
		{api.MaxFrames, 0, 64 * 512, api.OK},
		{1<<20 - 1, 511, 1<<29 - 1, api.OK},
		{1 << 20, 0, 1 << 29, api.OK},
		{1 << 20, 511, 1<<29 + 511, api.OK},
		{1<<20 + 1, 0, 0, api.ErrArg},
		{1 << 20, 512, 0, api.ErrArg},
		{-1, 0, 0, api.ErrArg},
		{-1, 511, 0, api.ErrArg},
		{0, 512, 0, api.ErrArg},
		{0, -1, 0, api.ErrArg},
		{3, -1, 0, api.ErrArg},
	} {
		if got, e := Word(c.frame, c.place); got != c.want || e != c.e {
			t.Errorf("Word(%d, %d) = %d, %v, not %d, %v", c.frame, c.place, got, e, c.want, c.e)
		}
	}
}

func TestWordRefusesWhatIsNone(t *testing.T) {
	for _, frame := range outside(1<<20 + 1) {
		for _, place := range append(outside(512), 0, 1, 511) {
			if got, e := Word(frame, place); got != 0 || e != api.ErrArg {
				t.Errorf("Word(%d, %d) = %d, %v", frame, place, got, e)
			}
		}
	}
	for _, frame := range []int{0, 1, 63, 1 << 20} {
		for _, place := range outside(512) {
			if got, e := Word(frame, place); got != 0 || e != api.ErrArg {
				t.Errorf("Word(%d, %d) = %d, %v", frame, place, got, e)
			}
		}
	}
}

func TestSplitExamples(t *testing.T) {
	for _, c := range []struct {
		word         uint64
		frame, place int
	}{
		{0, 0, 0},
		{511, 0, 511},
		{512, 1, 0},
		{1545, 3, 9},
		{1<<29 + 511, 1 << 20, 511},
		{1<<29 + 512, 1<<20 + 1, 0},
		{1<<39 + 5, 1 << 30, 5},
		{1<<40 - 1, 1<<31 - 1, 511},
		{1 << 40, 1 << 31, 0},
		{1<<40 + 1, 0, 0},
		{1<<40 + 512, 0, 0},
		{1 << 41, 0, 0},
		{1<<41 + 5, 0, 0},
		{1 << 63, 0, 0},
		{math.MaxUint64, 0, 0},
	} {
		if f, p := Split(c.word); f != c.frame || p != c.place {
			t.Errorf("Split(%d) = %d, %d, not %d, %d", c.word, f, p, c.frame, c.place)
		}
	}
}

func TestSplitOfAnyWord(t *testing.T) {
	for _, word := range words() {
		var frame, place int
		if word <= 1<<40 {
			frame, place = int(word/512), int(word%512)
		}
		if f, p := Split(word); f != frame || p != place {
			t.Errorf("Split(%d) = %d, %d, not %d, %d", word, f, p, frame, place)
		}
	}
}

// P2.4

func TestPageAndPlaceOfVa(t *testing.T) {
	for _, page := range pages() {
		for _, place := range []int{0, 1, 2, 255, 256, 510, 511} {
			va, e := Va(page, place)
			if e != api.OK || va != page*4096+uint64(place)*8 {
				t.Errorf("Va(%#x, %d) = %#x, %v", page, place, va, e)
			}
			if Page(va) != page || Place(va) != place || !User(va) || !Aligned(va) {
				t.Errorf("Va(%#x, %d) = %#x: its page is %#x, its place %d", page, place, va, Page(va), Place(va))
			}
		}
	}
	for place := range 512 {
		if va, e := Va(9, place); e != api.OK || Page(va) != 9 || Place(va) != place {
			t.Errorf("Va(9, %d) = %#x, %v", place, va, e)
		}
	}
}

// indices asks for all four of a page, down to the level and 0 below it.
func indices(t *testing.T, page uint64, level int) [4]int {
	t.Helper()
	var index [4]int
	for k := range level + 1 {
		i, e := Index(page, k)
		if e != api.OK {
			t.Errorf("Index(%#x, %d): %v", page, k, e)
		}
		index[k] = i
	}
	return index
}

func TestFromOfIndices(t *testing.T) {
	for _, page := range pages() {
		index := indices(t, page, 3)
		if got, e := From(index); got != page || e != api.OK {
			t.Errorf("From(%v) = %#x, %v, not %#x", index, got, e, page)
		}
	}
}

func TestIndicesOfFrom(t *testing.T) {
	for _, first := range []int{0, 1, 128, 255} {
		for k := range 512 {
			index := [4]int{first, k, 511 - k, k ^ 0x155}
			page, e := From(index)
			if got := indices(t, page, 3); e != api.OK || got != index {
				t.Errorf("From(%v) = %#x, %v: its indices are %v", index, page, e, got)
			}
		}
	}
}

func TestSplitOfWord(t *testing.T) {
	for _, frame := range []int{0, 1, 2, 63, 64, 511, 512, 1<<19 + 3, 1<<20 - 1, 1 << 20} {
		for place := range 512 {
			word, e := Word(frame, place)
			if f, p := Split(word); e != api.OK || f != frame || p != place {
				t.Errorf("Word(%d, %d) = %d, %v: it splits into %d, %d", frame, place, word, e, f, p)
			}
		}
	}
}

func TestOnePrefixJustIfTheSameIndices(t *testing.T) {
	some := pages()
	for k := range 35 { // neighbours: unlike in one bit alone
		some = append(some, 0x2_aaaa_aaaa, 0x2_aaaa_aaaa^1<<k)
	}
	for _, a := range some {
		for _, b := range some {
			for level := range 4 {
				p, _ := Prefix(a, level)
				q, _ := Prefix(b, level)
				if same := indices(t, a, level) == indices(t, b, level); (p == q) != same {
					t.Fatalf("at level %d: %#x and %#x have the prefixes %#x and %#x", level, a, b, p, q)
				}
			}
		}
	}
}
