package buffer

import (
	"math"
	"math/rand"
	"slices"
	"testing"

	"tenement/api"
)

const (
	words   = 512 // of a frame, as the document says
	most    = 8   // entries of a buffer
	wordEnd = 1 << 40
	frameTo = 1 << 20
)

var bar = api.Entry{Kind: api.EnBar}

func word(w, v uint64) api.Entry {
	return api.Entry{Kind: api.EnWord, Word: w, Value: v}
}

func zero(frame int) api.Entry {
	return api.Entry{Kind: api.EnZero, Frame: frame}
}

func copied(frame, from int) api.Entry {
	return api.Entry{Kind: api.EnCopy, Frame: frame, From: from}
}

// good are entries that may be.
func good() []api.Entry {
	return []api.Entry{
		bar, word(0, 0), word(0, 7), word(1, 1), word(511, 2), word(512, math.MaxUint64), word(1023, 3), word(1024, 1<<63),
		word(frameTo*words, 4), word(frameTo*words+511, 5), word(frameTo*words+512, 6), word(1<<32, 8), word(1<<32+1, 8), word(wordEnd-1, 9),
		zero(0), zero(1), zero(2), zero(frameTo - 1), zero(frameTo),
		copied(0, 1), copied(1, 0), copied(2, 1), copied(2, 2), copied(0, 0), copied(frameTo, 0), copied(1, frameTo), copied(frameTo, frameTo),
	}
}

// bad are entries that may not be.
func bad() []api.Entry {
	l := []api.Entry{
		{Kind: api.EnWord, Word: wordEnd}, {Kind: api.EnWord, Word: wordEnd + 1}, {Kind: api.EnWord, Word: 1 << 41}, {Kind: api.EnWord, Word: 1 << 63}, {Kind: api.EnWord, Word: math.MaxUint64, Value: 1},
		{Kind: api.EnWord, Word: 1, From: 1}, {Kind: api.EnWord, Word: 1, Frame: 1}, {Kind: api.EnWord, From: -1}, {Kind: api.EnWord, Frame: -1},
		{Kind: api.EnBar, Word: 1}, {Kind: api.EnBar, Value: 1}, {Kind: api.EnBar, From: 1}, {Kind: api.EnBar, Frame: 1}, {Kind: api.EnBar, Frame: -1},
		{Kind: api.EnZero, Word: 1}, {Kind: api.EnZero, Value: 1}, {Kind: api.EnZero, From: 1}, {Kind: api.EnZero, Frame: 1, From: 1}, {Kind: api.EnZero, From: -1},
		{Kind: api.EnCopy, Word: 1}, {Kind: api.EnCopy, Value: 1, From: 1, Frame: 2}, {Kind: api.EnCopy, Word: wordEnd, From: 1, Frame: 2},
	}
	for _, k := range []int{math.MinInt, -1 << 32, -frameTo, -2, -1, frameTo + 1, 1<<32 + 1, 1 << 55, math.MaxInt} {
		l = append(l, zero(k), copied(k, 1), copied(1, k), copied(k, k))
	}
	for kind := math.MinInt8; kind <= math.MaxInt8; kind++ {
		if kind < 0 || kind > 3 {
			l = append(l, api.Entry{Kind: int8(kind)}, api.Entry{Kind: int8(kind), Word: 1}, api.Entry{Kind: int8(kind), Frame: 1, From: 2})
		}
	}
	return l
}

// badRows are buffers that may not be; each has entries that may reach memory, be forwarded and taken, if it is not looked at whole.
func badRows() [][]api.Entry {
	rows := [][]api.Entry{
		{bar}, {bar, bar}, {bar, word(1, 1)},
		slices.Repeat([]api.Entry{word(1, 1)}, most+1), slices.Repeat([]api.Entry{word(1, 1)}, 1<<16),
		append([]api.Entry{bar}, slices.Repeat([]api.Entry{word(1, 1)}, most-1)...),
		append(slices.Repeat([]api.Entry{word(1, 1)}, most), bar),
	}
	for _, e := range bad() {
		for at := range 3 {
			rows = append(rows, slices.Insert([]api.Entry{word(1, 1), word(2, 2)}, at, e))
		}
		full := slices.Repeat([]api.Entry{word(1, 1)}, most)
		full[most-1] = e
		rows = append(rows, full)
	}
	return rows
}

// places are all that may be in a buffer, and others.
func places() []int {
	l := []int{math.MinInt, -1 << 32, -9, -2, -1, 1 << 16, 1 << 32, 1<<32 + 1, math.MaxInt}
	for k := range most + 2 {
		l = append(l, k)
	}
	return l
}

// names are the words that an entry names, one by one.
func names(e api.Entry) map[uint64]bool {
	m := map[uint64]bool{}
	frame := func(k int) {
		for place := range words {
			m[uint64(k)*words+uint64(place)] = true
		}
	}
	switch e.Kind {
	case api.EnWord:
		m[e.Word] = true
	case api.EnZero:
		frame(e.Frame)
	case api.EnCopy:
		frame(e.Frame)
		frame(e.From)
	}
	return m
}

// share tells whether some word is in both.
func share(a, b map[uint64]bool) bool {
	for w := range a {
		if b[w] {
			return true
		}
	}
	return false
}

// item is an entry and the words that it names.
type item struct {
	api.Entry
	own map[uint64]bool
}

// items are the entries of a row.
func items(l []api.Entry) []item {
	var all []item
	for _, e := range l {
		all = append(all, item{e, names(e)})
	}
	return all
}

// goes tells by the document's words whether the item at place k may reach memory.
func goes(l []item, k int) bool {
	if k < 0 || k >= len(l) || l[k].Kind == api.EnBar {
		return false
	}
	for _, x := range l[:k] {
		if x.Kind == api.EnBar || share(x.own, l[k].own) {
			return false
		}
	}
	return true
}

// without are the items but the one at place k, first barriers gone.
func without(l []item, k int) []item {
	var rest []item
	for at, x := range l {
		if at != k && (len(rest) > 0 || x.Kind != api.EnBar) {
			rest = append(rest, x)
		}
	}
	return rest
}

// entries are those of the items.
func entries(l []item) []api.Entry {
	var all []api.Entry
	for _, x := range l {
		all = append(all, x.Entry)
	}
	return all
}

// alphabet is of entries that touch one another in every way, and barriers.
func alphabet() []api.Entry {
	return []api.Entry{word(1, 11), word(2, 12), word(1, 13), word(513, 14), bar, zero(0), zero(1), copied(0, 1), copied(1, 0), copied(2, 0), copied(3, 0), copied(1, 1)}
}

// short calls f with every buffer of at most n entries of the alphabet.
func short(n int, f func(l []api.Entry)) {
	var grow func(l []api.Entry)
	grow = func(l []api.Entry) {
		f(slices.Clone(l))
		if len(l) == n {
			return
		}
		for _, e := range alphabet() {
			if len(l) > 0 || e != bar {
				grow(append(l, e))
			}
		}
	}
	grow(nil)
}

// random is a buffer of n entries of the alphabet.
func random(r *rand.Rand, n int) []api.Entry {
	var l []api.Entry
	for len(l) < n {
		e := alphabet()[r.Intn(len(alphabet()))]
		if e.Kind == api.EnWord {
			e.Value = r.Uint64()
		}
		if len(l) > 0 || e != bar {
			l = append(l, e)
		}
	}
	return l
}

// P9.1

func TestCheckOfOneEntry(t *testing.T) {
	for _, e := range good() {
		want := api.OK
		if e == bar {
			want = api.ErrArg
		}
		if got := Check([]api.Entry{e}); got != want {
			t.Errorf("Check of %v alone is %v", e, got)
		}
		if got := Check([]api.Entry{word(1, 1), e}); got != api.OK {
			t.Errorf("Check of %v behind another is %v", e, got)
		}
	}
	for _, e := range bad() {
		if got := Check([]api.Entry{e}); got != api.ErrArg {
			t.Errorf("Check of %v is %v", e, got)
		}
	}
}

func TestCheckOfLengths(t *testing.T) {
	for n := range 12 {
		want := api.OK
		if n > most {
			want = api.ErrArg
		}
		if got := Check(slices.Repeat([]api.Entry{word(1, 1)}, n)); got != want {
			t.Errorf("Check of %d entries is %v", n, got)
		}
	}
	if Check(nil) != api.OK || Check([]api.Entry{}) != api.OK {
		t.Error("none may be")
	}
}

func TestCheckOfBarriers(t *testing.T) {
	for _, l := range [][]api.Entry{{word(1, 1), bar}, {zero(1), bar, bar, word(1, 1)}, append([]api.Entry{word(1, 1)}, slices.Repeat([]api.Entry{bar}, most-1)...)} {
		if got := Check(l); got != api.OK {
			t.Errorf("Check(%v) is %v", l, got)
		}
	}
	for n := 1; n <= most; n++ {
		if got := Check(slices.Repeat([]api.Entry{bar}, n)); got != api.ErrArg {
			t.Errorf("Check of %d barriers is %v", n, got)
		}
	}
}

func TestCheckLooksAtEveryEntry(t *testing.T) {
	for _, l := range badRows() {
		if got := Check(l); got != api.ErrArg {
			t.Errorf("Check(%v) is %v", l, got)
		}
	}
	for _, e := range bad() {
		for at := range most {
			l := slices.Repeat([]api.Entry{word(1, 1)}, most)
			l[at] = e
			if got := Check(l); got != api.ErrArg {
				t.Errorf("Check(%v) is %v", l, got)
			}
		}
	}
}

func TestTouchIsAWordNamedByBoth(t *testing.T) {
	own := items(good())
	for _, a := range own {
		for _, b := range own {
			if got, want := Touch(a.Entry, b.Entry), share(a.own, b.own); got != want {
				t.Errorf("Touch(%v, %v) is %v", a.Entry, b.Entry, got)
			}
		}
	}
}

func TestTouchExamples(t *testing.T) {
	for _, x := range []struct {
		a, b api.Entry
		want bool
	}{
		{word(5, 1), word(5, 2), true},
		{word(5, 1), word(6, 1), false},
		{zero(1), word(511, 0), false},
		{zero(1), word(512, 0), true},
		{zero(1), word(1023, 0), true},
		{zero(1), word(1024, 0), false},
		{zero(1), zero(1), true},
		{zero(1), zero(2), false},
		{copied(2, 1), word(600, 0), true},
		{copied(2, 1), word(1100, 0), true},
		{copied(2, 1), word(1600, 0), false},
		{copied(2, 1), copied(3, 1), true}, // both name the words of From
		{copied(2, 1), copied(1, 3), true},
		{copied(2, 1), copied(3, 2), true},
		{copied(2, 1), copied(2, 3), true},
		{copied(2, 1), copied(3, 4), false},
		{copied(2, 1), zero(1), true},
		{copied(2, 1), zero(2), true},
		{copied(2, 1), zero(0), false},
		{bar, bar, false},
		{bar, word(0, 0), false},
		{bar, zero(0), false},
		{bar, copied(0, 0), false},
	} {
		if got := Touch(x.a, x.b); got != x.want {
			t.Errorf("Touch(%v, %v) is %v", x.a, x.b, got)
		}
		if got := Touch(x.b, x.a); got != x.want {
			t.Errorf("Touch(%v, %v) is %v", x.b, x.a, got)
		}
	}
}

func TestTouchOfEntriesThatMayNotBe(t *testing.T) {
	for _, e := range bad() {
		for _, o := range append(good(), bad()...) {
			if Touch(e, o) || Touch(o, e) {
				t.Errorf("%v and %v touch", e, o)
			}
		}
	}
}

// P9.2

func TestPushLaysBehind(t *testing.T) {
	for _, e := range good() {
		for n := range most {
			l := good()[1 : 1+n]
			want := append(slices.Clone(l), e)
			if n == 0 && e == bar {
				want = nil
			}
			if got, err := Push(l, e); !slices.Equal(got, want) || err != api.OK {
				t.Errorf("Push(%v, %v) is %v, %v", l, e, got, err)
			}
		}
	}
}

func TestPushOfBarriers(t *testing.T) {
	for _, none := range [][]api.Entry{nil, {}} {
		if got, err := Push(none, bar); len(got) != 0 || err != api.OK {
			t.Errorf("a barrier onto none is %v, %v", got, err)
		}
	}
	l := []api.Entry{word(1, 1)}
	for range most - 1 {
		next, err := Push(l, bar)
		if want := append(slices.Clone(l), bar); !slices.Equal(next, want) || err != api.OK {
			t.Fatalf("Push(%v, a barrier) is %v, %v", l, next, err)
		}
		l = next
	}
	if got, err := Push(l, bar); len(got) != 0 || err != api.ErrFull {
		t.Error(got, err)
	}
}

func TestPushRefuses(t *testing.T) {
	full := slices.Repeat([]api.Entry{word(1, 1)}, most)
	for _, e := range good() {
		if got, err := Push(full, e); len(got) != 0 || err != api.ErrFull {
			t.Errorf("Push(full, %v) is %v, %v", e, got, err)
		}
		for _, l := range badRows() {
			if got, err := Push(l, e); len(got) != 0 || err != api.ErrArg {
				t.Fatalf("Push(%v, %v) is %v, %v", l, e, got, err)
			}
		}
	}
	for _, e := range bad() {
		for _, l := range [][]api.Entry{nil, {word(1, 1)}, {word(1, 1), bar}, full} { // ErrArg ahead of ErrFull
			if got, err := Push(l, e); len(got) != 0 || err != api.ErrArg {
				t.Errorf("Push(%v, %v) is %v, %v", l, e, got, err)
			}
		}
	}
}

func TestMayExamples(t *testing.T) {
	for _, x := range []struct {
		l    []api.Entry
		want []bool
	}{
		{[]api.Entry{word(1, 1), word(2, 2), word(1, 3)}, []bool{true, true, false}},
		{[]api.Entry{word(1, 1), bar, word(2, 2)}, []bool{true, false, false}},
		{[]api.Entry{zero(0), word(5, 1)}, []bool{true, false}},
		{[]api.Entry{zero(0), word(512, 1), word(512, 2), word(513, 1)}, []bool{true, true, false, true}},
		{[]api.Entry{copied(0, 1), word(600, 1), copied(2, 1), zero(3), zero(0)}, []bool{true, false, false, true, false}},
		{[]api.Entry{word(600, 1), copied(0, 1), word(5, 1), word(601, 1)}, []bool{true, false, false, false}},
		{nil, nil},
	} {
		for _, k := range places() {
			want := k >= 0 && k < len(x.want) && x.want[k]
			if got := May(x.l, k); got != want {
				t.Errorf("May(%v, %d) is %v", x.l, k, got)
			}
		}
	}
}

// take holds May and Take of every place against the document's words.
func take(t *testing.T, l []api.Entry) {
	t.Helper()
	own := items(l)
	for _, k := range places() {
		may := goes(own, k)
		if got := May(l, k); got != may {
			t.Fatalf("May(%v, %d) is %v", l, k, got)
		}
		var rest []api.Entry
		var e api.Entry
		err := api.ErrOrder
		switch {
		case k < 0 || k >= len(l):
			err = api.ErrNone
		case may:
			rest, e, err = entries(without(own, k)), l[k], api.OK
		}
		if gotRest, got, gotErr := Take(l, k); !slices.Equal(gotRest, rest) || got != e || gotErr != err {
			t.Fatalf("Take(%v, %d) is %v, %v, %v, want %v, %v, %v", l, k, gotRest, got, gotErr, rest, e, err)
		}
	}
}

func TestMayAndTakeOfShortBuffers(t *testing.T) {
	short(3, func(l []api.Entry) { take(t, l) })
}

func TestMayAndTakeOfLongBuffers(t *testing.T) {
	r := rand.New(rand.NewSource(1))
	for n := 4; n <= most; n++ {
		for range 100 {
			take(t, random(r, n))
		}
	}
}

func TestTakeDropsFirstBarriers(t *testing.T) {
	for _, x := range []struct {
		l    []api.Entry
		k    int
		want []api.Entry
	}{
		{[]api.Entry{word(1, 1), bar, bar, word(2, 2), bar, word(3, 3)}, 0, []api.Entry{word(2, 2), bar, word(3, 3)}},
		{[]api.Entry{word(1, 1), bar, bar, bar}, 0, nil},
		{[]api.Entry{word(1, 1), word(2, 2), bar}, 1, []api.Entry{word(1, 1), bar}},
		{[]api.Entry{word(1, 1), word(2, 2), bar}, 0, []api.Entry{word(2, 2), bar}},
		{[]api.Entry{word(1, 1)}, 0, nil},
	} {
		if got, e, err := Take(x.l, x.k); !slices.Equal(got, x.want) || e != x.l[x.k] || err != api.OK {
			t.Errorf("Take(%v, %d) is %v, %v, %v", x.l, x.k, got, e, err)
		}
	}
}

func TestMayAndTakeOfBuffersThatMayNotBe(t *testing.T) {
	for _, l := range badRows() {
		for _, k := range places() { // ErrArg ahead of ErrNone and ErrOrder
			if May(l, k) {
				t.Fatalf("May(%v, %d)", l, k)
			}
			if rest, e, err := Take(l, k); len(rest) != 0 || e != (api.Entry{}) || err != api.ErrArg {
				t.Fatalf("Take(%v, %d) is %v, %v, %v", l, k, rest, e, err)
			}
		}
	}
}

// P9.3

func TestForwardExamples(t *testing.T) {
	for _, x := range []struct {
		l    []api.Entry
		w, v uint64
		is   bool
		err  api.Errno
	}{
		{nil, 0, 0, false, api.OK},
		{nil, wordEnd - 1, 0, false, api.OK},
		{[]api.Entry{word(1, 5), word(1, 7), word(2, 6)}, 1, 7, true, api.OK},
		{[]api.Entry{word(1, 5), word(1, 7), word(2, 6)}, 3, 0, false, api.OK},
		{[]api.Entry{word(1, 5), bar, bar}, 1, 5, true, api.OK}, // a barrier names nothing
		{[]api.Entry{word(5, 5), bar}, 0, 0, false, api.OK},
		{[]api.Entry{word(wordEnd-1, 5)}, wordEnd - 1, 5, true, api.OK},
		{[]api.Entry{word(1, 0)}, 1, 0, true, api.OK},
		{[]api.Entry{zero(1)}, 511, 0, false, api.OK},
		{[]api.Entry{zero(1)}, 512, 0, true, api.OK},
		{[]api.Entry{zero(1)}, 1023, 0, true, api.OK},
		{[]api.Entry{zero(1)}, 1024, 0, false, api.OK},
		{[]api.Entry{word(600, 5), zero(1)}, 600, 0, true, api.OK},
		{[]api.Entry{zero(1), word(600, 5)}, 600, 5, true, api.OK},
		{[]api.Entry{zero(1), word(600, 5)}, 601, 0, true, api.OK},
		{[]api.Entry{copied(2, 1)}, 1024, 0, false, api.ErrOrder},
		{[]api.Entry{copied(2, 1)}, 1535, 0, false, api.ErrOrder},
		{[]api.Entry{copied(2, 1)}, 1023, 0, false, api.OK}, // From is not written
		{[]api.Entry{copied(2, 1)}, 512, 0, false, api.OK},
		{[]api.Entry{copied(2, 1)}, 1536, 0, false, api.OK},
		{[]api.Entry{word(600, 5), copied(2, 1)}, 600, 5, true, api.OK},
		{[]api.Entry{word(1030, 5), copied(2, 1)}, 1030, 0, false, api.ErrOrder},
		{[]api.Entry{copied(2, 1), word(1030, 5)}, 1030, 5, true, api.OK},
		{[]api.Entry{copied(2, 1), word(1030, 5)}, 1031, 0, false, api.ErrOrder},
		{[]api.Entry{zero(2), copied(2, 1)}, 1030, 0, false, api.ErrOrder},
		{[]api.Entry{copied(2, 1), zero(2)}, 1030, 0, true, api.OK},
		{[]api.Entry{copied(2, 1), bar, zero(2)}, 1030, 0, true, api.OK},
		{[]api.Entry{copied(1, 1)}, 600, 0, false, api.ErrOrder},
		{[]api.Entry{zero(frameTo)}, frameTo * words, 0, true, api.OK},
		{[]api.Entry{zero(frameTo)}, frameTo*words + words, 0, false, api.OK},
	} {
		if v, is, err := Forward(x.l, x.w); v != x.v || is != x.is || err != x.err {
			t.Errorf("Forward(%v, %d) is %d, %v, %v", x.l, x.w, v, is, err)
		}
	}
}

// newest tells by the document's words what is forwarded.
func newest(l []api.Entry, w uint64) (uint64, bool, api.Errno) {
	var v uint64
	is, err := false, api.OK
	for _, e := range l {
		frame := int(w / words)
		switch {
		case e.Kind == api.EnWord && e.Word == w:
			v, is, err = e.Value, true, api.OK
		case e.Kind == api.EnZero && e.Frame == frame:
			v, is, err = 0, true, api.OK
		case e.Kind == api.EnCopy && e.Frame == frame:
			v, is, err = 0, false, api.ErrOrder
		}
	}
	return v, is, err
}

func TestForwardOfShortBuffers(t *testing.T) {
	short(3, func(l []api.Entry) {
		for _, w := range []uint64{0, 1, 2, 511, 512, 513, 1023, 1024, 1535, 1536, 2048, wordEnd - 1} {
			v, is, err := newest(l, w)
			if gotV, got, gotErr := Forward(l, w); gotV != v || got != is || gotErr != err {
				t.Fatalf("Forward(%v, %d) is %d, %v, %v", l, w, gotV, got, gotErr)
			}
		}
	})
}

func TestForwardRefuses(t *testing.T) {
	rows := [][]api.Entry{nil, {word(1, 1)}, {zero(0)}, {copied(0, 1)}, {copied(frameTo, frameTo)}}
	for _, w := range []uint64{wordEnd, wordEnd + 1, 1 << 41, 1 << 63, math.MaxUint64} {
		for _, l := range append(rows, badRows()...) {
			if v, is, err := Forward(l, w); v != 0 || is || err != api.ErrArg {
				t.Fatalf("Forward(%v, %d) is %d, %v, %v", l, w, v, is, err)
			}
		}
	}
	for _, l := range badRows() {
		for _, w := range []uint64{0, 1, 2, 512, wordEnd - 1} {
			if v, is, err := Forward(l, w); v != 0 || is || err != api.ErrArg {
				t.Fatalf("Forward(%v, %d) is %d, %v, %v", l, w, v, is, err)
			}
		}
	}
}

// P9.4

// memory is the words that the alphabet names, and some more.
type memory [4][words]uint64

// before is a memory whose words are all unlike.
func before() *memory {
	m := new(memory)
	for k := range m {
		for place := range m[k] {
			m[k][place] = uint64(1000*k + place + 100)
		}
	}
	return m
}

// reach is what an entry does to memory.
func (m *memory) reach(e api.Entry) {
	switch e.Kind {
	case api.EnWord:
		m[e.Word/words][e.Word%words] = e.Value
	case api.EnZero:
		m[e.Frame] = [words]uint64{}
	case api.EnCopy:
		m[e.Frame] = m[e.From]
	}
}

// byAge is what memory is to be: each entry reached it, the oldest first.
func byAge(l []api.Entry) *memory {
	m := before()
	for _, e := range l {
		m.reach(e)
	}
	return m
}

// drain takes the entry that pick chooses of those that may reach memory, till there is none, and answers the memory.
func drain(t *testing.T, l []api.Entry, pick func(n int) int) *memory {
	t.Helper()
	m, own := before(), items(l)
	for len(l) > 0 {
		var can []int
		for k := range l {
			if May(l, k) {
				can = append(can, k)
			}
		}
		if len(can) == 0 { // P9.5
			t.Fatalf("none of %v may reach memory", l)
		}
		k := can[pick(len(can))]
		rest, e, err := Take(l, k)
		if err != api.OK || e != l[k] {
			t.Fatalf("Take(%v, %d) is %v, %v", l, k, e, err)
		}
		for _, x := range own[:k] {
			if x.Kind == api.EnBar {
				t.Fatalf("%v went ahead of a barrier in %v", e, l)
			}
		}
		m.reach(e)
		own = without(own, k)
		if !slices.Equal(rest, entries(own)) {
			t.Fatalf("Take(%v, %d) leaves %v", l, k, rest)
		}
		l = rest
	}
	return m
}

// orders calls f with picks for all orders that there are: each is like the one before it but for its last choice that can be another.
func orders(f func(pick func(n int) int)) {
	var chosen, of []int
	for {
		at := 0
		f(func(n int) int {
			if at == len(chosen) {
				chosen, of = append(chosen, 0), append(of, n)
			}
			at++
			return chosen[at-1]
		})
		for len(chosen) > 0 && chosen[len(chosen)-1]+1 == of[len(of)-1] {
			chosen, of = chosen[:len(chosen)-1], of[:len(of)-1]
		}
		if len(chosen) == 0 {
			return
		}
		chosen[len(chosen)-1]++
	}
}

func TestOwnWordsInAllOrders(t *testing.T) {
	short(3, func(l []api.Entry) {
		want := byAge(l)
		orders(func(pick func(n int) int) {
			if got := drain(t, l, pick); *got != *want {
				t.Fatalf("%v: memory hangs on the order", l)
			}
		})
	})
}

func TestOwnWordsOfLongBuffers(t *testing.T) {
	r := rand.New(rand.NewSource(2))
	for range 2000 {
		l := random(r, 4+r.Intn(most-3))
		if got, want := drain(t, l, r.Intn), byAge(l); *got != *want {
			t.Fatalf("%v: memory hangs on the order", l)
		}
	}
}

func TestOwnWordsWhilePushing(t *testing.T) {
	r := rand.New(rand.NewSource(3))
	for range 200 {
		var l, pushed []api.Entry
		m := before()
		for range 60 {
			e := alphabet()[r.Intn(len(alphabet()))]
			if next, err := Push(l, e); err == api.OK {
				l, pushed = next, append(pushed, e)
			}
			for r.Intn(2) == 0 && len(l) > 0 {
				if rest, e, err := Take(l, r.Intn(len(l))); err == api.OK {
					m.reach(e)
					l = rest
				}
			}
		}
		for _, e := range l {
			m.reach(e)
		}
		if want := byAge(pushed); *m != *want {
			t.Fatalf("%v: memory is not as by age", pushed)
		}
	}
}

func TestWhatIsBehindABarrierComesBehind(t *testing.T) {
	l := []api.Entry{word(1, 1), word(2, 2), bar, word(3, 3), bar, word(4, 4)}
	count := 0
	orders(func(pick func(n int) int) {
		count++
		drain(t, l, pick)
	})
	if count != 2 { // the first two alone may change places
		t.Errorf("%d orders", count)
	}
}

// P9.5

func TestSomeEntryMayReachMemory(t *testing.T) {
	some := func(l []api.Entry) {
		for k := range l {
			if May(l, k) {
				return
			}
		}
		t.Fatalf("none of %v may reach memory", l)
	}
	short(4, func(l []api.Entry) {
		if len(l) > 0 { // none of them is of barriers alone: the first is none
			some(l)
		}
	})
	r := rand.New(rand.NewSource(4))
	for range 5000 {
		some(random(r, 1+r.Intn(most)))
	}
}

// R1, R3 and R4

// spare is the row with room behind it that holds other entries, and all of that.
func spare(l []api.Entry) (row, all []api.Entry) {
	all = append(slices.Clone(l), slices.Repeat([]api.Entry{word(99, 99)}, most)...)
	return all[:len(l)], all
}

// spoil writes over an answer and the room behind it.
func spoil(l []api.Entry, value int) {
	for k := range l[:cap(l)] {
		l[:cap(l)][k] = word(77, uint64(value))
	}
}

func TestArgumentsAreNotChanged(t *testing.T) {
	short(3, func(l []api.Entry) {
		row, all := spare(l)
		was := slices.Clone(all)
		Check(row)
		Forward(row, 1)
		next, _ := Push(row, word(5, 5))
		spoil(next, 1)
		none, _ := Push(row, bar)
		spoil(none, 2)
		for _, k := range places() {
			May(row, k)
			rest, _, _ := Take(row, k)
			spoil(rest, 3)
		}
		if !slices.Equal(all, was) {
			t.Fatalf("%v has become %v", was, all)
		}
	})
}

func TestAnswersShareNothing(t *testing.T) {
	l := []api.Entry{word(1, 1), bar, word(2, 2), word(3, 3)}
	a, _ := Push(l, word(4, 4))
	b, _ := Push(l, word(4, 4))
	c, _ := Push(a, word(5, 5))
	d, _ := Push(a, word(6, 6))
	rest, _, _ := Take(a, 0)
	again, _, _ := Take(a, 0)
	rows := [][]api.Entry{a, b, c, d, rest, again}
	for at := range rows {
		for other := range rows {
			was := slices.Clone(rows[at])
			if other != at {
				spoil(rows[other], 10*at+other) // unlike each time, so that it is seen
			}
			if !slices.Equal(rows[at], was) {
				t.Errorf("the answers %d and %d share memory", at, other)
			}
		}
	}
}

func TestAnswersHangOnArgumentsAlone(t *testing.T) {
	short(2, func(l []api.Entry) {
		a, e := Push(l, word(8, 8))
		x, is, f := Forward(l, 1)
		for _, row := range badRows()[:8] {
			Push(row, bar)
			Take(row, 0)
		}
		b, g := Push(l, word(8, 8))
		y, was, h := Forward(l, 1)
		if !slices.Equal(a, b) || e != g || x != y || is != was || f != h {
			t.Fatalf("of %v the answers are unlike", l)
		}
	})
}
