package mem

import (
	"math"
	"math/rand"
	"slices"
	"testing"

	"tenement/api"
)

const words = 512 // of a frame, as the document says

// made answers a memory of n frames.
func made(t *testing.T, n int) *Mem {
	t.Helper()
	m, e := New(n)
	if m == nil || e != api.OK {
		t.Fatalf("New(%d) is %v, %v", n, m, e)
	}
	return m
}

// model is what a memory of the same frames is to be: all its words, none left out.
type model [][words]uint64

// reach is what the document says of an entry that may reach memory.
func (l model) reach(e api.Entry) {
	switch e.Kind {
	case api.EnWord:
		l[e.Word/words][e.Word%words] = e.Value
	case api.EnZero:
		l[e.Frame] = [words]uint64{}
	case api.EnCopy:
		l[e.Frame] = l[e.From]
	}
}

// check holds all words of a memory against the model, by Read and by Words.
func (l model) check(t *testing.T, m *Mem, when string) {
	t.Helper()
	if n := m.Frames(); n != len(l) {
		t.Fatalf("%s: %d frames, want %d", when, n, len(l))
	}
	for k := range l {
		var want []api.CellWord
		for place, value := range l[k] {
			if x, e := m.Read(uint64(k*words + place)); x != value || e != api.OK {
				t.Fatalf("%s: the word %d of frame %d is %d, %v, want %d", when, place, k, x, e, value)
			}
			if value != 0 {
				want = append(want, api.CellWord{Place: place, Value: value})
			}
		}
		if got := m.Words(k); !slices.Equal(got, want) {
			t.Fatalf("%s: the words of frame %d are %v, want %v", when, k, got, want)
		}
	}
}

// filled answers a memory of n frames and its model: some words of all frames but the last are not 0.
func filled(t *testing.T, n int) (*Mem, model) {
	t.Helper()
	m, l := made(t, n), make(model, n)
	for k := range n - 1 {
		for _, place := range []int{0, 1, 7, 255, 510, 511} {
			value := uint64(100*k + place + 1)
			l[k][place] = value
			if e := m.Write(uint64(k*words+place), value); e != api.OK {
				t.Fatal(e)
			}
		}
	}
	l.check(t, m, "filled")
	return m, l
}

// beyond are words that a memory of n frames does not have.
func beyond(n int) []uint64 {
	end := uint64(n * words)
	return []uint64{end, end + 1, end + words, 64*words + 5, 1 << 32, 1<<32 + 1, 1 << 40, 1 << 63, 1<<63 + 1, math.MaxUint64 - words, math.MaxUint64}
}

// P8.1

func TestNewTakesOneToSixtyFourFrames(t *testing.T) {
	for _, n := range []int{math.MinInt, math.MinInt32, -64, -1, 0, 65, 66, 512, 1 << 32, 1<<32 + 1, math.MaxInt} {
		if m, e := New(n); m != nil || e != api.ErrArg {
			t.Errorf("New(%d) is %v, %v", n, m, e)
		}
	}
	for n := 1; n <= 64; n++ {
		m, e := New(n)
		if e != api.OK || m.Frames() != n {
			t.Errorf("New(%d) is a memory of %d, %v", n, m.Frames(), e)
		}
	}
}

func TestAllWordsAreThereAndZeroAtFirst(t *testing.T) {
	for _, n := range []int{1, 2, 63, 64} {
		make(model, n).check(t, made(t, n), "new")
	}
}

func TestReadingMakesNoFrame(t *testing.T) {
	m := made(t, 4)
	m.Read(0)
	m.Words(1)
	m.Reach(api.Entry{Kind: api.EnCopy, Frame: 2, From: 3})
	m.Reach(api.Entry{Kind: api.EnZero, Frame: 2})
	if len(m.frames) != 0 {
		t.Errorf("there are %d frames that were not written", len(m.frames))
	}
	m.Write(513, 7)
	if len(m.frames) != 1 || m.frames[1] == nil {
		t.Error("the frame that was written is not there")
	}
}

func TestExamples(t *testing.T) {
	m := made(t, 4)
	if e := m.Write(513, 7); e != api.OK {
		t.Error(e)
	}
	if e := m.Reach(api.Entry{Kind: api.EnCopy, Frame: 2, From: 1}); e != api.OK {
		t.Error(e)
	}
	if x, e := m.Read(1025); x != 7 || e != api.OK {
		t.Error(x, e)
	}
	for was := range uint64(2) {
		if x, e := m.Add(0, 1); x != was || e != api.OK {
			t.Error(x, e)
		}
	}
	if x, e := m.Read(0); x != 2 || e != api.OK {
		t.Error(x, e)
	}
}

func TestWriteIsOfThatWordAlone(t *testing.T) {
	for _, word := range []uint64{0, 1, 511, 512, 513, 1023, 1024, 1536, 2047} {
		m, l := filled(t, 4)
		for _, value := range []uint64{1, math.MaxUint64, 0, 1 << 63} {
			if e := m.Write(word, value); e != api.OK {
				t.Fatalf("Write(%d, %d) is %v", word, value, e)
			}
			l[word/words][word%words] = value
			l.check(t, m, "written")
		}
	}
}

func TestAddTellsWhatWasAndWrapsRound(t *testing.T) {
	for _, word := range []uint64{0, 511, 512, 1030, 2047} {
		m, l := filled(t, 4)
		for _, value := range []uint64{0, 1, 41, math.MaxUint64, 1 << 63, 1 << 63, math.MaxUint64 - 5} {
			c := &l[word/words][word%words]
			if x, e := m.Add(word, value); x != *c || e != api.OK {
				t.Fatalf("Add(%d, %d) is %d, %v, want %d", word, value, x, e, *c)
			}
			*c += value
			l.check(t, m, "added")
		}
	}
	m := made(t, 1)
	m.Write(3, math.MaxUint64)
	if x, e := m.Add(3, 2); x != math.MaxUint64 || e != api.OK {
		t.Error(x, e)
	}
	if x, _ := m.Read(3); x != 1 {
		t.Errorf("the word has not wrapped round: %d", x)
	}
}

func TestWordsThatAreNotThere(t *testing.T) {
	for _, n := range []int{1, 3, 63, 64} {
		m, l := filled(t, n)
		for _, word := range beyond(n) {
			if x, e := m.Read(word); x != 0 || e != api.ErrMemory {
				t.Errorf("of %d frames Read(%d) is %d, %v", n, word, x, e)
			}
			if e := m.Write(word, 9); e != api.ErrMemory {
				t.Errorf("of %d frames Write(%d) is %v", n, word, e)
			}
			if x, e := m.Add(word, 9); x != 0 || e != api.ErrMemory {
				t.Errorf("of %d frames Add(%d) is %d, %v", n, word, x, e)
			}
		}
		l.check(t, m, "refused")
	}
}

func TestOfNil(t *testing.T) {
	var m *Mem
	if n := m.Frames(); n != 0 {
		t.Error(n)
	}
	for _, word := range []uint64{0, 511, math.MaxUint64} {
		if x, e := m.Read(word); x != 0 || e != api.ErrNil {
			t.Error(x, e)
		}
		if e := m.Write(word, 1); e != api.ErrNil {
			t.Error(e)
		}
		if x, e := m.Add(word, 1); x != 0 || e != api.ErrNil {
			t.Error(x, e)
		}
	}
	for _, e := range []api.Entry{{}, {Word: 1 << 40}, {Kind: api.EnBar}, {Kind: api.EnZero, Frame: -1}, {Kind: api.EnCopy}, {Kind: 9}, {Kind: -1}} {
		if err := m.Reach(e); err != api.ErrNil {
			t.Errorf("Reach(%v) is %v", e, err)
		}
	}
	for _, k := range []int{-1, 0, 1} {
		if l := m.Words(k); len(l) != 0 {
			t.Error(l)
		}
	}
	if c := m.Copy(); c != nil {
		t.Error(c)
	}
}

func TestMemoryThatNewDidNotMake(t *testing.T) {
	var m Mem
	if m.Frames() != 0 || len(m.Words(0)) != 0 || m.Copy().Frames() != 0 {
		t.Error("it has frames")
	}
	if _, e := m.Read(0); e != api.ErrMemory {
		t.Error(e)
	}
	if _, e := m.Add(0, 1); e != api.ErrMemory {
		t.Error(e)
	}
	for _, e := range []api.Entry{{}, {Kind: api.EnZero}, {Kind: api.EnCopy}} {
		if err := m.Reach(e); err != api.ErrMemory {
			t.Errorf("Reach(%v) is %v", e, err)
		}
	}
	if e := m.Copy().Write(0, 1); e != api.ErrMemory {
		t.Error(e)
	}
}

// P8.2

func TestEachKindReachesMemory(t *testing.T) {
	for _, e := range []api.Entry{
		{Kind: api.EnWord, Word: 0, Value: 9},
		{Kind: api.EnWord, Word: 511, Value: math.MaxUint64},
		{Kind: api.EnWord, Word: 512},
		{Kind: api.EnWord, Word: 2047, Value: 1 << 63},
		{Kind: api.EnBar},
		{Kind: api.EnZero, Frame: 0},
		{Kind: api.EnZero, Frame: 2},
		{Kind: api.EnZero, Frame: 3},
		{Kind: api.EnCopy, Frame: 0, From: 1},
		{Kind: api.EnCopy, Frame: 1, From: 0},
		{Kind: api.EnCopy, Frame: 3, From: 2},
		{Kind: api.EnCopy, Frame: 2, From: 3}, // of a frame that was never written
		{Kind: api.EnCopy, Frame: 1, From: 1},
		{Kind: api.EnCopy, Frame: 3, From: 3},
	} {
		m, l := filled(t, 4)
		for range 2 {
			if err := m.Reach(e); err != api.OK {
				t.Fatalf("Reach(%v) is %v", e, err)
			}
			l.reach(e)
			l.check(t, m, "reached")
		}
	}
}

func TestEntriesNameWhatTheirKindSays(t *testing.T) {
	for _, e := range []api.Entry{
		{Kind: api.EnWord, Word: 5, Value: 6, From: -1, Frame: 64},
		{Kind: api.EnBar, Word: math.MaxUint64, Value: 1, From: -1, Frame: -1},
		{Kind: api.EnZero, Frame: 1, From: -1, Word: math.MaxUint64, Value: 3},
		{Kind: api.EnCopy, Frame: 1, From: 2, Word: math.MaxUint64, Value: 3},
	} {
		m, l := filled(t, 4)
		if err := m.Reach(e); err != api.OK {
			t.Errorf("Reach(%v) is %v", e, err)
		}
		l.reach(e)
		l.check(t, m, "reached")
	}
}

func TestEntriesThatAreRefused(t *testing.T) {
	m, l := filled(t, 4)
	refused := func(e api.Entry, want api.Errno) {
		t.Helper()
		if err := m.Reach(e); err != want {
			t.Errorf("Reach(%v) is %v, want %v", e, err, want)
		}
		l.check(t, m, "refused")
	}
	for _, kind := range []int8{math.MinInt8, -2, -1, 4, 5, 64, math.MaxInt8} {
		refused(api.Entry{Kind: kind}, api.ErrArg)
		refused(api.Entry{Kind: kind, Word: 1, Value: 2, Frame: 1, From: 2}, api.ErrArg)
		refused(api.Entry{Kind: kind, Word: 1 << 40, Frame: -1, From: 64}, api.ErrArg) // ahead of ErrMemory
	}
	for _, word := range beyond(4) {
		refused(api.Entry{Kind: api.EnWord, Word: word, Value: 1}, api.ErrMemory)
	}
	for _, k := range []int{math.MinInt, -64, -1, 4, 5, 64, 1 << 32, 1<<32 + 1, math.MaxInt} {
		refused(api.Entry{Kind: api.EnZero, Frame: k}, api.ErrMemory)
		refused(api.Entry{Kind: api.EnCopy, Frame: k, From: 1}, api.ErrMemory)
		refused(api.Entry{Kind: api.EnCopy, Frame: k, From: 3}, api.ErrMemory)
		refused(api.Entry{Kind: api.EnCopy, Frame: 1, From: k}, api.ErrMemory)
		refused(api.Entry{Kind: api.EnCopy, Frame: k, From: k}, api.ErrMemory)
	}
}

func TestACopiedFrameIsAsItWasThen(t *testing.T) {
	m, l := filled(t, 4)
	for _, e := range []api.Entry{
		{Kind: api.EnCopy, Frame: 2, From: 1},
		{Kind: api.EnWord, Word: 512 + 7, Value: 77},
		{Kind: api.EnWord, Word: 1024 + 7, Value: 78},
		{Kind: api.EnCopy, Frame: 3, From: 2},
		{Kind: api.EnZero, Frame: 2},
		{Kind: api.EnCopy, Frame: 1, From: 3},
		{Kind: api.EnWord, Word: 1536, Value: 1},
		{Kind: api.EnWord, Word: 1024, Value: 2},
		{Kind: api.EnCopy, Frame: 3, From: 3},
		{Kind: api.EnWord, Word: 1537, Value: 3},
	} {
		if err := m.Reach(e); err != api.OK {
			t.Fatalf("Reach(%v) is %v", e, err)
		}
		l.reach(e)
		l.check(t, m, "reached")
	}
}

// P8.3

func TestWordsAreThoseThatAreNotZeroRising(t *testing.T) {
	m := made(t, 2)
	for _, word := range []uint64{1023, 512, 700, 513, 600} {
		m.Write(word, word+1)
	}
	m.Write(600, 0)
	want := []api.CellWord{{Place: 0, Value: 513}, {Place: 1, Value: 514}, {Place: 188, Value: 701}, {Place: 511, Value: 1024}}
	if l := m.Words(1); !slices.Equal(l, want) {
		t.Error(l)
	}
	for word := range uint64(512) {
		m.Write(word, 3)
	}
	if l := m.Words(0); len(l) != 512 || l[511] != (api.CellWord{Place: 511, Value: 3}) {
		t.Error(len(l))
	}
	for word := range uint64(512) {
		m.Write(word, 0)
	}
	if l := m.Words(0); len(l) != 0 {
		t.Error(l)
	}
}

func TestWordsOfAFrameThatIsNotThere(t *testing.T) {
	m, _ := filled(t, 4)
	for _, k := range []int{math.MinInt, -64, -1, 4, 5, 64, 1 << 32, 1<<32 + 1, math.MaxInt} {
		if l := m.Words(k); len(l) != 0 {
			t.Errorf("Words(%d) are %v", k, l)
		}
	}
}

func TestWordsAreNew(t *testing.T) {
	m, l := filled(t, 4)
	first := m.Words(1)
	kept := slices.Clone(first)
	second := m.Words(1)
	for k := range second {
		second[k] = api.CellWord{Place: 9, Value: 9}
	}
	_ = append(second, api.CellWord{})
	if !slices.Equal(first, kept) {
		t.Error("two answers share memory")
	}
	l.check(t, m, "behind a change of an answer")
	m.Write(512, 99)
	m.Reach(api.Entry{Kind: api.EnZero, Frame: 1})
	if !slices.Equal(first, kept) {
		t.Error("an answer has changed with the memory")
	}
}

func TestACopyIsTheSameAndAnother(t *testing.T) {
	for _, n := range []int{1, 2, 4, 64} {
		m, l := filled(t, n)
		c := m.Copy()
		l.check(t, c, "the copy")
		same := slices.Clone(l)
		change := func(m *Mem, l model, value uint64) {
			for k := range n {
				m.Write(uint64(k*words), value)
				m.Add(uint64(k*words+1), value)
				l[k][0] = value
				l[k][1] += value
			}
		}
		change(m, l, 1000)
		same.check(t, c, "the copy behind a change of the memory")
		change(c, same, 2000)
		l.check(t, m, "the memory behind a change of the copy")
		for _, e := range []api.Entry{{Kind: api.EnCopy, From: n - 1}, {Kind: api.EnZero, Frame: n - 1}} {
			m.Reach(e)
			l.reach(e)
			same.check(t, c, "the copy behind an entry that reached the memory")
		}
		l.check(t, m, "the memory")
		same.check(t, c.Copy(), "a copy of the copy")
	}
}

// P8.4

// random answers an entry that may reach a memory of n frames.
func random(r *rand.Rand, n int) api.Entry {
	near := []int{0, 1, 2, 510, 511}
	switch kind := int8(r.Intn(4)); kind {
	case api.EnWord:
		return api.Entry{Word: uint64(r.Intn(n)*words + near[r.Intn(len(near))]), Value: uint64(r.Intn(4)) * r.Uint64()}
	case api.EnZero:
		return api.Entry{Kind: kind, Frame: r.Intn(n)}
	case api.EnCopy:
		return api.Entry{Kind: kind, Frame: r.Intn(n), From: r.Intn(n)}
	}
	return api.Entry{Kind: api.EnBar}
}

func TestWhatIsReadWasWrittenLast(t *testing.T) {
	for seed := range int64(60) {
		r := rand.New(rand.NewSource(seed))
		n := 1 + r.Intn(5)
		m, l := made(t, n), make(model, n)
		for range 100 {
			e := random(r, n)
			switch word, value := e.Word, e.Value; {
			case e.Kind != api.EnWord || r.Intn(3) == 0:
				if err := m.Reach(e); err != api.OK {
					t.Fatalf("Reach(%v) is %v", e, err)
				}
				l.reach(e)
			case r.Intn(2) == 0:
				m.Write(word, value)
				l.reach(e)
			default:
				m.Add(word, value)
				l[word/words][word%words] += value
			}
			l.check(t, m, "behind a step")
		}
		m.Write(uint64(n*words), 1)
		l.check(t, m, "behind a word that is not there")
	}
}

// orders calls f with all orders of the entries.
func orders(l []api.Entry, f func([]api.Entry)) {
	if len(l) == 0 {
		f(nil)
		return
	}
	for k, e := range l {
		orders(slices.Concat(l[:k], l[k+1:]), func(rest []api.Entry) {
			f(append([]api.Entry{e}, rest...))
		})
	}
}

func TestEntriesOfUnlikeWordsReachMemoryInAnyOrder(t *testing.T) {
	entries := []api.Entry{
		{Kind: api.EnWord, Word: 3, Value: 8},
		{Kind: api.EnWord, Word: 511},
		{Kind: api.EnWord, Word: 512, Value: 9},
		{Kind: api.EnBar},
		{Kind: api.EnZero, Frame: 2},
		{Kind: api.EnCopy, Frame: 3, From: 4},
	}
	orders(entries, func(l []api.Entry) {
		m, want := filled(t, 6)
		for _, e := range entries {
			want.reach(e)
		}
		for _, e := range l {
			if err := m.Reach(e); err != api.OK {
				t.Fatalf("Reach(%v) is %v", e, err)
			}
		}
		want.check(t, m, "behind all of them")
	})
}
