package excl

import (
	"maps"
	"math"
	"math/rand"
	"testing"

	"tenement/api"
)

const (
	words   = 512 // of a frame, as the document says
	most    = 8   // cores
	frameTo = 1 << 20
)

// model is the monitors of n cores in the document's words: the cores that are not in own have none.
type model struct {
	n   int
	own map[int]uint64
}

func newModel(n int) *model {
	return &model{n, map[int]uint64{}}
}

func (m *model) clone() *model {
	return &model{m.n, maps.Clone(m.own)}
}

// core answers the error of a core that is not one of the n.
func (m *model) core(core int) api.Errno {
	for c := 1; c <= m.n; c++ {
		if c == core {
			return api.OK
		}
	}
	return api.ErrArg
}

// inFrame tells whether the word is one of the frame, by all its words from the first to the last.
func inFrame(frame int, word uint64) bool {
	first := uint64(frame) * words
	return word >= first && word <= first+words-1
}

// op is a call that may change monitors: what it is called, as the package does it, and as the document says.
type op struct {
	name []any
	do   func(x *Excl) api.Errno
	say  func(m *model) api.Errno
}

func setOp(core int, word uint64) op {
	return op{[]any{"Set", core, word},
		func(x *Excl) api.Errno { return x.Set(core, word) },
		func(m *model) api.Errno {
			if m.core(core) == api.OK {
				m.own[core] = word
			}
			return m.core(core)
		}}
}

func clearOp(core int) op {
	return op{[]any{"Clear", core},
		func(x *Excl) api.Errno { return x.Clear(core) },
		func(m *model) api.Errno {
			delete(m.own, core)
			return m.core(core)
		}}
}

// sayWrote is what the document says of Wrote.
func sayWrote(m *model, core int, word uint64) api.Errno {
	if m.core(core) != api.OK {
		return api.ErrArg
	}
	for c := 1; c <= m.n; c++ {
		if w, is := m.own[c]; c != core && is && w == word {
			delete(m.own, c)
		}
	}
	return api.OK
}

// sayBlock is what the document says of Block.
func sayBlock(m *model, core, frame int) api.Errno {
	if m.core(core) != api.OK || frame < 0 || frame > frameTo {
		return api.ErrArg
	}
	for c := 1; c <= m.n; c++ {
		if w, is := m.own[c]; c != core && is && inFrame(frame, w) {
			delete(m.own, c)
		}
	}
	return api.OK
}

func wroteOp(core int, word uint64) op {
	return op{[]any{"Wrote", core, word},
		func(x *Excl) api.Errno { return x.Wrote(core, word) },
		func(m *model) api.Errno { return sayWrote(m, core, word) }}
}

func blockOp(core, frame int) op {
	return op{[]any{"Block", core, frame},
		func(x *Excl) api.Errno { return x.Block(core, frame) },
		func(m *model) api.Errno { return sayBlock(m, core, frame) }}
}

func reachOp(core int, e api.Entry) op {
	return op{[]any{"Reach", core, e},
		func(x *Excl) api.Errno { return x.Reach(core, e) },
		func(m *model) api.Errno {
			switch {
			case m.core(core) != api.OK:
				return api.ErrArg
			case e.Kind == 0:
				return sayWrote(m, core, e.Word)
			case e.Kind == 1:
				return api.OK
			case e.Kind == 2, e.Kind == 3:
				return sayBlock(m, core, e.Frame)
			}
			return api.ErrArg
		}}
}

// agree holds the monitors against the model's: of all cores, and of numbers beside them.
func agree(t *testing.T, x *Excl, m *model, told ...any) {
	t.Helper()
	for core := -1; core <= most+2; core++ {
		want, wants := m.own[core]
		if got, is := x.Of(core); got != want || is != wants {
			t.Errorf("%+v: Of(%d) is %d, %v; should be %d, %v", told, core, got, is, want, wants)
		}
		for _, w := range append(someWords(), want) {
			if is := x.Is(core, w); is != (wants && w == want) {
				t.Errorf("%+v: Is(%d, %d) is %v, its monitor %d, %v", told, core, w, is, want, wants)
			}
		}
	}
}

func someWords() []uint64 {
	return []uint64{0, 1, 5, 511, 512, 513, 1023, 1024, 1<<32 + 5, frameTo*words - 1, frameTo * words, frameTo*words + 511, frameTo*words + 512, 1 << 40, 1<<63 + 5, math.MaxUint64 - 511, math.MaxUint64}
}

func someFrames() []int {
	return []int{0, 1, 2, 3, 63, 64, 1<<23 - 1, 1 << 23, frameTo - 1, frameTo, frameTo + 1, -1, -2, -frameTo, 1 << 32, 1<<32 + 1, 1<<55 - 1, 1 << 55, 1<<55 + 1, math.MinInt, math.MinInt + 1, math.MaxInt}
}

func badCores(n int) []int {
	return []int{0, n + 1, n + 2, -1, -n, most + 1, 256, 257, 1 << 32, 1<<32 + 1, math.MinInt, math.MinInt + 1, math.MaxInt}
}

func made(t *testing.T, n int) *Excl {
	t.Helper()
	x, e := New(n)
	if x == nil || e != api.OK {
		t.Fatalf("New(%d) is %v, %v", n, x, e)
	}
	return x
}

// from makes monitors as the model's.
func from(t *testing.T, m *model) *Excl {
	t.Helper()
	x := made(t, m.n)
	for core, w := range m.own {
		if e := x.Set(core, w); e != api.OK {
			t.Fatalf("Set(%d, %d) of %d is %v", core, w, m.n, e)
		}
	}
	return x
}

// states calls f with all ways in which n cores have words of those, or none.
func states(n int, of []uint64, f func(m *model)) {
	m := newModel(n)
	var at func(core int)
	at = func(core int) {
		if core > n {
			f(m.clone())
			return
		}
		delete(m.own, core)
		at(core + 1)
		for _, w := range of {
			m.own[core] = w
			at(core + 1)
		}
		delete(m.own, core)
	}
	at(1)
}

// hold does the op in both, from that model on, and holds them against each other.
func hold(t *testing.T, m *model, o op) {
	t.Helper()
	x, after := from(t, m), m.clone()
	if got, want := o.do(x), o.say(after); got != want {
		t.Errorf("%+v of %v: %v, should be %v", o.name, m.own, got, want)
	}
	agree(t, x, after, o.name, m.own)
}

// P10.1

func TestNew(t *testing.T) {
	for n := -300; n <= 300; n++ {
		x, e := New(n)
		if n < 1 || n > most {
			if x != nil || e != api.ErrArg {
				t.Errorf("New(%d) is %v, %v", n, x, e)
			}
			continue
		}
		if x == nil || e != api.OK {
			t.Fatalf("New(%d) is %v, %v", n, x, e)
		}
		agree(t, x, newModel(n), "New", n)
	}
	for _, n := range []int{math.MinInt, math.MinInt + 1, -1 << 32, 1 << 32, 1<<32 + 1, math.MaxInt} {
		if x, e := New(n); x != nil || e != api.ErrArg {
			t.Errorf("New(%d) is %v, %v", n, x, e)
		}
	}
}

func TestHowManyCores(t *testing.T) {
	for n := 1; n <= most; n++ {
		x := made(t, n)
		for core := 1; core <= n; core++ {
			if e := x.Set(core, uint64(core)); e != api.OK {
				t.Errorf("Set(%d) of %d is %v", core, n, e)
			}
		}
		for core := 1; core <= n; core++ {
			if w, is := x.Of(core); w != uint64(core) || !is {
				t.Errorf("Of(%d) of %d is %d, %v", core, n, w, is)
			}
		}
	}
}

func TestSetAndClear(t *testing.T) {
	few := []uint64{0, 5, math.MaxUint64}
	states(3, few, func(m *model) {
		for core := -1; core <= 4; core++ {
			hold(t, m, clearOp(core))
			for _, w := range []uint64{0, 5, 6, math.MaxUint64} {
				hold(t, m, setOp(core, w))
			}
		}
	})
}

func TestSetOfEveryWord(t *testing.T) {
	for _, w := range someWords() {
		m := newModel(2)
		hold(t, m, setOp(1, w))
		hold(t, m, setOp(2, w))
		m.own[1] = 7
		hold(t, m, setOp(1, w))
	}
}

func TestNoSuchCore(t *testing.T) {
	for n := 1; n <= most; n++ {
		m := newModel(n)
		for core := 1; core <= n; core++ {
			m.own[core] = 5
		}
		for _, core := range badCores(n) {
			for _, o := range []op{setOp(core, 5), setOp(core, 6), clearOp(core), wroteOp(core, 5), blockOp(core, 0), blockOp(core, -1)} {
				if got := o.do(from(t, m)); got != api.ErrArg {
					t.Errorf("%+v of %d is %v", o.name, n, got)
				}
				hold(t, m, o)
			}
			for kind := math.MinInt8; kind <= math.MaxInt8; kind++ {
				hold(t, m, reachOp(core, api.Entry{Kind: int8(kind), Word: 5}))
			}
			x := from(t, m)
			if w, is := x.Of(core); w != 0 || is || x.Is(core, 0) || x.Is(core, 5) {
				t.Errorf("core %d of %d has a monitor: %d, %v", core, n, w, is)
			}
		}
	}
}

func TestNil(t *testing.T) {
	var x *Excl
	for _, core := range append(badCores(8), 1, 8) {
		for _, o := range []op{setOp(core, 1), clearOp(core), wroteOp(core, 1), blockOp(core, 1), blockOp(core, -1), blockOp(core, frameTo+1)} {
			if e := o.do(x); e != api.ErrNil {
				t.Errorf("%+v of nil is %v", o.name, e)
			}
		}
		for kind := math.MinInt8; kind <= math.MaxInt8; kind++ {
			if e := x.Reach(core, api.Entry{Kind: int8(kind), Frame: -1}); e != api.ErrNil {
				t.Errorf("Reach of kind %d of nil is %v", kind, e)
			}
		}
		if w, is := x.Of(core); w != 0 || is || x.Is(core, 0) || x.Is(core, 1) {
			t.Errorf("nil has a monitor: %d, %v", w, is)
		}
	}
}

func TestMadeByNobody(t *testing.T) {
	for core := -1; core <= most+1; core++ {
		var x Excl
		for _, o := range []op{setOp(core, 1), clearOp(core), wroteOp(core, 1), blockOp(core, 1), reachOp(core, api.Entry{Kind: api.EnBar})} {
			if e := o.do(&x); e != api.ErrArg {
				t.Errorf("%+v of no cores is %v", o.name, e)
			}
		}
		if w, is := x.Of(core); w != 0 || is || x.Is(core, 0) {
			t.Errorf("of no cores, core %d has a monitor: %d, %v", core, w, is)
		}
	}
}

func TestMonitorsShareNothing(t *testing.T) {
	x, y := made(t, 2), made(t, 2)
	x.Set(1, 5)
	y.Set(1, 5)
	x.Wrote(2, 5)
	if x.Is(1, 5) || !y.Is(1, 5) {
		t.Error("what is cleared in one is to stay in another")
	}
	x.Set(1, 5)
	x.Set(2, 5)
	x.Set(1, 6)
	if !x.Is(2, 5) || !x.Is(1, 6) || !y.Is(1, 5) {
		t.Error("the cores' monitors are their own")
	}
}

// P10.2

func TestWrote(t *testing.T) {
	states(3, []uint64{0, 5, 517}, func(m *model) {
		for core := -1; core <= 4; core++ {
			for _, w := range []uint64{0, 5, 6, 517, 1 << 32, 1<<32 + 5, 1<<63 + 5, math.MaxUint64} {
				hold(t, m, wroteOp(core, w))
				hold(t, m, reachOp(core, api.Entry{Kind: api.EnWord, Word: w, Value: 3}))
			}
		}
	})
}

func TestWroteOfEveryWord(t *testing.T) {
	for _, w := range someWords() {
		for _, own := range someWords() {
			m := newModel(2)
			m.own[1], m.own[2] = own, own
			hold(t, m, wroteOp(1, w))
			hold(t, m, reachOp(2, api.Entry{Word: w}))
		}
	}
}

func TestBlock(t *testing.T) {
	states(3, []uint64{0, 511, 512, 1023, 1024}, func(m *model) {
		for core := 0; core <= 4; core++ {
			for frame := -1; frame <= 3; frame++ {
				hold(t, m, blockOp(core, frame))
				hold(t, m, reachOp(core, api.Entry{Kind: api.EnZero, Frame: frame}))
				hold(t, m, reachOp(core, api.Entry{Kind: api.EnCopy, Frame: frame, From: 1}))
			}
		}
	})
}

func TestBlockOfEveryFrame(t *testing.T) {
	for _, frame := range someFrames() {
		for _, own := range someWords() {
			m := newModel(2)
			m.own[1], m.own[2] = own, own
			hold(t, m, blockOp(1, frame))
			hold(t, m, reachOp(2, api.Entry{Kind: api.EnZero, Frame: frame}))
			hold(t, m, reachOp(2, api.Entry{Kind: api.EnCopy, Frame: frame, From: int(own / words)}))
		}
	}
}

func TestBlockOfAllItsWords(t *testing.T) {
	for _, frame := range []int{0, 1, 2, 63, frameTo} {
		x := made(t, 2)
		for word := uint64(max(0, frame*words-words)); word < uint64(frame+2)*words; word++ {
			x.Set(1, word)
			x.Block(2, frame)
			if x.Is(1, word) == inFrame(frame, word) {
				t.Fatalf("Block %d leaves the word %d: %v", frame, word, x.Is(1, word))
			}
		}
	}
}

// The frame from which a copy reads keeps its monitors, and so do the fields that a kind doesn't name.
func TestReachLooksAtWhatItsKindNames(t *testing.T) {
	m := newModel(3)
	m.own[1], m.own[2], m.own[3] = 5, 517, 1029
	for _, e := range []api.Entry{
		{Kind: api.EnCopy, Frame: 0, From: 1}, {Kind: api.EnCopy, Frame: 1, From: 0}, {Kind: api.EnCopy, Frame: 2, From: -1}, {Kind: api.EnCopy, Frame: 2, From: frameTo + 1},
		{Kind: api.EnZero, Frame: 1, Word: 5}, {Kind: api.EnZero, Frame: 2, From: 1},
		{Kind: api.EnWord, Word: 5, Frame: 1}, {Kind: api.EnWord, Word: 517, Frame: -1}, {Kind: api.EnWord, Word: 6, From: -1},
		{Kind: api.EnBar}, {Kind: api.EnBar, Word: 5}, {Kind: api.EnBar, Frame: 1, From: 2}, {Kind: api.EnBar, Frame: -1},
	} {
		for core := 1; core <= 3; core++ {
			hold(t, m, reachOp(core, e))
		}
	}
}

func TestReachOfEveryKind(t *testing.T) {
	m := newModel(3)
	m.own[1], m.own[2], m.own[3] = 5, 5, 517
	for kind := math.MinInt8; kind <= math.MaxInt8; kind++ {
		for core := 0; core <= 4; core++ {
			hold(t, m, reachOp(core, api.Entry{Kind: int8(kind)}))
			hold(t, m, reachOp(core, api.Entry{Kind: int8(kind), Word: 5, Frame: 1}))
		}
		if kind < 0 || kind > 3 {
			if e := from(t, m).Reach(1, api.Entry{Kind: int8(kind), Word: 5}); e != api.ErrArg {
				t.Errorf("Reach of kind %d is %v", kind, e)
			}
		}
	}
}

// anyOp is a random op on n cores, most of which may be.
func anyOp(r *rand.Rand, n int) op {
	core := 1 + r.Intn(n)
	if r.Intn(20) == 0 {
		core = badCores(n)[r.Intn(len(badCores(n)))]
	}
	word, frame := []uint64{0, 5, 511, 512, 517}[r.Intn(5)], r.Intn(3)
	if r.Intn(10) == 0 {
		word, frame = someWords()[r.Intn(len(someWords()))], someFrames()[r.Intn(len(someFrames()))]
	}
	switch r.Intn(10) {
	case 0, 1, 2, 3, 4:
		return setOp(core, word)
	case 5:
		return clearOp(core)
	case 6, 7:
		return wroteOp(core, word)
	case 8:
		return blockOp(core, frame)
	}
	return reachOp(core, api.Entry{Kind: int8(r.Intn(5)), Word: word, Frame: frame, From: r.Intn(3)})
}

func TestLongRuns(t *testing.T) {
	for n := 1; n <= most; n++ {
		r := rand.New(rand.NewSource(int64(n)))
		x, m := made(t, n), newModel(n)
		for range 3000 {
			o := anyOp(r, n)
			if got, want := o.do(x), o.say(m); got != want {
				t.Fatalf("%+v of %d is %v, should be %v", o.name, n, got, want)
			}
			agree(t, x, m, o.name)
			if t.Failed() {
				t.FailNow()
			}
		}
	}
}

// P10.3

// TestIsSaysThatNobodyElseWrote keeps, for each core, what others did to the word since its Set.
func TestIsSaysThatNobodyElseWrote(t *testing.T) {
	const cores = 4
	seen := map[bool]int{}
	r := rand.New(rand.NewSource(1))
	x := made(t, cores)
	var set [cores + 1]uint64
	var touched [cores + 1]bool
	for core := 1; core <= cores; core++ {
		x.Set(core, 0)
	}
	write := func(by int, hits func(word uint64) bool) {
		for core := 1; core <= cores; core++ {
			if core != by && hits(set[core]) {
				touched[core] = true
			}
		}
	}
	for range 20000 {
		core, word := 1+r.Intn(cores), []uint64{0, 1, 511, 512}[r.Intn(4)]
		frame := r.Intn(2)
		switch r.Intn(5) {
		case 0, 1, 2:
			x.Set(core, word)
			set[core], touched[core] = word, false
		case 3:
			x.Reach(core, api.Entry{Kind: api.EnWord, Word: word})
			write(core, func(w uint64) bool { return w == word })
		case 4:
			x.Reach(core, api.Entry{Kind: api.EnCopy, Frame: frame, From: 1 - frame})
			write(core, func(w uint64) bool { return inFrame(frame, w) })
		}
		for c := 1; c <= cores; c++ {
			is := x.Is(c, set[c])
			seen[is]++
			if is == touched[c] {
				t.Fatalf("core %d has the word %d: %v, another wrote it: %v", c, set[c], is, touched[c])
			}
		}
	}
	if seen[true] == 0 || seen[false] == 0 {
		t.Errorf("of both kinds some are to be seen: %v", seen)
	}
}

// TestNoCountIsLost lets cores count one word up, each by a Set as it reads, and a write if Is says yes, in every order of their steps.
func TestNoCountIsLost(t *testing.T) {
	for _, steps := range [][]int{{2}, {2, 2}, {4, 4}, {2, 2, 2}, {4, 2, 2}, {6, 6}, {4, 4, 2}} {
		orders(steps, func(order []int) { count(t, len(steps), order) })
	}
}

// orders calls f with all orders in which core k has steps[k - 1] turns.
func orders(steps []int, f func(order []int)) {
	total := 0
	for _, s := range steps {
		total += s
	}
	left := append([]int(nil), steps...)
	var order []int
	var next func()
	next = func() {
		if len(order) == total {
			f(order)
			return
		}
		for k := range left {
			if left[k] > 0 {
				left[k]--
				order = append(order, k+1)
				next()
				order = order[:len(order)-1]
				left[k]++
			}
		}
	}
	next()
}

// count lets each core, in its turns, read the word and then write it greater by one.
func count(t *testing.T, cores int, order []int) {
	t.Helper()
	const word = 513
	x := made(t, cores)
	memory, done, lost := 0, 0, 0
	reads := map[int]int{}
	for _, core := range order {
		read, has := reads[core]
		if !has {
			x.Set(core, word)
			reads[core] = memory
			continue
		}
		delete(reads, core)
		if !x.Is(core, word) {
			lost++
			continue
		}
		if read != memory {
			t.Fatalf("order %v: core %d read %d and writes over %d", order, core, read, memory)
		}
		memory = read + 1
		done++
		x.Wrote(core, word)
		x.Clear(core)
	}
	if memory != done || done == 0 || done+lost != len(order)/2 {
		t.Fatalf("order %v: the word is %d, %d wrote it, %d did not", order, memory, done, lost)
	}
}

func TestExamples(t *testing.T) {
	x := made(t, 2)
	x.Set(1, 5)
	x.Wrote(2, 5)
	if x.Is(1, 5) {
		t.Error("Set 1 5, Wrote 2 5: core 1 is to have lost it")
	}
	x.Set(1, 5)
	x.Wrote(1, 5)
	if !x.Is(1, 5) {
		t.Error("Set 1 5, Wrote 1 5: core 1 is to have it still")
	}
	x.Set(1, 513)
	x.Block(2, 1)
	if x.Is(1, 513) {
		t.Error("Set 1 513, Block 2 1: core 1 is to have lost it")
	}
}
