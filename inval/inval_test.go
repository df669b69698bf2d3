package inval

import (
	"math"
	"testing"

	"tenement/api"
)

const (
	asidUnit = 1 << 48 // what the ASID counts in a word
	topPage  = api.MaxPage - 1
	every    = api.TlbiAll
	ofAsid   = api.TlbiAsid
	ofPage   = api.TlbiPage
)

// asids are all that may be, and some beyond.
func asids() []int {
	l := []int{math.MinInt, -asidUnit, -256, -255, -2, -1, 256, 257, 511, 512, 1 << 15, 1<<16 - 1, 1 << 16, 1<<16 + 3, math.MaxInt}
	for asid := range 256 {
		l = append(l, asid)
	}
	return l
}

// pages are some that may be, and some beyond.
func pages() []uint64 {
	l := []uint64{0, 3, 5, 511, 513, 1<<18 - 1, 1<<27 + 513, topPage - 1, topPage, api.MaxPage + 1, 1<<44 - 1, 1<<44 + 5, 1<<48 - 1, asidUnit + 5, 3*asidUnit + 513, math.MaxUint64}
	for k := range 64 {
		l = append(l, 1<<k)
	}
	return l
}

// eachTlbi calls f with invalidations of all kinds, also of those that are none (of kinds far from the others with fewer ASIDs).
func eachTlbi(f func(t api.Tlbi)) {
	for kind := math.MinInt8; kind <= math.MaxInt8; kind++ {
		for _, asid := range asids() {
			if kind < -2 && asid > 3 || kind > 4 && asid > 3 {
				continue
			}
			for _, page := range pages() {
				f(api.Tlbi{Kind: int8(kind), Asid: asid, Page: page})
			}
		}
	}
}

// mayBe says by sets what may be.
func mayBe(t api.Tlbi) bool {
	most := map[int8]struct {
		asid int
		page uint64
	}{every: {0, 0}, ofAsid: {255, 0}, ofPage: {255, topPage}}
	m, is := most[t.Kind]
	return is && t.Asid >= 0 && t.Asid <= m.asid && t.Page <= m.page
}

// few are invalidations that hit one another's entries or just miss them, and such as may not be.
func few() []api.Tlbi {
	l := []api.Tlbi{{}}
	for _, asid := range []int{0, 1, 3, 4, 255} {
		l = append(l, api.Tlbi{Kind: ofAsid, Asid: asid})
		for _, page := range []uint64{0, 1, 5, 511, 512, 513, 1025, 1 << 18, 1<<18 + 513, 1 << 27, topPage - 512, topPage - 1, topPage} {
			l = append(l, api.Tlbi{Kind: ofPage, Asid: asid, Page: page})
		}
	}
	return append(l, not()...)
}

// not are invalidations that may not be, each by one thing.
func not() []api.Tlbi {
	return []api.Tlbi{
		{Kind: every, Asid: 1},
		{Kind: every, Asid: 3},
		{Kind: every, Asid: -1},
		{Kind: every, Asid: 256},
		{Kind: every, Page: 1},
		{Kind: every, Page: 513},
		{Kind: every, Page: api.MaxPage},
		{Kind: ofAsid, Asid: -1},
		{Kind: ofAsid, Asid: 256},
		{Kind: ofAsid, Asid: math.MinInt},
		{Kind: ofAsid, Asid: math.MaxInt},
		{Kind: ofAsid, Asid: 3, Page: 1},
		{Kind: ofAsid, Asid: 3, Page: 513},
		{Kind: ofAsid, Asid: 3, Page: math.MaxUint64},
		{Kind: ofPage, Asid: -1, Page: 513},
		{Kind: ofPage, Asid: 256, Page: 513},
		{Kind: ofPage, Asid: 1 << 16, Page: 513},
		{Kind: ofPage, Asid: 3, Page: api.MaxPage},
		{Kind: ofPage, Asid: 3, Page: api.MaxPage + 513},
		{Kind: ofPage, Asid: 3, Page: math.MaxUint64},
		{Kind: 3},
		{Kind: 3, Asid: 3},
		{Kind: 3, Asid: 3, Page: 513},
		{Kind: -1},
		{Kind: -1, Asid: 3, Page: 513},
		{Kind: math.MinInt8},
		{Kind: math.MaxInt8},
	}
}

// entries are those of TLBs that the few hit or just miss, and such as no machine makes.
func entries() []api.Tlb {
	var l []api.Tlb
	for _, asid := range []int{math.MinInt, -1, 0, 1, 2, 3, 4, 254, 255, 256, 259, 1 << 16, math.MaxInt} {
		for _, page := range []uint64{0, 1, 2, 5, 6, 511, 512, 513, 1025, 1 << 18, 1<<18 + 513, 1 << 27, 1<<27 + 1, topPage - 512, topPage - 1, topPage, api.MaxPage, api.MaxPage + 513, 1<<44 + 513, math.MaxUint64} {
			l = append(l, api.Tlb{Asid: asid, Page: page}, api.Tlb{Asid: asid, Page: page, Frame: 63, RO: true}, api.Tlb{Asid: asid, Page: page, Frame: -1})
		}
	}
	return l
}

// steps are those of walk caches that the few hit or just miss, and such as no machine makes.
func steps() []api.Step {
	var l []api.Step
	for _, asid := range []int{math.MinInt, -1, 0, 1, 3, 4, 255, 256, math.MaxInt} {
		for level := math.MinInt8; level <= math.MaxInt8; level++ {
			for _, prefix := range []uint64{0, 1, 2, 5, 511, 512, 513, 1 << 9, 1<<9 + 1, 1 << 17, 1<<17 - 1, 1 << 18, 1<<26 - 1, 1<<26 - 2, 1 << 26, topPage - 512, topPage, api.MaxPage, 1<<63 + 1, math.MaxUint64} {
				l = append(l, api.Step{Asid: asid, Level: int8(level), Prefix: prefix, Frame: level & 63})
			}
		}
	}
	return l
}

// hit says by the kinds one by one what is hit of a TLB.
func hit(t api.Tlbi, e api.Tlb) bool {
	if !mayBe(t) {
		return false
	}
	return map[int8]bool{every: true, ofAsid: e.Asid == t.Asid, ofPage: e.Asid == t.Asid && e.Page == t.Page}[t.Kind]
}

// hitStep says so of a walk cache, by divisions.
func hitStep(t api.Tlbi, s api.Step) bool {
	if !mayBe(t) {
		return false
	}
	pages, is := map[int8]uint64{1: 512 * 512, 2: 512, 3: 1}[s.Level]
	if !is {
		return t.Kind == every
	}
	same := s.Asid == t.Asid
	return map[int8]bool{every: true, ofAsid: same, ofPage: same && t.Page/pages == s.Prefix}[t.Kind]
}

// P5.1

func TestEncodeExamples(t *testing.T) {
	for _, c := range []struct {
		t    api.Tlbi
		want uint64
	}{
		{api.Tlbi{}, 0},
		{api.Tlbi{Kind: ofAsid}, 0},
		{api.Tlbi{Kind: ofAsid, Asid: 3}, 0x0003000000000000},
		{api.Tlbi{Kind: ofAsid, Asid: 255}, 0x00ff000000000000},
		{api.Tlbi{Kind: ofPage}, 0},
		{api.Tlbi{Kind: ofPage, Page: 5}, 5},
		{api.Tlbi{Kind: ofPage, Asid: 3, Page: 5}, 0x0003000000000005},
		{api.Tlbi{Kind: ofPage, Asid: 3, Page: 513}, 0x0003000000000201},
		{api.Tlbi{Kind: ofPage, Asid: 128, Page: 1 << 34}, 0x0080000400000000},
		{api.Tlbi{Kind: ofPage, Asid: 255, Page: topPage}, 0x00ff0007ffffffff},
	} {
		if w, e := Encode(c.t); w != c.want || e != api.OK {
			t.Errorf("Encode(%+v) = %#x, %v, not %#x", c.t, w, e, c.want)
		}
		if back, e := Decode(c.t.Kind, c.want); back != c.t || e != api.OK {
			t.Errorf("Decode(%d, %#x) = %+v, %v, not %+v", c.t.Kind, c.want, back, e, c.t)
		}
	}
}

func TestEncodeRefusesWhatMayNotBe(t *testing.T) {
	for _, x := range not() {
		if w, e := Encode(x); w != 0 || e != api.ErrArg {
			t.Errorf("Encode(%+v) = %#x, %v", x, w, e)
		}
	}
}

func TestEncodeOfAnyInvalidation(t *testing.T) {
	eachTlbi(func(x api.Tlbi) {
		want, wantE := uint64(0), api.ErrArg
		if mayBe(x) {
			want, wantE = uint64(x.Asid)*asidUnit+x.Page, api.OK
		}
		if w, e := Encode(x); w != want || e != wantE {
			t.Errorf("Encode(%+v) = %#x, %v, not %#x, %v", x, w, e, want, wantE)
		}
	})
}

func TestDecodeExamples(t *testing.T) {
	for _, c := range []struct {
		kind int8
		w    uint64
		want api.Tlbi
		e    api.Errno
	}{
		{every, 0, api.Tlbi{}, api.OK},
		{every, 1, api.Tlbi{}, api.ErrArg},
		{every, 1 << 44, api.Tlbi{}, api.ErrArg},
		{every, asidUnit, api.Tlbi{}, api.ErrArg},
		{every, 1 << 63, api.Tlbi{}, api.ErrArg},
		{ofAsid, 3 * asidUnit, api.Tlbi{Kind: ofAsid, Asid: 3}, api.OK},
		{ofAsid, 3*asidUnit + 1, api.Tlbi{}, api.ErrArg},
		{ofAsid, 3*asidUnit + 1<<44, api.Tlbi{}, api.ErrArg},
		{ofAsid, 256 * asidUnit, api.Tlbi{}, api.ErrArg},
		{ofAsid, 1 << 63, api.Tlbi{}, api.ErrArg},
		{ofPage, 3*asidUnit + 513, api.Tlbi{Kind: ofPage, Asid: 3, Page: 513}, api.OK},
		{ofPage, 256*asidUnit + 513, api.Tlbi{}, api.ErrArg},
		{ofPage, 3*asidUnit + api.MaxPage, api.Tlbi{}, api.ErrArg},
		{ofPage, 3*asidUnit + 1<<43, api.Tlbi{}, api.ErrArg},
		{ofPage, 3*asidUnit + 1<<44, api.Tlbi{}, api.ErrArg},
		{ofPage, 3*asidUnit + 1<<47 + 513, api.Tlbi{}, api.ErrArg},
		{ofPage, math.MaxUint64, api.Tlbi{}, api.ErrArg},
		{3, 0, api.Tlbi{}, api.ErrArg},
		{3, 3*asidUnit + 513, api.Tlbi{}, api.ErrArg},
		{-1, 0, api.Tlbi{}, api.ErrArg},
		{math.MaxInt8, 0, api.Tlbi{}, api.ErrArg},
		{math.MinInt8, 513, api.Tlbi{}, api.ErrArg},
	} {
		if x, e := Decode(c.kind, c.w); x != c.want || e != c.e {
			t.Errorf("Decode(%d, %#x) = %+v, %v, not %+v, %v", c.kind, c.w, x, e, c.want, c.e)
		}
	}
}

// eachWord calls f with all kinds and words: those of all invalidations, the same with a bit more or less, and others.
func eachWord(f func(kind int8, w uint64)) {
	var words []uint64
	for _, asid := range []uint64{0, 1, 3, 128, 255, 256, 511, 1<<16 - 1} {
		for _, page := range []uint64{0, 1, 513, topPage, api.MaxPage, 1<<44 - 1} {
			w := asid*asidUnit + page
			words = append(words, w)
			for k := range 64 {
				words = append(words, w^1<<k, w|math.MaxUint64<<k)
			}
		}
	}
	x := uint64(0x9e3779b97f4a7c15)
	for range 1000 {
		x ^= x << 13
		x ^= x >> 7
		x ^= x << 17
		words = append(words, x, x>>8, x&(255*asidUnit+topPage), x>>32)
	}
	for kind := math.MinInt8; kind <= math.MaxInt8; kind++ {
		for _, w := range words {
			f(int8(kind), w)
		}
	}
}

func TestDecodeOfAnyWord(t *testing.T) {
	eachWord(func(kind int8, w uint64) {
		want, wantE := api.Tlbi{Kind: kind, Asid: int(w / asidUnit), Page: w % asidUnit}, api.OK
		if !mayBe(want) {
			want, wantE = api.Tlbi{}, api.ErrArg
		}
		if x, e := Decode(kind, w); x != want || e != wantE {
			t.Errorf("Decode(%d, %#x) = %+v, %v, not %+v, %v", kind, w, x, e, want, wantE)
		}
	})
}

// P5.2

func TestHitsExamples(t *testing.T) {
	all, asid, page := api.Tlbi{}, api.Tlbi{Kind: ofAsid, Asid: 3}, api.Tlbi{Kind: ofPage, Asid: 3, Page: 5}
	for _, c := range []struct {
		t    api.Tlbi
		e    api.Tlb
		want bool
	}{
		{page, api.Tlb{Asid: 3, Page: 5}, true},
		{page, api.Tlb{Asid: 3, Page: 5, Frame: 7, RO: true}, true},
		{page, api.Tlb{Asid: 3, Page: 4}, false},
		{page, api.Tlb{Asid: 3, Page: 5 + 1<<35}, false},
		{page, api.Tlb{Asid: 4, Page: 5}, false},
		{page, api.Tlb{Asid: 3 + 256, Page: 5}, false},
		{asid, api.Tlb{Asid: 3, Page: 5}, true},
		{asid, api.Tlb{Asid: 3, Page: math.MaxUint64}, true},
		{asid, api.Tlb{Asid: 2, Page: 5}, false},
		{asid, api.Tlb{Asid: -3}, false},
		{all, api.Tlb{}, true},
		{all, api.Tlb{Asid: 9, Page: 5}, true},
		{all, api.Tlb{Asid: math.MinInt, Page: math.MaxUint64, Frame: -1}, true},
		{api.Tlbi{Kind: ofAsid}, api.Tlb{}, true},
		{api.Tlbi{Kind: ofPage}, api.Tlb{}, true},
	} {
		if is := Hits(c.t, c.e); is != c.want {
			t.Errorf("Hits(%+v, %+v) = %v", c.t, c.e, is)
		}
	}
}

func TestHitsOfAnyEntry(t *testing.T) {
	for _, x := range few() {
		for _, e := range entries() {
			if is := Hits(x, e); is != hit(x, e) {
				t.Errorf("Hits(%+v, %+v) = %v", x, e, is)
			}
		}
	}
}

func TestHitsStepExamples(t *testing.T) {
	all, asid := api.Tlbi{}, api.Tlbi{Kind: ofAsid, Asid: 3}
	page := func(page uint64) api.Tlbi { return api.Tlbi{Kind: ofPage, Asid: 3, Page: page} }
	for _, c := range []struct {
		t    api.Tlbi
		s    api.Step
		want bool
	}{
		{page(5), api.Step{Asid: 3, Level: 3, Prefix: 0}, false},
		{page(5), api.Step{Asid: 3, Level: 3, Prefix: 5}, true},
		{page(513), api.Step{Asid: 3, Level: 2, Prefix: 1}, true},
		{page(513), api.Step{Asid: 3, Level: 2, Prefix: 1, Frame: 9}, true},
		{page(513), api.Step{Asid: 4, Level: 2, Prefix: 1}, false},
		{page(511), api.Step{Asid: 3, Level: 2, Prefix: 1}, false},
		{page(1024), api.Step{Asid: 3, Level: 2, Prefix: 1}, false},
		{page(513), api.Step{Asid: 3, Level: 1, Prefix: 0}, true},
		{page(1<<18 - 1), api.Step{Asid: 3, Level: 1, Prefix: 0}, true},
		{page(1 << 18), api.Step{Asid: 3, Level: 1, Prefix: 0}, false},
		{page(1 << 18), api.Step{Asid: 3, Level: 1, Prefix: 1}, true},
		{page(topPage), api.Step{Asid: 3, Level: 1, Prefix: 1<<17 - 1}, true},
		{page(topPage), api.Step{Asid: 3, Level: 2, Prefix: 1<<26 - 1}, true},
		{page(topPage), api.Step{Asid: 3, Level: 3, Prefix: topPage}, true},
		{page(513), api.Step{Asid: 3, Level: 0, Prefix: 0}, false},
		{page(513), api.Step{Asid: 3, Level: 4, Prefix: 513}, false},
		{page(513), api.Step{Asid: 3, Level: 4, Prefix: 513 << 9}, false},
		{page(0), api.Step{Asid: 3, Level: -1}, false},
		{page(0), api.Step{Asid: 3, Level: math.MinInt8}, false},
		{page(0), api.Step{Asid: 3, Level: math.MaxInt8}, false},
		{asid, api.Step{Asid: 3, Level: 1, Prefix: math.MaxUint64}, true},
		{asid, api.Step{Asid: 3, Level: 3}, true},
		{asid, api.Step{Asid: 2, Level: 3}, false},
		{asid, api.Step{Asid: 3, Level: 0}, false},
		{asid, api.Step{Asid: 3, Level: 4}, false},
		{all, api.Step{}, true},
		{all, api.Step{Asid: 9, Level: 2, Prefix: 5}, true},
		{all, api.Step{Asid: 9, Level: 9}, true},
		{all, api.Step{Level: math.MinInt8}, true},
	} {
		if is := HitsStep(c.t, c.s); is != c.want {
			t.Errorf("HitsStep(%+v, %+v) = %v", c.t, c.s, is)
		}
	}
}

func TestHitsStepOfAnyEntry(t *testing.T) {
	for _, x := range few() {
		for _, s := range steps() {
			if is := HitsStep(x, s); is != hitStep(x, s) {
				t.Errorf("HitsStep(%+v, %+v) = %v", x, s, is)
			}
		}
	}
}

func TestWhatMayNotBeHitsNothing(t *testing.T) {
	for _, x := range not() {
		for _, e := range append(entries(), api.Tlb{Asid: x.Asid, Page: x.Page}) {
			if Hits(x, e) {
				t.Errorf("Hits(%+v, %+v)", x, e)
			}
		}
		for _, s := range append(steps(), api.Step{Asid: x.Asid, Level: 3, Prefix: x.Page}, api.Step{Asid: x.Asid, Level: 1, Prefix: x.Page / 512 / 512}, api.Step{Asid: x.Asid}) {
			if HitsStep(x, s) {
				t.Errorf("HitsStep(%+v, %+v)", x, s)
			}
		}
	}
}

func TestCoversExamples(t *testing.T) {
	all, asid, page := api.Tlbi{}, api.Tlbi{Kind: ofAsid, Asid: 3}, api.Tlbi{Kind: ofPage, Asid: 3, Page: 5}
	for _, c := range []struct {
		a, b api.Tlbi
		want bool
	}{
		{all, all, true},
		{all, asid, true},
		{all, page, true},
		{asid, all, false},
		{asid, asid, true},
		{asid, page, true},
		{asid, api.Tlbi{Kind: ofAsid, Asid: 4}, false},
		{asid, api.Tlbi{Kind: ofPage, Asid: 4, Page: 5}, false},
		{page, all, false},
		{page, asid, false},
		{page, page, true},
		{page, api.Tlbi{Kind: ofPage, Asid: 3, Page: 6}, false},
		{page, api.Tlbi{Kind: ofPage, Asid: 4, Page: 5}, false},
		{api.Tlbi{Kind: ofPage, Asid: 3}, api.Tlbi{Kind: ofAsid, Asid: 3}, false},
		{api.Tlbi{Kind: ofPage}, all, false},
		{api.Tlbi{Kind: ofAsid}, all, false},
		{api.Tlbi{Kind: ofAsid}, api.Tlbi{Kind: ofPage}, true},
	} {
		if is := Covers(c.a, c.b); is != c.want {
			t.Errorf("Covers(%+v, %+v) = %v", c.a, c.b, is)
		}
	}
}

func TestCoversNeedsThatBothMayBe(t *testing.T) {
	for _, x := range not() {
		for _, y := range append(few(), x) {
			if Covers(x, y) || Covers(y, x) {
				t.Errorf("%+v and %+v", x, y)
			}
		}
	}
}

// TestCoversIsOfWhatIsHit: the entries and steps tell each two of the few apart, so that what b hits of them tells what b hits.
func TestCoversIsOfWhatIsHit(t *testing.T) {
	es, ss := entries(), steps()
	for _, a := range few() {
		for _, b := range few() {
			want := mayBe(a) && mayBe(b)
			for _, e := range es {
				want = want && (!hit(b, e) || hit(a, e))
			}
			for _, s := range ss {
				if !want {
					break
				}
				want = !hitStep(b, s) || hitStep(a, s)
			}
			if is := Covers(a, b); is != want {
				t.Errorf("Covers(%+v, %+v) = %v", a, b, is)
			}
		}
	}
}

// P5.3

func TestCoversOneItself(t *testing.T) {
	eachTlbi(func(x api.Tlbi) {
		if is := Covers(x, x); is != mayBe(x) {
			t.Errorf("Covers(%+v, itself) = %v", x, is)
		}
	})
}

func TestCoversARowOfThree(t *testing.T) {
	for _, a := range few() {
		for _, b := range few() {
			if !Covers(a, b) {
				continue
			}
			for _, c := range few() {
				if Covers(b, c) && !Covers(a, c) {
					t.Errorf("%+v, %+v, %+v", a, b, c)
				}
			}
		}
	}
}

func TestOneThatCoversHitsWhatTheOtherHits(t *testing.T) {
	es, ss := entries(), steps()
	for _, a := range few() {
		for _, b := range few() {
			if !Covers(a, b) {
				continue
			}
			for _, e := range es {
				if Hits(b, e) && !Hits(a, e) {
					t.Errorf("%+v covers %+v, but for %+v", a, b, e)
				}
			}
			for _, s := range ss {
				if HitsStep(b, s) && !HitsStep(a, s) {
					t.Errorf("%+v covers %+v, but for %+v", a, b, s)
				}
			}
		}
	}
}

func TestDecodeOfEncode(t *testing.T) {
	eachTlbi(func(x api.Tlbi) {
		w, e := Encode(x)
		if e != api.OK {
			return
		}
		if back, e := Decode(x.Kind, w); back != x || e != api.OK {
			t.Errorf("Decode(%d, %#x) = %+v, %v, not %+v", x.Kind, w, back, e, x)
		}
	})
}

func TestEncodeOfDecode(t *testing.T) {
	eachWord(func(kind int8, w uint64) {
		x, e := Decode(kind, w)
		if e != api.OK {
			return
		}
		if back, e := Encode(x); back != w || e != api.OK {
			t.Errorf("Encode(%+v) = %#x, %v, not %#x", x, back, e, w)
		}
	})
}

func TestNoTwoOfAKindHaveOneWord(t *testing.T) {
	of := map[int8]map[uint64]api.Tlbi{every: {}, ofAsid: {}, ofPage: {}}
	n := map[api.Tlbi]bool{}
	eachTlbi(func(x api.Tlbi) {
		w, e := Encode(x)
		if e != api.OK {
			return
		}
		if other, is := of[x.Kind][w]; is && other != x {
			t.Errorf("%+v and %+v: %#x", other, x, w)
		}
		of[x.Kind][w] = x
		n[x] = true
	})
	if len(of[every])+len(of[ofAsid])+len(of[ofPage]) != len(n) || len(of[ofAsid]) != 256 || len(of[every]) != 1 {
		t.Errorf("%d, %d and %d words of %d", len(of[every]), len(of[ofAsid]), len(of[ofPage]), len(n))
	}
}
