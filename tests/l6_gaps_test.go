package tests

import (
	"bytes"
	"math"
	"slices"
	"testing"

	"loop.example/g01179/impl"
)

// gapsOn returns all Gaps with a Window of a Memory as the Store.
func gapsOn(m impl.Memory, w impl.Window) []impl.Gap {
	gaps := []impl.Gap{}
	for from := 0; from <= w.Len; from++ {
		for to := from; to <= w.Len; to++ {
			gaps = append(gaps, impl.Gap{Memory: m, Store: w, From: from, To: to})
		}
	}
	return gaps
}

// allGaps returns all Gaps on a Memory.
func allGaps(m impl.Memory) []impl.Gap {
	gaps := []impl.Gap{}
	for _, w := range allWindows(m) {
		gaps = append(gaps, gapsOn(m, w)...)
	}
	return gaps
}

// someGaps returns Gaps on memoryOf(64, 64) at the limits.
func someGaps() []impl.Gap {
	gaps, m := []impl.Gap{}, memoryOf(64, 64)
	for _, w := range []impl.Window{
		{Len: 64, Cap: 64}, {Array: 1, Len: 63, Cap: 64}, {Start: 1, Len: 63, Cap: 63}, {Array: 1, Start: 63, Len: 1, Cap: 1},
		{Cap: 64}, {Start: 64}, {Start: 7, Len: 32, Cap: 50}, {Array: 1, Start: 10, Len: 40, Cap: 40},
	} {
		for _, from := range []int{0, 1, w.Len / 2, w.Len - 1, w.Len} {
			for _, hole := range []int{0, 1, 3, w.Len / 2, w.Len - from - 1, w.Len - from} {
				if from >= 0 && hole >= 0 && from+hole <= w.Len {
					gaps = append(gaps, impl.Gap{Memory: m, Store: w, From: from, To: from + hole})
				}
			}
		}
	}
	return gaps
}

// checkGaps makes a check for all Gaps on small Memories, one of them with MaxArrays arrays and one
// with an array less, and for those at the limits.
func checkGaps(t *testing.T, check func(t *testing.T, g impl.Gap)) {
	t.Helper()
	sizes := slices.Repeat([]int{3}, impl.MaxArrays)
	sizes[0] = 4
	for _, m := range []impl.Memory{memoryOf(5, 2), memoryOf(sizes...), memoryOf(sizes[1:]...)} {
		for _, g := range allGaps(m) {
			// One array of many that are alike will do, the last one too.
			if a := g.Store.Array; a < 2 || a == len(m.Arrays)-1 {
				check(t, g)
			}
		}
	}
	for _, g := range someGaps() {
		check(t, g)
	}
}

// badGaps returns Gaps of all kinds that are not valid.
func badGaps() []impl.Gap {
	m := memoryOf(4, 2)
	gaps := []impl.Gap{
		{}, {Memory: m, Store: impl.Window{Cap: 4}, To: 1}, {Memory: m, Store: impl.Window{Cap: 4}, From: 1, To: 1},
		{Store: impl.Window{Len: 1, Cap: 1}}, {Memory: m, Store: impl.Window{Start: 4}, From: -1},
	}
	for _, w := range badWindows() {
		gaps = append(gaps, impl.Gap{Memory: m, Store: w}, impl.Gap{Memory: m, Store: w, From: 1, To: 1}, impl.Gap{Memory: m, Store: w, To: w.Len})
	}
	for _, bad := range badMemories() {
		gaps = append(gaps, impl.Gap{Memory: bad}, impl.Gap{Memory: bad, Store: impl.Window{Len: 2, Cap: 2}, From: 1, To: 2})
	}
	w := impl.Window{Len: 3, Cap: 4}
	for _, n := range []int{math.MinInt, math.MinInt + 1, -3, -1, 4, 6, 1 << 32, math.MaxInt - 1, math.MaxInt} {
		gaps = append(gaps, impl.Gap{Memory: m, Store: w, From: n}, impl.Gap{Memory: m, Store: w, From: n, To: 2},
			impl.Gap{Memory: m, Store: w, To: n}, impl.Gap{Memory: m, Store: w, From: 2, To: n}, impl.Gap{Memory: m, Store: w, From: n, To: n})
	}
	// The hole does not end before it begins.
	return append(gaps, impl.Gap{Memory: m, Store: w, From: 1}, impl.Gap{Memory: m, Store: w, From: 3, To: 2})
}

// isZeroGap reports whether a Gap is the one that comes with a failure.
func isZeroGap(g impl.Gap) bool { return equalGaps(g, impl.Gap{}) }

// equalGaps compares all bytes and numbers.
func equalGaps(a, b impl.Gap) bool {
	return equalMemories(a.Memory, b.Memory) && a.Store == b.Store && a.From == b.From && a.To == b.To
}

// copyGap returns the same Gap in other memory.
func copyGap(g impl.Gap) impl.Gap {
	g.Memory = cloned(g.Memory)
	return g
}

// textOf returns the text of a Gap, taken place by place.
func textOf(g impl.Gap) []byte {
	text := []byte{}
	for i, b := range seenIn(g.Memory, g.Store) {
		if i < g.From || i >= g.To {
			text = append(text, b)
		}
	}
	return text
}

// stored is the place of the byte i of the Store.
func stored(g impl.Gap, i int) *byte { return &g.Memory.Arrays[g.Store.Array][g.Store.Start+i] }

// movedTo returns what the document tells of moving the hole: the Gap, and the cost.
func movedTo(g impl.Gap, at int) (impl.Gap, int) {
	hole, cost, want := g.To-g.From, 0, copyGap(g)
	for i := at; i < g.From; i++ {
		*stored(want, i+hole) = *stored(g, i)
		cost++
	}
	for i := g.From; i < at; i++ {
		*stored(want, i) = *stored(g, i+hole)
		cost++
	}
	want.From, want.To = at, at+hole
	return want, cost
}

// widened returns what the document tells of widening the hole: the Gap, and whether it is.
func widened(g impl.Gap, n int) (impl.Gap, bool) {
	m, w, ok := appended(g.Memory, g.Store, make([]byte, n))
	if !ok {
		return impl.Gap{}, false
	}
	want := impl.Gap{Memory: m, Store: w, From: g.From, To: g.To + n}
	for i := g.To; i < g.Store.Len; i++ {
		*stored(want, i+n) = *stored(g, i)
	}
	return want, true
}

// putInto returns what the document tells of putting a list: the Gap, and whether it is.
func putInto(g impl.Gap, list []byte) (impl.Gap, bool) {
	want, ok := copyGap(g), true
	if lacking := len(list) - (g.To - g.From); lacking > 0 {
		want, ok = widened(g, lacking)
	}
	if !ok {
		return impl.Gap{}, false
	}
	for _, b := range list {
		*stored(want, want.From) = b
		want.From++
	}
	return want, true
}

// edited returns what the document tells of an Edit: the Gap, the cost, and whether it is possible.
func edited(g impl.Gap, e impl.Edit) (impl.Gap, int, bool) {
	length := len(textOf(g))
	if e.At < 0 || e.At > length || e.Take < 0 || e.Take > length || e.At+e.Take > length {
		return impl.Gap{}, 0, false
	}
	want, cost := movedTo(g, e.At)
	want.To += e.Take
	want, ok := putInto(want, e.Put)
	if !ok {
		return impl.Gap{}, 0, false
	}
	return want, cost, true
}

// checkText checks that a Gap is valid, and what its text is.
func checkText(t *testing.T, name string, g impl.Gap, want []byte) {
	t.Helper()
	if !impl.IsGap(g) {
		t.Fatalf("%s: %v is no Gap", name, g)
	}
	if text, ok := impl.GapText(g); !ok || !bytes.Equal(text, want) {
		t.Fatalf("%s: %v has the text %v, %v, not %v", name, g, text, ok, want)
	}
}

func TestIsGap(t *testing.T) {
	m := memoryOf(4, 2)
	numbers := []int{math.MinInt, math.MinInt + 1, -2, -1, 0, 1, 2, 3, 4, 5, 1 << 32, math.MaxInt - 1, math.MaxInt}
	for _, w := range append(allWindows(m), badWindows()...) {
		window, _ := impl.IsWindow(m, w)
		for _, from := range numbers {
			for _, to := range numbers {
				g := impl.Gap{Memory: m, Store: w, From: from, To: to}
				want := window && from >= 0 && from <= to && to <= w.Len
				if impl.IsGap(g) != want {
					t.Fatalf("IsGap of %v is not %v", g, want)
				}
			}
		}
	}
	checkGaps(t, func(t *testing.T, g impl.Gap) {
		if !impl.IsGap(g) {
			t.Fatalf("IsGap of %v is false", g)
		}
	})
	for _, g := range badGaps() {
		if impl.IsGap(g) {
			t.Fatalf("IsGap of %v is true", g)
		}
	}
}

func TestNewGap(t *testing.T) {
	for _, m := range []impl.Memory{{}, memoryOf(4, 2), memoryOf(slices.Repeat([]int{3}, impl.MaxArrays-1)...)} {
		for n := 1; n <= impl.MaxSize; n++ {
			want := impl.Gap{Memory: cloned(m), Store: impl.Window{Array: len(m.Arrays), Len: n, Cap: n}, To: n}
			want.Memory.Arrays = append(want.Memory.Arrays, make([]byte, n))
			g, ok := impl.NewGap(m, n)
			if !ok || !equalGaps(g, want) {
				t.Fatalf("NewGap of %d bytes = %v, %v", n, g, ok)
			}
			checkText(t, "NewGap", g, nil)
		}
		for _, n := range []int{math.MinInt, -1, 0, impl.MaxSize + 1, 1<<32 + 1, math.MaxInt} {
			checkNoGap(t, m, n)
		}
	}
	for _, m := range append(badMemories(), fullMemory()) {
		checkNoGap(t, m, 1)
		checkNoGap(t, m, impl.MaxSize)
	}
}

func checkNoGap(t *testing.T, m impl.Memory, n int) {
	t.Helper()
	if g, ok := impl.NewGap(m, n); ok || !isZeroGap(g) {
		t.Fatalf("NewGap of %d bytes on %v = %v, %v", n, m, g, ok)
	}
}

func TestGapText(t *testing.T) {
	checkGaps(t, func(t *testing.T, g impl.Gap) { checkText(t, "GapText", g, textOf(g)) })
	for _, g := range badGaps() {
		if text, ok := impl.GapText(g); ok || len(text) != 0 {
			t.Fatalf("GapText of %v = %v, %v", g, text, ok)
		}
	}
	m := impl.Memory{Arrays: [][]byte{{9}, {1, 2, 3, 4, 5, 6}}}
	w := impl.Window{Array: 1, Start: 1, Len: 4, Cap: 5} // 2, 3, 4, 5, with a room of 6
	for _, c := range []struct {
		from, to int
		text     string
	}{
		{0, 0, "\x02\x03\x04\x05"}, {2, 2, "\x02\x03\x04\x05"}, {4, 4, "\x02\x03\x04\x05"}, {0, 4, ""},
		{0, 1, "\x03\x04\x05"}, {3, 4, "\x02\x03\x04"}, {1, 3, "\x02\x05"}, {1, 2, "\x02\x04\x05"},
	} {
		checkText(t, "by hand", impl.Gap{Memory: m, Store: w, From: c.from, To: c.to}, []byte(c.text))
	}
}

func TestMoveGap(t *testing.T) {
	checkGaps(t, checkMovedGap)
	for _, g := range badGaps() {
		for _, at := range []int{-1, 0, 1, g.From, math.MaxInt, math.MinInt} {
			checkMoveGapFails(t, g, at)
		}
	}
}

func checkMoveGapFails(t *testing.T, g impl.Gap, at int) {
	t.Helper()
	if got, cost, ok := impl.MoveGap(g, at); ok || cost != 0 || !isZeroGap(got) {
		t.Fatalf("MoveGap of %v to %d = %v, %d, %v", g, at, got, cost, ok)
	}
}

// checkMovedGap moves the hole to all numbers, and back: the text stays, and all bytes but those in
// the hole do.
func checkMovedGap(t *testing.T, g impl.Gap) {
	t.Helper()
	text := textOf(g)
	for at := 0; at <= len(text); at++ {
		want, many := movedTo(g, at)
		got, cost, ok := impl.MoveGap(g, at)
		if !ok || cost != many || cost != max(at-g.From, g.From-at) || !equalGaps(got, want) {
			t.Fatalf("MoveGap of %v to %d = %v, %d, %v, not %v, %d", g, at, got, cost, ok, want, many)
		}
		checkText(t, "MoveGap", got, text)
		back, again, ok := impl.MoveGap(got, g.From)
		if !ok || again != cost {
			t.Fatalf("MoveGap of %v to %d and back = %v, %d, %v", g, at, back, again, ok)
		}
		for i := g.From; i < g.To; i++ {
			*stored(back, i) = *stored(g, i)
		}
		if !equalGaps(back, g) {
			t.Fatalf("MoveGap of %v to %d and back changes more than the hole: %v", g, at, back)
		}
	}
	for _, at := range []int{math.MinInt, -1, len(text) + 1, g.Store.Len + 1, 1 << 32, math.MaxInt} {
		checkMoveGapFails(t, g, at)
	}
}

// TestMoveGapByHand has holes that are longer than what is copied, as long, and shorter, so that both
// sides overlap, and none at all.
func TestMoveGapByHand(t *testing.T) {
	array := []byte{1, 2, 3, 4, 5, 6, 7, 8}
	w := impl.Window{Start: 1, Len: 6, Cap: 7} // 2 to 7, with a room of 8
	for _, c := range []struct {
		from, to, at, cost int
		array              []byte
	}{
		{2, 5, 1, 1, []byte{1, 2, 3, 4, 5, 3, 7, 8}},
		{1, 4, 3, 2, []byte{1, 2, 6, 7, 5, 6, 7, 8}},
		{2, 4, 0, 2, []byte{1, 2, 3, 2, 3, 6, 7, 8}},
		{2, 4, 4, 2, []byte{1, 2, 3, 6, 7, 6, 7, 8}},
		{4, 5, 0, 4, []byte{1, 2, 2, 3, 4, 5, 7, 8}},
		{0, 1, 5, 5, []byte{1, 3, 4, 5, 6, 7, 7, 8}},
		{3, 5, 0, 3, []byte{1, 2, 3, 2, 3, 4, 7, 8}},
		{1, 3, 4, 3, []byte{1, 2, 5, 6, 7, 6, 7, 8}},
		{3, 3, 0, 3, array}, {0, 0, 6, 6, array}, {2, 5, 2, 0, array}, {0, 6, 0, 0, array},
	} {
		g := impl.Gap{Memory: impl.Memory{Arrays: [][]byte{array}}, Store: w, From: c.from, To: c.to}
		want := impl.Gap{Memory: impl.Memory{Arrays: [][]byte{c.array}}, Store: w, From: c.at, To: c.at + c.to - c.from}
		if got, cost, ok := impl.MoveGap(g, c.at); !ok || cost != c.cost || !equalGaps(got, want) {
			t.Errorf("MoveGap of %v to %d = %v, %d, %v, not %v, %d", g, c.at, got, cost, ok, want, c.cost)
		}
	}
}

func TestWidenGap(t *testing.T) {
	checkGaps(t, checkWidened)
	for _, g := range badGaps() {
		for _, n := range []int{0, 1, 3, impl.MaxSize} {
			checkWidenFails(t, g, n)
		}
	}
}

func checkWidenFails(t *testing.T, g impl.Gap, n int) {
	t.Helper()
	if got, ok := impl.WidenGap(g, n); ok || !isZeroGap(got) {
		t.Fatalf("WidenGap of %v by %d = %v, %v", g, n, got, ok)
	}
}

// checkWidened widens the hole up to the room, and by more.
func checkWidened(t *testing.T, g impl.Gap) {
	t.Helper()
	room, left := g.Store.Cap-g.Store.Len, impl.MaxSize-g.Store.Len
	for _, n := range []int{0, 1, 2, 3, room, room + 1, g.Store.Cap, g.Store.Cap + 1, left - 1, left, left + 1, impl.MaxSize, impl.MaxSize + 1, 1000} {
		if n < 0 {
			continue
		}
		want, fine := widened(g, n)
		if !fine {
			checkWidenFails(t, g, n)
			continue
		}
		got, ok := impl.WidenGap(g, n)
		if !ok || !equalGaps(got, want) {
			t.Fatalf("WidenGap of %v by %d = %v, %v, not %v", g, n, got, ok, want)
		}
		if got.From != g.From || got.To-got.From != g.To-g.From+n {
			t.Fatalf("WidenGap of %v by %d has a hole from %d to %d", g, n, got.From, got.To)
		}
		checkText(t, "WidenGap", got, textOf(g))
	}
	for _, n := range []int{math.MinInt, math.MinInt + 1, -1, 1 << 32, 1 << 62, math.MaxInt - 1, math.MaxInt} {
		checkWidenFails(t, g, n)
	}
}

func TestWidenGapByHand(t *testing.T) {
	m := impl.Memory{Arrays: [][]byte{{1, 2, 3, 4, 5, 6, 7}}}
	store := impl.Window{Start: 1, Len: 4, Cap: 6} // 2 to 5, with a room of 6, 7
	moved := impl.Window{Array: 1, Len: 7, Cap: 12}
	for _, c := range []struct {
		from, to, n int
		store       impl.Window
		arrays      [][]byte
	}{
		// The room is enough: what is behind the hole comes to its end, and the place behind keeps its byte.
		{1, 2, 1, impl.Window{Start: 1, Len: 5, Cap: 6}, [][]byte{{1, 2, 3, 4, 4, 5, 7}}},
		{1, 1, 2, impl.Window{Start: 1, Len: 6, Cap: 6}, [][]byte{{1, 2, 3, 4, 3, 4, 5}}},
		{4, 4, 2, impl.Window{Start: 1, Len: 6, Cap: 6}, [][]byte{{1, 2, 3, 4, 5, 0, 0}}},
		{3, 3, 2, impl.Window{Start: 1, Len: 6, Cap: 6}, [][]byte{{1, 2, 3, 4, 5, 0, 5}}},
		{0, 4, 1, impl.Window{Start: 1, Len: 5, Cap: 6}, [][]byte{{1, 2, 3, 4, 5, 0, 7}}},
		{1, 2, 0, store, [][]byte{{1, 2, 3, 4, 5, 6, 7}}},
		// It is not: the old array stays as it was.
		{1, 2, 3, moved, [][]byte{{1, 2, 3, 4, 5, 6, 7}, {2, 3, 4, 5, 0, 4, 5, 0, 0, 0, 0, 0}}},
		{0, 0, 3, moved, [][]byte{{1, 2, 3, 4, 5, 6, 7}, {2, 3, 4, 2, 3, 4, 5, 0, 0, 0, 0, 0}}},
	} {
		g := impl.Gap{Memory: m, Store: store, From: c.from, To: c.to}
		want := impl.Gap{Memory: impl.Memory{Arrays: c.arrays}, Store: c.store, From: c.from, To: c.to + c.n}
		if got, ok := impl.WidenGap(g, c.n); !ok || !equalGaps(got, want) {
			t.Errorf("WidenGap of %v by %d = %v, %v, not %v", g, c.n, got, ok, want)
		}
	}
	// A Store that sees nothing and has no room gets an array of just what is needed.
	none := impl.Gap{Memory: impl.Memory{Arrays: [][]byte{{1}}}, Store: impl.Window{Start: 1}}
	want := impl.Gap{Memory: impl.Memory{Arrays: [][]byte{{1}, {0, 0, 0}}}, Store: impl.Window{Array: 1, Len: 3, Cap: 3}, To: 3}
	if got, ok := impl.WidenGap(none, 3); !ok || !equalGaps(got, want) {
		t.Error("no places", got, ok)
	}
	if got, ok := impl.WidenGap(none, 0); !ok || !equalGaps(got, none) {
		t.Error("no places and no bytes", got, ok)
	}
}

// putLists returns lists of bytes to be put, none of them in memoryOf, up to one that never fits.
func putLists() [][]byte {
	long := []byte{}
	for i := range impl.MaxSize + 1 {
		long = append(long, byte(190+i))
	}
	return [][]byte{nil, {}, {200}, {201, 202}, {0, 0, 0}, long[:4], long[:5], long[:6], long[:9], long[:33], long[:63], long[:64], long}
}

func TestPutBytes(t *testing.T) {
	checkGaps(t, checkPut)
	for _, g := range badGaps() {
		for _, list := range append(putLists(), make([]byte, 1000)) {
			checkPutFails(t, g, list)
		}
	}
}

func checkPutFails(t *testing.T, g impl.Gap, list []byte) {
	t.Helper()
	if got, ok := impl.PutBytes(g, list); ok || !isZeroGap(got) {
		t.Fatalf("PutBytes of %d bytes to %v = %v, %v", len(list), g, got, ok)
	}
}

// checkPut puts lists that are shorter than the hole, as long, and longer.
func checkPut(t *testing.T, g impl.Gap) {
	t.Helper()
	hole, long := g.To-g.From, bytes.Repeat([]byte{250, 251, 252}, 30)
	most := impl.MaxSize - g.Store.Len + hole
	for _, list := range append(putLists(), long[:max(hole-1, 0)], long[:hole], long[:hole+1], long[:most], long[:most+1], make([]byte, 1<<16)) {
		want, fine := putInto(g, list)
		if !fine {
			checkPutFails(t, g, list)
			continue
		}
		got, ok := impl.PutBytes(g, list)
		if !ok || !equalGaps(got, want) {
			t.Fatalf("PutBytes of %v to %v = %v, %v, not %v", list, g, got, ok, want)
		}
		if got.From != g.From+len(list) || got.To-got.From != max(hole-len(list), 0) {
			t.Fatalf("PutBytes of %v to %v has a hole from %d to %d", list, g, got.From, got.To)
		}
		text := textOf(g)
		checkText(t, "PutBytes", got, slices.Concat(text[:g.From], list, text[g.From:]))
	}
}

func TestPutBytesByHand(t *testing.T) {
	m := impl.Memory{Arrays: [][]byte{{1, 2, 3, 4, 5}}}
	g := impl.Gap{Memory: m, Store: impl.Window{Start: 1, Len: 3, Cap: 4}, From: 1, To: 2} // 2, a hole, 4, with a room of 5
	for _, c := range []struct {
		list     []byte
		store    impl.Window
		from, to int
		arrays   [][]byte
	}{
		{nil, g.Store, 1, 2, m.Arrays},
		{[]byte{7}, g.Store, 2, 2, [][]byte{{1, 2, 7, 4, 5}}},
		{[]byte{7, 8}, impl.Window{Start: 1, Len: 4, Cap: 4}, 3, 3, [][]byte{{1, 2, 7, 8, 4}}},
		{[]byte{7, 8, 9}, impl.Window{Array: 1, Len: 5, Cap: 8}, 4, 4, [][]byte{{1, 2, 3, 4, 5}, {2, 7, 8, 9, 4, 0, 0, 0}}},
	} {
		want := impl.Gap{Memory: impl.Memory{Arrays: c.arrays}, Store: c.store, From: c.from, To: c.to}
		if got, ok := impl.PutBytes(g, c.list); !ok || !equalGaps(got, want) {
			t.Errorf("PutBytes of %v = %v, %v, not %v", c.list, got, ok, want)
		}
	}
	// The list lies in the Memory itself, in places that are written.
	got, ok := impl.PutBytes(g, m.Arrays[0][1:3])
	if want := []byte{1, 2, 2, 3, 4}; !ok || !bytes.Equal(got.Memory.Arrays[0], want) || !bytes.Equal(m.Arrays[0], []byte{1, 2, 3, 4, 5}) {
		t.Error("own bytes", got, ok)
	}
	// As many as a new array can have, the hole included, but not one more.
	most := impl.Gap{Memory: m, Store: g.Store, From: 1, To: 3}
	if got, ok := impl.PutBytes(most, make([]byte, impl.MaxSize-1)); !ok || got.Store != (impl.Window{Array: 1, Len: 64, Cap: 64}) || got.From != 64 || got.To != 64 {
		t.Error("as many as can be", got, ok)
	}
	checkPutFails(t, most, make([]byte, impl.MaxSize))
}

func TestTaking(t *testing.T) {
	checkGaps(t, checkTakes)
	for _, g := range badGaps() {
		for _, n := range []int{0, 1, -1, g.From, g.To, math.MaxInt, math.MinInt} {
			checkTakeBackFails(t, g, n)
			checkTakeAheadFails(t, g, n)
		}
	}
}

func checkTakeBackFails(t *testing.T, g impl.Gap, n int) {
	t.Helper()
	if got, ok := impl.TakeBack(g, n); ok || !isZeroGap(got) {
		t.Fatalf("TakeBack of %v by %d = %v, %v", g, n, got, ok)
	}
}

func checkTakeAheadFails(t *testing.T, g impl.Gap, n int) {
	t.Helper()
	if got, ok := impl.TakeAhead(g, n); ok || !isZeroGap(got) {
		t.Fatalf("TakeAhead of %v by %d = %v, %v", g, n, got, ok)
	}
}

// checkTakes takes all numbers of bytes away on both sides of the hole; no byte of the Memory changes.
func checkTakes(t *testing.T, g impl.Gap) {
	t.Helper()
	text := textOf(g)
	behind := len(text) - g.From
	for n := 0; n <= g.From; n++ {
		want := impl.Gap{Memory: g.Memory, Store: g.Store, From: g.From - n, To: g.To}
		got, ok := impl.TakeBack(g, n)
		if !ok || !equalGaps(got, want) {
			t.Fatalf("TakeBack of %v by %d = %v, %v", g, n, got, ok)
		}
		checkText(t, "TakeBack", got, slices.Delete(slices.Clone(text), g.From-n, g.From))
	}
	for n := 0; n <= behind; n++ {
		want := impl.Gap{Memory: g.Memory, Store: g.Store, From: g.From, To: g.To + n}
		got, ok := impl.TakeAhead(g, n)
		if !ok || !equalGaps(got, want) {
			t.Fatalf("TakeAhead of %v by %d = %v, %v", g, n, got, ok)
		}
		checkText(t, "TakeAhead", got, slices.Delete(slices.Clone(text), g.From, g.From+n))
	}
	for _, n := range []int{math.MinInt, math.MinInt + 1, -1, 1 << 32, math.MaxInt - 1, math.MaxInt} {
		checkTakeBackFails(t, g, n)
		checkTakeAheadFails(t, g, n)
	}
	checkTakeBackFails(t, g, g.From+1)
	checkTakeAheadFails(t, g, behind+1)
}

func TestTakingByHand(t *testing.T) {
	m := impl.Memory{Arrays: [][]byte{{1, 2, 3, 4, 5, 6}}}
	g := impl.Gap{Memory: m, Store: impl.Window{Start: 1, Len: 4, Cap: 5}, From: 1, To: 2} // 2, a hole, 4, 5, with a room of 6
	if got, ok := impl.TakeBack(g, 1); !ok || !equalGaps(got, impl.Gap{Memory: m, Store: g.Store, To: 2}) {
		t.Error("TakeBack", got, ok)
	}
	if got, ok := impl.TakeAhead(g, 2); !ok || !equalGaps(got, impl.Gap{Memory: m, Store: g.Store, From: 1, To: 4}) {
		t.Error("TakeAhead", got, ok)
	}
	checkTakeBackFails(t, g, 2)
	checkTakeAheadFails(t, g, 3) // the room has no text
}

// checkEdit compares the Gap behind an Edit with what the document tells, and its text with EditText.
func checkEdit(t *testing.T, g impl.Gap, e impl.Edit) {
	t.Helper()
	want, many, fine := edited(g, e)
	got, cost, ok := impl.DoEdit(g, e)
	if ok != fine || cost != many || !equalGaps(got, want) {
		t.Fatalf("DoEdit of %v on %v = %v, %d, %v, not %v, %d, %v", e, g, got, cost, ok, want, many, fine)
	}
	if !ok {
		return
	}
	text, ok := impl.EditText(textOf(g), e)
	if !ok || got.From != e.At+len(e.Put) {
		t.Fatalf("DoEdit of %v on %v has a hole from %d to %d, EditText = %v, %v", e, g, got.From, got.To, text, ok)
	}
	checkText(t, "DoEdit", got, text)
}

func TestDoEdit(t *testing.T) {
	lists := putLists()
	checkGaps(t, func(t *testing.T, g impl.Gap) {
		length, many := len(textOf(g)), 0
		ats := []int{math.MinInt, -1, 0, 1, 2, 3, 4, g.From, length - 1, length, length + 1, g.Store.Len + 1, 1 << 32, math.MaxInt}
		for _, at := range ats {
			for _, take := range []int{math.MinInt, -1, 0, 1, 2, length - at, length - at + 1, math.MaxInt - at, math.MaxInt} {
				checkEdit(t, g, impl.Edit{At: at, Take: take, Put: lists[many%len(lists)]})
				many++
			}
		}
	})
	// Each pair of At and Take, with each list.
	for _, g := range gapsOn(memoryOf(5, 2), impl.Window{Len: 4, Cap: 5}) {
		for at := -1; at <= 5; at++ {
			for take := -1; take <= 5; take++ {
				for _, list := range lists {
					checkEdit(t, g, impl.Edit{At: at, Take: take, Put: list})
				}
			}
		}
	}
	for _, g := range badGaps() {
		for _, e := range []impl.Edit{{}, {Put: []byte{1}}, {At: 1}, {Take: 1}, {At: -1}, {At: math.MaxInt, Take: math.MaxInt}} {
			if got, cost, ok := impl.DoEdit(g, e); ok || cost != 0 || !isZeroGap(got) {
				t.Fatalf("DoEdit of %v on %v = %v, %d, %v", e, g, got, cost, ok)
			}
		}
	}
}

func TestDoEditByHand(t *testing.T) {
	m := impl.Memory{Arrays: [][]byte{{1, 2, 3, 4, 5, 6}}}
	g := impl.Gap{Memory: m, Store: impl.Window{Len: 5, Cap: 6}, From: 1, To: 2} // 1, a hole, 3, 4, 5, with a room of 6
	for _, c := range []struct {
		e                    impl.Edit
		cost, from, to, many int
		arrays               [][]byte
	}{
		{impl.Edit{}, 1, 0, 1, 5, [][]byte{{1, 1, 3, 4, 5, 6}}},
		{impl.Edit{At: 4}, 3, 4, 5, 5, [][]byte{{1, 3, 4, 5, 5, 6}}},
		{impl.Edit{At: 1, Take: 3}, 0, 1, 5, 5, m.Arrays},
		{impl.Edit{At: 1, Take: 1, Put: []byte{7}}, 0, 2, 3, 5, [][]byte{{1, 7, 3, 4, 5, 6}}},
		// What is taken away makes room for what is put, and just the rest is appended.
		{impl.Edit{At: 2, Take: 2, Put: []byte{7, 8, 9}}, 1, 5, 5, 5, [][]byte{{1, 3, 7, 8, 9, 6}}},
		{impl.Edit{At: 2, Take: 1, Put: []byte{7, 8, 9}}, 1, 5, 5, 6, [][]byte{{1, 3, 7, 8, 9, 5}}},
		{impl.Edit{At: 0, Take: 4, Put: []byte{7}}, 1, 1, 5, 5, [][]byte{{7, 1, 3, 4, 5, 6}}},
	} {
		want := impl.Gap{Memory: impl.Memory{Arrays: c.arrays}, Store: impl.Window{Len: c.many, Cap: 6}, From: c.from, To: c.to}
		if got, cost, ok := impl.DoEdit(g, c.e); !ok || cost != c.cost || !equalGaps(got, want) {
			t.Errorf("DoEdit of %v = %v, %d, %v, not %v, %d", c.e, got, cost, ok, want, c.cost)
		}
	}
	// The hole is moved in the old array, and then the bytes come to a new one.
	got, cost, ok := impl.DoEdit(g, impl.Edit{At: 4, Put: []byte{7, 8, 9}})
	want := impl.Memory{Arrays: [][]byte{{1, 3, 4, 5, 5, 6}, {1, 3, 4, 5, 7, 8, 9, 0, 0, 0, 0, 0}}}
	if !ok || cost != 3 || got.Store != (impl.Window{Array: 1, Len: 7, Cap: 12}) || !equalMemories(got.Memory, want) {
		t.Error("to a new array", got, cost, ok)
	}
}

// TestDoEditWithoutArrays has as many arrays as there can be, so that only what the room takes can be put.
func TestDoEditWithoutArrays(t *testing.T) {
	g := impl.Gap{Memory: fullMemory(), Store: impl.Window{Len: 2, Cap: 3}, From: 1, To: 1}
	if got, _, ok := impl.DoEdit(g, impl.Edit{At: 1, Put: []byte{7}}); !ok || got.Store.Len != 3 || len(got.Memory.Arrays) != impl.MaxArrays {
		t.Error("a byte to the room", got, ok)
	}
	if got, cost, ok := impl.DoEdit(g, impl.Edit{At: 0, Put: []byte{7, 8}}); ok || cost != 0 || !isZeroGap(got) {
		t.Error("more than the room", got, cost, ok)
	}
	if got, _, ok := impl.DoEdit(g, impl.Edit{At: 0, Take: 1, Put: []byte{7, 8}}); !ok || got.Store.Len != 3 {
		t.Error("a byte taken away, and two put", got, ok)
	}
}

// editLists returns lists of Edits, some with one that is possible for no text ahead of others.
func editLists() [][]impl.Edit {
	small := []impl.Edit{{Put: []byte{200, 201}}, {At: 2, Take: 0, Put: []byte{202}}, {At: 1, Take: 2}, {At: 0, Take: 1, Put: []byte{203, 204, 205}}, {At: 3}}
	lists := [][]impl.Edit{nil, {}, small[:1], small[:2], small, slices.Concat(small, []impl.Edit{{At: -1}}, small),
		{{Take: -1}}, {{At: 1, Take: math.MaxInt}}, {{At: math.MaxInt, Take: 1}, {}}, {{}, {At: 65}, {}}, {{At: 2}, {Put: make([]byte, 65)}, {}}}
	for _, n := range []int{1, impl.MaxEdits - 1, impl.MaxEdits} {
		lists = append(lists, slices.Repeat([]impl.Edit{{Put: []byte{206}}}, n), slices.Repeat([]impl.Edit{{Put: []byte{207, 208, 209, 210}}}, n),
			slices.Repeat([]impl.Edit{{Take: 1}}, n), slices.Repeat(small, 4)[:n])
	}
	return lists
}

func TestDoEdits(t *testing.T) {
	checkGaps(t, func(t *testing.T, g impl.Gap) {
		for _, list := range editLists() {
			checkEdits(t, g, list)
		}
		checkEditsFail(t, g, make([]impl.Edit, impl.MaxEdits+1))
		checkEditsFail(t, g, slices.Repeat([]impl.Edit{{At: -1}}, impl.MaxEdits+1))
		checkEditsFail(t, g, make([]impl.Edit, 1000))
	})
	for _, g := range badGaps() {
		for _, list := range append(editLists(), make([]impl.Edit, impl.MaxEdits+1)) {
			checkEditsFail(t, g, list)
		}
	}
}

func checkEditsFail(t *testing.T, g impl.Gap, list []impl.Edit) {
	t.Helper()
	if got, cost, n, ok := impl.DoEdits(g, list); ok || cost != 0 || n != 0 || !isZeroGap(got) {
		t.Fatalf("DoEdits of %d Edits on %v = %v, %d, %d, %v", len(list), g, got, cost, n, ok)
	}
}

// checkEdits does the Edits one by one, and edits a plain text beside that.
func checkEdits(t *testing.T, g impl.Gap, list []impl.Edit) {
	t.Helper()
	want, text, sum, many := copyGap(g), textOf(g), 0, 0
	for _, e := range list {
		next, cost, ok := edited(want, e)
		if !ok {
			break
		}
		want, sum, many = next, sum+cost, many+1
		text = slices.Concat(text[:e.At], e.Put, text[e.At+e.Take:])
	}
	got, cost, n, ok := impl.DoEdits(g, list)
	if !ok || cost != sum || n != many || !equalGaps(got, want) {
		t.Fatalf("DoEdits of %v on %v = %v, %d, %d, %v, not %v, %d, %d", list, g, got, cost, n, ok, want, sum, many)
	}
	checkText(t, "DoEdits", got, text)
}

func TestDoEditsByHand(t *testing.T) {
	g, _ := impl.NewGap(impl.Memory{}, 4)
	got, cost, n, ok := impl.DoEdits(g, []impl.Edit{
		{Put: []byte("rings")},                    // at 0, behind it at 5
		{At: 0, Take: 1, Put: []byte("wr")},       // 5 bytes to 0, behind it at 2
		{At: 5, Take: 1, Put: []byte("ing")},      // 3 bytes to 5, behind it at 8
		{At: 9},                                   // the text has 8 bytes
		{At: 0, Take: 8, Put: []byte("not done")}, // not reached
	})
	if !ok || cost != 8 || n != 3 {
		t.Error("DoEdits", got, cost, n, ok)
	}
	checkText(t, "DoEdits", got, []byte("wringing"))
}

// TestEditsMakeTheText edits by a fixed rule, and has a plain text beside the Gap.
func TestEditsMakeTheText(t *testing.T) {
	for _, g := range []impl.Gap{
		{Memory: memoryOf(6, 64), Store: impl.Window{Start: 1, Len: 3, Cap: 4}, From: 1, To: 2},
		{Memory: memoryOf(6, 64), Store: impl.Window{Array: 1, Len: 64, Cap: 64}, From: 10, To: 50},
		{Memory: memoryOf(slices.Repeat([]int{40}, impl.MaxArrays)...), Store: impl.Window{Array: 3, Start: 2, Len: 1, Cap: 38}, To: 1},
	} {
		text, seed, done := textOf(g), uint32(11), 0
		for range 3000 {
			seed = seed*1664525 + 1013904223
			at := int(seed>>16) % (len(text) + 2)
			e := impl.Edit{At: at, Take: int(seed>>10) % 5, Put: bytes.Repeat([]byte{byte(seed >> 8)}, int(seed>>13)%6)}
			wish, fine := impl.EditText(text, e)
			next, _, ok := impl.DoEdit(g, e)
			want, _, possible := edited(g, e)
			if ok != possible || ok && !fine || !equalGaps(next, want) {
				t.Fatalf("DoEdit of %v on %v = %v, %v", e, g, next, ok)
			}
			if ok {
				g, text, done = next, wish, done+1
				checkText(t, "edited", g, text)
			}
		}
		if done < 1000 {
			t.Errorf("just %d Edits of 3000 were possible", done)
		}
	}
}

func TestEditText(t *testing.T) {
	long := bytes.Repeat([]byte("abcdefgh"), 1000)
	for _, text := range [][]byte{nil, {}, {1}, {1, 2, 3, 4, 5}, long} {
		size := len(text)
		for _, at := range []int{0, 1, 2, 3, size / 2, size - 1, size} {
			for _, take := range []int{0, 1, 2, 3, size - at - 1, size - at} {
				if at >= 0 && take >= 0 && at+take <= size {
					checkEditText(t, text, impl.Edit{At: at, Take: take})
					checkEditText(t, text, impl.Edit{At: at, Take: take, Put: []byte{9}})
					checkEditText(t, text, impl.Edit{At: at, Take: take, Put: long})
				}
			}
		}
		for _, e := range []impl.Edit{
			{At: -1}, {At: -1, Take: 1}, {Take: -1}, {At: 1, Take: -1}, {At: size, Take: -1}, {At: size + 1}, {At: size + 1, Take: -1}, {At: size, Take: 1},
			{Take: size + 1}, {At: 1, Take: size}, {At: math.MaxInt, Take: 1}, {At: 1, Take: math.MaxInt}, {At: math.MaxInt, Take: math.MaxInt},
			{At: math.MinInt}, {Take: math.MinInt}, {At: math.MinInt, Take: math.MinInt}, {At: math.MaxInt, Take: math.MinInt}, {At: -2, Take: 2},
			{At: math.MinInt, Take: math.MaxInt}, {At: math.MaxInt},
		} {
			e.Put = []byte{7}
			if got, ok := impl.EditText(text, e); ok || len(got) != 0 {
				t.Fatalf("EditText of %d bytes by %v = %v, %v", size, e, got, ok)
			}
		}
	}
}

// checkEditText builds the text byte by byte.
func checkEditText(t *testing.T, text []byte, e impl.Edit) {
	t.Helper()
	want := []byte{}
	for i := 0; i <= len(text); i++ {
		if i == e.At {
			want = append(want, e.Put...)
		}
		if i < len(text) && (i < e.At || i >= e.At+e.Take) {
			want = append(want, text[i])
		}
	}
	if got, ok := impl.EditText(text, e); !ok || !bytes.Equal(got, want) {
		t.Fatalf("EditText of %d bytes at %d, %d taken away, %d put = %v, %v", len(text), e.At, e.Take, len(e.Put), got, ok)
	}
}

func TestCloseGap(t *testing.T) {
	checkGaps(t, func(t *testing.T, g impl.Gap) {
		text := textOf(g)
		want, _ := movedTo(g, len(text))
		window := impl.Window{Array: g.Store.Array, Start: g.Store.Start, Len: len(text), Cap: g.Store.Cap}
		got, w, ok := impl.CloseGap(g)
		if !ok || w != window || !equalGaps(got, want) {
			t.Fatalf("CloseGap of %v = %v, %v, %v, not %v, %v", g, got, w, ok, want, window)
		}
		checkText(t, "CloseGap", got, text)
		if seen, ok := impl.WindowBytes(got.Memory, w); !ok || !bytes.Equal(seen, text) {
			t.Fatalf("CloseGap of %v: %v sees %v, %v", g, w, seen, ok)
		}
	})
	for _, g := range badGaps() {
		if got, w, ok := impl.CloseGap(g); ok || w != (impl.Window{}) || !isZeroGap(got) {
			t.Fatalf("CloseGap of %v = %v, %v, %v", g, got, w, ok)
		}
	}
	g := impl.Gap{Memory: impl.Memory{Arrays: [][]byte{{1, 2, 3, 4, 5, 6}}}, Store: impl.Window{Start: 1, Len: 4, Cap: 5}, From: 1, To: 3}
	got, w, ok := impl.CloseGap(g)
	if !ok || w != (impl.Window{Start: 1, Len: 2, Cap: 5}) || got.From != 2 || got.To != 4 || !bytes.Equal(got.Memory.Arrays[0], []byte{1, 2, 5, 4, 5, 6}) {
		t.Error("by hand", got, w, ok)
	}
}

func TestSeenThrough(t *testing.T) {
	for _, m := range []impl.Memory{memoryOf(4, 2), memoryOf(1), sameTexts()} {
		windows := allWindows(m)
		for _, g := range allGaps(m) {
			for _, w := range windows {
				checkSeenThrough(t, g, w)
			}
		}
	}
	for _, g := range someGaps() {
		for _, pair := range somePairs()[:20] {
			checkSeenThrough(t, g, pair[1])
		}
		for i := range 64 {
			checkSeenThrough(t, g, impl.Window{Start: i, Len: 1, Cap: 1})
			checkSeenThrough(t, g, impl.Window{Array: 1, Start: i, Len: 1, Cap: 64 - i})
		}
	}
	for _, w := range badWindows() {
		for _, g := range gapsOn(memoryOf(4, 2), impl.Window{Len: 2, Cap: 3}) {
			checkNotThrough(t, g, w)
		}
	}
	for _, g := range badGaps() {
		for _, w := range []impl.Window{{}, {Len: 1, Cap: 1}, {Len: 2, Cap: 3}, {Array: 1, Len: 2, Cap: 2}} {
			checkNotThrough(t, g, w)
		}
	}
}

func checkNotThrough(t *testing.T, g impl.Gap, w impl.Window) {
	t.Helper()
	if seen, ok := impl.SeenThrough(g, w); ok || seen {
		t.Fatalf("SeenThrough of %v, %v = %v, %v", g, w, seen, ok)
	}
}

// checkSeenThrough goes through the places of the text one by one.
func checkSeenThrough(t *testing.T, g impl.Gap, w impl.Window) {
	t.Helper()
	want := false
	for i := range g.Store.Len {
		text := i < g.From || i >= g.To
		want = want || text && sees(w, g.Store.Array, g.Store.Start+i)
	}
	if seen, ok := impl.SeenThrough(g, w); !ok || seen != want {
		t.Fatalf("SeenThrough of %v, %v = %v, %v", g, w, seen, ok)
	}
}

// TestSeenThroughByHand has a text on both sides of a hole, which is not seen in the hole, in the room,
// before the Store, or on another array.
func TestSeenThroughByHand(t *testing.T) {
	m := memoryOf(9, 9)
	g := impl.Gap{Memory: m, Store: impl.Window{Start: 1, Len: 6, Cap: 7}, From: 2, To: 4} // text at the places 1, 2 and 5, 6
	for w, want := range map[impl.Window]bool{
		{Start: 1, Len: 1, Cap: 1}: true, {Start: 2, Len: 1, Cap: 1}: true, {Start: 5, Len: 1, Cap: 1}: true, {Start: 6, Len: 1, Cap: 1}: true,
		{Start: 3, Len: 2, Cap: 2}: false, {Start: 3, Len: 3, Cap: 3}: true, {Start: 2, Len: 3, Cap: 3}: true, {Len: 9, Cap: 9}: true,
		{Len: 1, Cap: 9}: false, {Len: 2, Cap: 2}: true, {Start: 7, Len: 2, Cap: 2}: false, {Start: 6, Len: 3, Cap: 3}: true, {Start: 1, Cap: 8}: false,
		{Array: 1, Len: 9, Cap: 9}: false, {Start: 3, Len: 2, Cap: 6}: false, {Array: 1, Start: 1, Len: 2, Cap: 2}: false,
	} {
		if seen, ok := impl.SeenThrough(g, w); !ok || seen != want {
			t.Errorf("SeenThrough of %v = %v, %v", w, seen, ok)
		}
	}
}

// gapArguments are what the functions of chapter 6 have as arguments.
type gapArguments struct {
	g     impl.Gap
	w     impl.Window
	n     int
	edits []impl.Edit
	e     impl.Edit
	list  []byte
}

// gapCall calls one function of chapter 6 with those of the arguments that it has. It fails unless the
// Gap is valid, if it needs one.
type gapCall struct {
	name  string
	needs bool
	call  func(x gapArguments) []any
}

// gapCalls has all functions of chapter 6.
func gapCalls() []gapCall {
	type arguments = gapArguments
	return []gapCall{
		{"IsGap", false, func(x arguments) []any { return resultsOf(impl.IsGap(x.g)) }},
		{"NewGap", false, func(x arguments) []any { return resultsOf(impl.NewGap(x.g.Memory, x.n)) }},
		{"GapText", true, func(x arguments) []any { return resultsOf(impl.GapText(x.g)) }},
		{"MoveGap", true, func(x arguments) []any { return resultsOf(impl.MoveGap(x.g, x.n)) }},
		{"WidenGap", true, func(x arguments) []any { return resultsOf(impl.WidenGap(x.g, x.n)) }},
		{"PutBytes", true, func(x arguments) []any { return resultsOf(impl.PutBytes(x.g, x.list)) }},
		{"TakeBack", true, func(x arguments) []any { return resultsOf(impl.TakeBack(x.g, x.n)) }},
		{"TakeAhead", true, func(x arguments) []any { return resultsOf(impl.TakeAhead(x.g, x.n)) }},
		{"DoEdit", true, func(x arguments) []any { return resultsOf(impl.DoEdit(x.g, x.e)) }},
		{"DoEdits", true, func(x arguments) []any { return resultsOf(impl.DoEdits(x.g, x.edits)) }},
		{"EditText", false, func(x arguments) []any { return resultsOf(impl.EditText(x.list, x.e)) }},
		{"CloseGap", true, func(x arguments) []any { return resultsOf(impl.CloseGap(x.g)) }},
		{"SeenThrough", true, func(x arguments) []any { return resultsOf(impl.SeenThrough(x.g, x.w)) }},
	}
}

// TestChapter6ReturnsForAll calls each function with arguments of all kinds, valid ones and others.
func TestChapter6ReturnsForAll(t *testing.T) {
	gaps := badGaps()
	for _, m := range []impl.Memory{memoryOf(4, 2), memoryOf(64, 64), fullMemory(), overlaid()} {
		for _, w := range []impl.Window{{Len: 2, Cap: 3}, {Start: 1, Len: 2, Cap: 2}, {Array: 1, Start: 2}} {
			gaps = append(gaps, gapsOn(m, w)...)
		}
	}
	windows := append(badWindows(), impl.Window{}, impl.Window{Len: 2, Cap: 3}, impl.Window{Array: 1, Len: 2, Cap: 2}, impl.Window{Start: 1, Len: 1, Cap: 1})
	numbers := []int{0, 1, 2, 3, -1, 60, 64, 65, 300, 1 << 32, 1 << 62, math.MaxInt, math.MinInt}
	edits := append(editLists(), make([]impl.Edit, impl.MaxEdits+1), make([]impl.Edit, 1000))
	lists := append(putLists(), make([]byte, 1000))
	for i, g := range gaps {
		for j, n := range numbers {
			e := impl.Edit{At: n, Take: numbers[(i+3*j)%len(numbers)], Put: lists[(i+2*j)%len(lists)]}
			if j%2 == 0 {
				e.At, e.Take = j/6, j%3
			}
			checkGapCalls(t, gapArguments{g, windows[(i+5*j)%len(windows)], n, edits[(i+j)%len(edits)], e, lists[(i+j)%len(lists)]})
		}
		for _, list := range edits {
			checkGapCalls(t, gapArguments{g: g, w: g.Store, edits: list, list: []byte{1, 2}})
		}
	}
}

// cloneEdits returns the same Edits in other memory.
func cloneEdits(list []impl.Edit) []impl.Edit {
	edits := slices.Clone(list)
	for i, e := range list {
		edits[i].Put = bytes.Clone(e.Put)
	}
	return edits
}

// equalEdits compares all bytes and numbers.
func equalEdits(a, b []impl.Edit) bool {
	return slices.EqualFunc(a, b, func(x, y impl.Edit) bool { return x.At == y.At && x.Take == y.Take && bytes.Equal(x.Put, y.Put) })
}

// checkGapCalls calls all functions with the same arguments.
func checkGapCalls(t *testing.T, x gapArguments) {
	t.Helper()
	m, list, edits, put := cloned(x.g.Memory), bytes.Clone(x.list), cloneEdits(x.edits), bytes.Clone(x.e.Put)
	kept := func() bool {
		return equalMemories(x.g.Memory, m) && bytes.Equal(x.list, list) && equalEdits(x.edits, edits) && bytes.Equal(x.e.Put, put)
	}
	fine := impl.IsGap(x.g)
	for _, c := range gapCalls() {
		ok := checkResults(t, c.name, func() []any { return c.call(x) }, kept)
		if ok && (c.needs && !fine || c.name == "NewGap" && !impl.IsMemory(m)) {
			t.Fatalf("%s of %v does not fail", c.name, x.g)
		}
		if ok && c.name == "SeenThrough" && !fitArguments(m, []impl.Window{x.w}) {
			t.Fatalf("%s of %v, %v does not fail", c.name, x.g, x.w)
		}
	}
}
