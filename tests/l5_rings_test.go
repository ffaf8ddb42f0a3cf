package tests

import (
	"bytes"
	"math"
	"slices"
	"testing"

	"loop.example/g01179/impl"
)

// ringsOn returns all Rings on a Window.
func ringsOn(w impl.Window) []impl.Ring {
	rings := []impl.Ring{}
	for first := range w.Len {
		for many := 0; many <= w.Len; many++ {
			rings = append(rings, impl.Ring{Window: w, First: first, Many: many})
		}
	}
	return rings
}

// allRings returns all Rings on a Memory.
func allRings(m impl.Memory) []impl.Ring {
	rings := []impl.Ring{}
	for _, w := range allWindows(m) {
		rings = append(rings, ringsOn(w)...)
	}
	return rings
}

// someRings returns Rings on memoryOf(64, 64) at the limits.
func someRings() []impl.Ring {
	rings := []impl.Ring{}
	for _, w := range []impl.Window{
		{Len: 64, Cap: 64}, {Array: 1, Len: 63, Cap: 64}, {Start: 1, Len: 63, Cap: 63}, {Array: 1, Start: 63, Len: 1, Cap: 1},
		{Len: 1, Cap: 64}, {Start: 7, Len: 32, Cap: 50},
	} {
		for _, first := range []int{0, 1, w.Len / 2, w.Len - 2, w.Len - 1} {
			for _, many := range []int{0, 1, 2, w.Len - first, w.Len - first + 1, w.Len - 1, w.Len} {
				if first >= 0 && first < w.Len && many <= w.Len {
					rings = append(rings, impl.Ring{Window: w, First: first, Many: many})
				}
			}
		}
	}
	return rings
}

// checkRings makes a check for all Rings on a small Memory, and for those at the limits.
func checkRings(t *testing.T, check func(t *testing.T, m impl.Memory, r impl.Ring)) {
	t.Helper()
	small, great := memoryOf(5, 2), memoryOf(64, 64)
	for _, r := range allRings(small) {
		check(t, small, r)
	}
	for _, r := range someRings() {
		check(t, great, r)
	}
}

// badRings returns Rings of all kinds that are none on memoryOf(4, 2).
func badRings() []impl.Ring {
	rings := []impl.Ring{
		{}, {Window: impl.Window{Cap: 4}}, {Window: impl.Window{Start: 4}}, {Window: impl.Window{Array: 1, Start: 1, Cap: 1}},
		{Window: impl.Window{Cap: 4}, Many: 1}, {Window: impl.Window{Cap: 4}, First: -1},
	}
	for _, w := range badWindows() {
		rings = append(rings, impl.Ring{Window: w}, impl.Ring{Window: w, Many: 1}, impl.Ring{Window: w, First: 1, Many: 1})
	}
	w := impl.Window{Len: 3, Cap: 4}
	for _, n := range []int{math.MinInt, math.MinInt + 1, -3, -1, 4, 6, 1 << 32, math.MaxInt - 1, math.MaxInt} {
		rings = append(rings, impl.Ring{Window: w, First: n}, impl.Ring{Window: w, First: n, Many: 2}, impl.Ring{Window: w, First: n, Many: 3},
			impl.Ring{Window: w, Many: n}, impl.Ring{Window: w, First: 2, Many: n}, impl.Ring{Window: w, First: n, Many: n})
	}
	// There are 3 slots, so that Many can be 3 and First cannot; the room has none.
	return append(rings, impl.Ring{Window: w, First: 3}, impl.Ring{Window: w, First: 3, Many: 3}, impl.Ring{Window: w, First: 3, Many: 1})
}

// checkBadRings makes a check for Rings that are not valid, and for such Memories.
func checkBadRings(t *testing.T, check func(t *testing.T, m impl.Memory, r impl.Ring)) {
	t.Helper()
	for _, r := range badRings() {
		check(t, memoryOf(4, 2), r)
	}
	for _, m := range append(badMemories(), impl.Memory{}) {
		check(t, m, impl.Ring{Window: impl.Window{Len: 1, Cap: 1}})
		check(t, m, impl.Ring{Window: impl.Window{Len: 2, Cap: 2}, First: 1, Many: 1})
	}
}

// slotOf returns the slot that comes n slots behind First, counted one by one.
func slotOf(r impl.Ring, n int) int {
	slot := r.First
	for range n {
		slot++
		if slot == r.Window.Len {
			slot = 0
		}
	}
	return slot
}

// elementsOf returns the elements of a Ring, taken slot by slot.
func elementsOf(m impl.Memory, r impl.Ring) []byte {
	list := []byte{}
	for i := range r.Many {
		list = append(list, m.Arrays[r.Window.Array][r.Window.Start+slotOf(r, i)])
	}
	return list
}

// written returns the Memory in which a slot of a Ring has a byte.
func written(m impl.Memory, r impl.Ring, slot int, b byte) impl.Memory {
	m = cloned(m)
	m.Arrays[r.Window.Array][r.Window.Start+slot] = b
	return m
}

// checkElements checks that a Ring is valid, and what its elements are.
func checkElements(t *testing.T, name string, m impl.Memory, r impl.Ring, want []byte) {
	t.Helper()
	if is, ok := impl.IsRing(m, r); !is || !ok {
		t.Fatalf("%s: %v is no Ring on %v", name, r, m)
	}
	if got, ok := impl.RingBytes(m, r); !ok || !bytes.Equal(got, want) {
		t.Fatalf("%s: %v on %v has the elements %v, %v, not %v", name, r, m, got, ok, want)
	}
}

func TestIsRing(t *testing.T) {
	m := memoryOf(4, 2)
	numbers := []int{math.MinInt, math.MinInt + 1, -2, -1, 0, 1, 2, 3, 4, 5, 1 << 32, math.MaxInt - 1, math.MaxInt}
	for _, w := range append(allWindows(m), badWindows()...) {
		window, _ := impl.IsWindow(m, w)
		for _, first := range numbers {
			for _, many := range numbers {
				r := impl.Ring{Window: w, First: first, Many: many}
				want := window && w.Len >= 1 && first >= 0 && first <= w.Len-1 && many >= 0 && many <= w.Len
				if is, ok := impl.IsRing(m, r); !ok || is != want {
					t.Fatalf("IsRing of %v = %v, %v", r, is, ok)
				}
			}
		}
	}
	checkRings(t, func(t *testing.T, m impl.Memory, r impl.Ring) {
		if is, ok := impl.IsRing(m, r); !is || !ok {
			t.Fatalf("IsRing of %v = %v, %v", r, is, ok)
		}
	})
	checkBadRings(t, func(t *testing.T, m impl.Memory, r impl.Ring) {
		if is, ok := impl.IsRing(m, r); is || ok != impl.IsMemory(m) {
			t.Fatalf("IsRing of %v on %v = %v, %v", r, m, is, ok)
		}
	})
}

func TestNewRing(t *testing.T) {
	for _, m := range []impl.Memory{memoryOf(4, 2), memoryOf(1), memoryOf(3, impl.MaxSize), fullMemory()} {
		for _, w := range allWindows(m) {
			r, ok := impl.NewRing(m, w)
			if w.Len == 0 {
				if ok || r != (impl.Ring{}) {
					t.Fatalf("NewRing without slots, on %v = %v, %v", w, r, ok)
				}
				continue
			}
			if !ok || r != (impl.Ring{Window: w}) {
				t.Fatalf("NewRing on %v = %v, %v", w, r, ok)
			}
			checkElements(t, "NewRing", m, r, nil)
		}
	}
	checkBadRings(t, func(t *testing.T, m impl.Memory, r impl.Ring) {
		if fitArguments(m, []impl.Window{r.Window}) && r.Window.Len > 0 {
			return
		}
		if got, ok := impl.NewRing(m, r.Window); ok || got != (impl.Ring{}) {
			t.Fatalf("NewRing on %v = %v, %v", r.Window, got, ok)
		}
	})
}

func TestRingBytesAndParts(t *testing.T) {
	checkRings(t, checkParts)
	full := fullMemory()
	for _, r := range allRings(full) {
		checkParts(t, full, r)
	}
	checkBadRings(t, func(t *testing.T, m impl.Memory, r impl.Ring) {
		if list, ok := impl.RingBytes(m, r); ok || len(list) != 0 {
			t.Fatalf("RingBytes of %v = %v, %v", r, list, ok)
		}
		if first, second, ok := impl.RingParts(m, r); ok || first != (impl.Window{}) || second != (impl.Window{}) {
			t.Fatalf("RingParts of %v = %v, %v, %v", r, first, second, ok)
		}
	})
}

// checkParts compares the elements with those of both parts, which have no room, so that nothing that
// is appended to one of them is seen by the other one, or by the Ring.
func checkParts(t *testing.T, m impl.Memory, r impl.Ring) {
	t.Helper()
	want := elementsOf(m, r)
	checkElements(t, "RingBytes", m, r, want)
	first, second, ok := impl.RingParts(m, r)
	start, n := r.Window.Start, 0
	for n < r.Many && r.First+n < r.Window.Len {
		n++
	}
	one := impl.Window{Array: r.Window.Array, Start: start + r.First, Len: n, Cap: n}
	two := impl.Window{Array: r.Window.Array, Start: start, Len: r.Many - n, Cap: r.Many - n}
	if !ok || first != one || second != two {
		t.Fatalf("RingParts of %v = %v, %v, %v, not %v, %v", r, first, second, ok, one, two)
	}
	head, fine := impl.WindowBytes(m, first)
	tail, good := impl.WindowBytes(m, second)
	if !fine || !good || !bytes.Equal(append(head, tail...), want) {
		t.Fatalf("RingParts of %v see %v, %v, not %v", r, head, tail, want)
	}
	for _, part := range []impl.Window{first, second} {
		got, v, ok := impl.AppendBytes(m, part, []byte{200})
		if !ok && (len(m.Arrays) == impl.MaxArrays || part.Len == impl.MaxSize) {
			continue // without room it would have to move, and cannot
		}
		if !ok || v.Array != len(m.Arrays) || !equalMemories(impl.Memory{Arrays: got.Arrays[:len(m.Arrays)]}, m) {
			t.Fatalf("appended to the part %v of %v: %v, %v, %v", part, r, got, v, ok)
		}
	}
}

func TestRingPartsByHand(t *testing.T) {
	m := impl.Memory{Arrays: [][]byte{{9}, {1, 2, 3, 4, 5, 6}}}
	w := impl.Window{Array: 1, Start: 1, Len: 4, Cap: 5} // the slots 2, 3, 4, 5
	for _, c := range []struct {
		first, many int
		one, two    impl.Window
		list        string
	}{
		{0, 0, impl.Window{Array: 1, Start: 1}, impl.Window{Array: 1, Start: 1}, ""},
		{3, 0, impl.Window{Array: 1, Start: 4}, impl.Window{Array: 1, Start: 1}, ""},
		{3, 1, impl.Window{Array: 1, Start: 4, Len: 1, Cap: 1}, impl.Window{Array: 1, Start: 1}, "\x05"},
		{3, 2, impl.Window{Array: 1, Start: 4, Len: 1, Cap: 1}, impl.Window{Array: 1, Start: 1, Len: 1, Cap: 1}, "\x05\x02"},
		{3, 4, impl.Window{Array: 1, Start: 4, Len: 1, Cap: 1}, impl.Window{Array: 1, Start: 1, Len: 3, Cap: 3}, "\x05\x02\x03\x04"},
		{0, 4, impl.Window{Array: 1, Start: 1, Len: 4, Cap: 4}, impl.Window{Array: 1, Start: 1}, "\x02\x03\x04\x05"},
		{1, 3, impl.Window{Array: 1, Start: 2, Len: 3, Cap: 3}, impl.Window{Array: 1, Start: 1}, "\x03\x04\x05"},
		{1, 4, impl.Window{Array: 1, Start: 2, Len: 3, Cap: 3}, impl.Window{Array: 1, Start: 1, Len: 1, Cap: 1}, "\x03\x04\x05\x02"},
		{2, 3, impl.Window{Array: 1, Start: 3, Len: 2, Cap: 2}, impl.Window{Array: 1, Start: 1, Len: 1, Cap: 1}, "\x04\x05\x02"},
	} {
		r := impl.Ring{Window: w, First: c.first, Many: c.many}
		checkElements(t, "by hand", m, r, []byte(c.list))
		if one, two, ok := impl.RingParts(m, r); !ok || one != c.one || two != c.two {
			t.Errorf("RingParts of %v = %v, %v, %v", r, one, two, ok)
		}
	}
}

func TestPushing(t *testing.T) {
	checkRings(t, checkPushes)
	checkBadRings(t, checkPushesFail)
}

// checkPushesFail checks that nothing can be pushed to a Ring.
func checkPushesFail(t *testing.T, m impl.Memory, r impl.Ring) {
	t.Helper()
	if got, v, ok := impl.PushBack(m, r, 200); ok || len(got.Arrays) != 0 || v != (impl.Ring{}) {
		t.Fatalf("PushBack to %v = %v, %v, %v", r, got, v, ok)
	}
	if got, v, ok := impl.PushFront(m, r, 200); ok || len(got.Arrays) != 0 || v != (impl.Ring{}) {
		t.Fatalf("PushFront to %v = %v, %v, %v", r, got, v, ok)
	}
}

// checkPushes pushes a byte to each end, and pops it again: just its slot is another one then.
func checkPushes(t *testing.T, m impl.Memory, r impl.Ring) {
	t.Helper()
	if r.Many == r.Window.Len {
		checkPushesFail(t, m, r)
		return
	}
	list, before := elementsOf(m, r), slotOf(r, r.Window.Len-1)
	back := impl.Ring{Window: r.Window, First: r.First, Many: r.Many + 1}
	got, v, ok := impl.PushBack(m, r, 200)
	if !ok || v != back || !equalMemories(got, written(m, r, slotOf(r, r.Many), 200)) {
		t.Fatalf("PushBack to %v = %v, %v, %v", r, got, v, ok)
	}
	checkElements(t, "PushBack", got, v, slices.Concat(list, []byte{200}))
	b, less, ok := impl.PopBack(got, v)
	if !ok || b != 200 || less != r {
		t.Fatalf("PopBack behind PushBack to %v = %d, %v, %v", r, b, less, ok)
	}
	checkElements(t, "PopBack behind PushBack", got, less, list)
	front := impl.Ring{Window: r.Window, First: before, Many: r.Many + 1}
	got, v, ok = impl.PushFront(m, r, 200)
	if !ok || v != front || !equalMemories(got, written(m, r, before, 200)) {
		t.Fatalf("PushFront to %v = %v, %v, %v", r, got, v, ok)
	}
	checkElements(t, "PushFront", got, v, slices.Concat([]byte{200}, list))
	b, less, ok = impl.PopFront(got, v)
	if !ok || b != 200 || less != r {
		t.Fatalf("PopFront behind PushFront to %v = %d, %v, %v", r, b, less, ok)
	}
	checkElements(t, "PopFront behind PushFront", got, less, list)
}

func TestPopping(t *testing.T) {
	checkRings(t, checkPops)
	checkBadRings(t, checkPopsFail)
}

// checkPopsFail checks that nothing can be popped from a Ring.
func checkPopsFail(t *testing.T, m impl.Memory, r impl.Ring) {
	t.Helper()
	if b, v, ok := impl.PopFront(m, r); ok || b != 0 || v != (impl.Ring{}) {
		t.Fatalf("PopFront of %v = %d, %v, %v", r, b, v, ok)
	}
	if b, v, ok := impl.PopBack(m, r); ok || b != 0 || v != (impl.Ring{}) {
		t.Fatalf("PopBack of %v = %d, %v, %v", r, b, v, ok)
	}
}

func checkPops(t *testing.T, m impl.Memory, r impl.Ring) {
	t.Helper()
	if r.Many == 0 {
		checkPopsFail(t, m, r)
		return
	}
	list, last := elementsOf(m, r), r.Many-1
	b, v, ok := impl.PopFront(m, r)
	if !ok || b != list[0] || v != (impl.Ring{Window: r.Window, First: slotOf(r, 1), Many: last}) {
		t.Fatalf("PopFront of %v = %d, %v, %v", r, b, v, ok)
	}
	checkElements(t, "PopFront", m, v, list[1:])
	b, v, ok = impl.PopBack(m, r)
	if !ok || b != list[last] || v != (impl.Ring{Window: r.Window, First: r.First, Many: last}) {
		t.Fatalf("PopBack of %v = %d, %v, %v", r, b, v, ok)
	}
	checkElements(t, "PopBack", m, v, list[:last])
}

// TestRingsByHand has the cases at both ends of the slots: a full Ring that begins at its last slot,
// an empty one there, and one of a single slot.
func TestRingsByHand(t *testing.T) {
	m := impl.Memory{Arrays: [][]byte{{1, 2, 3, 4, 5}}}
	w := impl.Window{Start: 1, Len: 3, Cap: 4} // the slots 2, 3, 4, with a room of 5
	full := impl.Ring{Window: w, First: 2, Many: 3}
	checkElements(t, "full at the last slot", m, full, []byte{4, 2, 3})
	checkPushesFail(t, m, full)
	if b, r, ok := impl.PopFront(m, full); !ok || b != 4 || r != (impl.Ring{Window: w, Many: 2}) {
		t.Error("PopFront at the last slot", b, r, ok)
	}
	if b, r, ok := impl.PopBack(m, full); !ok || b != 3 || r != (impl.Ring{Window: w, First: 2, Many: 2}) {
		t.Error("PopBack at the last slot", b, r, ok)
	}
	// The First of an empty Ring counts: it tells where the next element comes.
	none := impl.Ring{Window: w, First: 2}
	checkPopsFail(t, m, none)
	got, r, ok := impl.PushBack(m, none, 9)
	if !ok || r != (impl.Ring{Window: w, First: 2, Many: 1}) || !bytes.Equal(got.Arrays[0], []byte{1, 2, 3, 9, 5}) {
		t.Error("PushBack to an empty Ring", got, r, ok)
	}
	got, r, ok = impl.PushFront(m, none, 9)
	if !ok || r != (impl.Ring{Window: w, First: 1, Many: 1}) || !bytes.Equal(got.Arrays[0], []byte{1, 2, 9, 4, 5}) {
		t.Error("PushFront to an empty Ring", got, r, ok)
	}
	got, r, ok = impl.PushFront(m, impl.Ring{Window: w}, 9)
	if !ok || r != (impl.Ring{Window: w, First: 2, Many: 1}) || !bytes.Equal(got.Arrays[0], []byte{1, 2, 3, 9, 5}) {
		t.Error("PushFront at the slot 0", got, r, ok)
	}
	// Popped until it is empty, First stays where it has come.
	if b, r, ok := impl.PopFront(m, impl.Ring{Window: w, First: 1, Many: 1}); !ok || b != 3 || r != none {
		t.Error("PopFront of the only element", b, r, ok)
	}
	if b, r, ok := impl.PopBack(m, impl.Ring{Window: w, First: 2, Many: 1}); !ok || b != 4 || r != none {
		t.Error("PopBack of the only element", b, r, ok)
	}
	single := impl.Window{Start: 4, Len: 1, Cap: 1}
	got, r, ok = impl.PushFront(m, impl.Ring{Window: single}, 9)
	if !ok || r != (impl.Ring{Window: single, Many: 1}) || !bytes.Equal(got.Arrays[0], []byte{1, 2, 3, 4, 9}) {
		t.Error("a single slot", got, r, ok)
	}
	if b, r, ok := impl.PopFront(got, r); !ok || b != 9 || r != (impl.Ring{Window: single}) {
		t.Error("the element of a single slot", b, r, ok)
	}
}

// TestWhatIsPushedIsPopped pushes and pops at both ends by a fixed rule, and has a plain list beside
// the Ring.
func TestWhatIsPushedIsPopped(t *testing.T) {
	for _, w := range []impl.Window{{Start: 2, Len: 1, Cap: 3}, {Start: 1, Len: 2, Cap: 2}, {Len: 5, Cap: 6}, {Array: 1, Start: 1, Len: 63, Cap: 63}} {
		m := memoryOf(6, 64)
		r, list, seed := impl.Ring{Window: w, First: w.Len - 1}, []byte{}, uint32(7)
		for i := range 3000 {
			seed = seed*1664525 + 1013904223
			b, front := byte(seed>>16), seed>>24&1 == 0
			// The Ring fills and empties in turn, as pushes are three times as many for a while, and then pops.
			pushes := (seed>>25&3 == 0) == (i/200%2 == 1)
			switch {
			case pushes && len(list) < w.Len && front:
				m, r = mustPush(t, impl.PushFront, m, r, b)
				list = slices.Concat([]byte{b}, list)
			case pushes && len(list) < w.Len:
				m, r = mustPush(t, impl.PushBack, m, r, b)
				list = slices.Concat(list, []byte{b})
			case !pushes && len(list) > 0 && front:
				r = mustPop(t, impl.PopFront, m, r, list[0])
				list = list[1:]
			case !pushes && len(list) > 0:
				r = mustPop(t, impl.PopBack, m, r, list[len(list)-1])
				list = list[:len(list)-1]
			}
			checkElements(t, "pushed and popped", m, r, list)
			checkOnlySlots(t, memoryOf(6, 64), m, w)
		}
	}
}

// checkOnlySlots checks that two Memories differ in places that a Window sees only.
func checkOnlySlots(t *testing.T, m, next impl.Memory, w impl.Window) {
	t.Helper()
	want := cloned(m)
	copy(want.Arrays[w.Array][w.Start:w.Start+w.Len], seenIn(next, w))
	if !equalMemories(next, want) {
		t.Fatalf("other places than those of %v are written: %v", w, next)
	}
}

func mustPush(t *testing.T, push func(impl.Memory, impl.Ring, byte) (impl.Memory, impl.Ring, bool), m impl.Memory, r impl.Ring, b byte) (impl.Memory, impl.Ring) {
	t.Helper()
	got, v, ok := push(m, r, b)
	if !ok {
		t.Fatalf("%d cannot be pushed to %v", b, r)
	}
	return got, v
}

func mustPop(t *testing.T, pop func(impl.Memory, impl.Ring) (byte, impl.Ring, bool), m impl.Memory, r impl.Ring, want byte) impl.Ring {
	t.Helper()
	b, v, ok := pop(m, r)
	if !ok || b != want {
		t.Fatalf("popped from %v is %d, %v, not %d", r, b, ok, want)
	}
	return v
}

// pushedLists returns lists of bytes for PushAll, up to MaxSize of them.
func pushedLists() [][]byte {
	long := []byte{}
	for i := range impl.MaxSize {
		long = append(long, byte(190+i))
	}
	return [][]byte{nil, {}, {200}, {0, 0}, {201, 202, 203}, long[:4], long[:5], long[:6], long[:13], long[:63], long}
}

func TestPushAll(t *testing.T) {
	checkRings(t, checkPushAll)
	for _, list := range append(pushedLists(), make([]byte, impl.MaxSize+1)) {
		checkBadRings(t, func(t *testing.T, m impl.Memory, r impl.Ring) { checkPushAllFails(t, m, r, list) })
	}
	checkRings(t, func(t *testing.T, m impl.Memory, r impl.Ring) {
		checkPushAllFails(t, m, r, make([]byte, impl.MaxSize+1))
		checkPushAllFails(t, m, r, make([]byte, 1000))
	})
}

func checkPushAllFails(t *testing.T, m impl.Memory, r impl.Ring, list []byte) {
	t.Helper()
	if got, v, n, ok := impl.PushAll(m, r, list); ok || len(got.Arrays) != 0 || v != (impl.Ring{}) || n != 0 {
		t.Fatalf("PushAll of %d bytes to %v = %v, %v, %d, %v", len(list), r, got, v, n, ok)
	}
}

// checkPushAll pushes the bytes one by one, slot by slot, and compares what is there behind them.
func checkPushAll(t *testing.T, m impl.Memory, r impl.Ring) {
	t.Helper()
	for _, list := range pushedLists() {
		want, v, many := cloned(m), r, 0
		for _, b := range list {
			if v.Many == v.Window.Len {
				v.First, v.Many = slotOf(v, 1), v.Many-1
				many++
			}
			want.Arrays[v.Window.Array][v.Window.Start+slotOf(v, v.Many)] = b
			v.Many++
		}
		got, u, n, ok := impl.PushAll(m, r, list)
		if !ok || u != v || n != many || !equalMemories(got, want) {
			t.Fatalf("PushAll of %v to %v = %v, %v, %d, %v, not %v, %v, %d", list, r, got, u, n, ok, want, v, many)
		}
		all := slices.Concat(elementsOf(m, r), list)
		checkElements(t, "PushAll", got, u, all[n:])
		if n != max(0, len(all)-r.Window.Len) {
			t.Fatalf("PushAll of %d bytes to %v pops %d", len(list), r, n)
		}
	}
}

func TestPushAllByHand(t *testing.T) {
	m := impl.Memory{Arrays: [][]byte{{1, 2, 3, 4, 5}}}
	w := impl.Window{Start: 1, Len: 3, Cap: 4}
	got, r, n, ok := impl.PushAll(m, impl.Ring{Window: w, First: 2, Many: 3}, []byte{7, 8})
	if !ok || n != 2 || r != (impl.Ring{Window: w, First: 1, Many: 3}) || !bytes.Equal(got.Arrays[0], []byte{1, 8, 3, 7, 5}) {
		t.Error("to a full Ring at the last slot", got, r, n, ok)
	}
	got, r, n, ok = impl.PushAll(m, impl.Ring{Window: w, First: 2, Many: 3}, nil)
	if !ok || n != 0 || r != (impl.Ring{Window: w, First: 2, Many: 3}) || !equalMemories(got, m) {
		t.Error("nothing to a full Ring", got, r, n, ok)
	}
	// Elements that were pushed by the same call are popped, too.
	got, r, n, ok = impl.PushAll(m, impl.Ring{Window: impl.Window{Len: 1, Cap: 5}, Many: 1}, []byte{7, 8, 9})
	if !ok || n != 3 || r != (impl.Ring{Window: impl.Window{Len: 1, Cap: 5}, Many: 1}) || !bytes.Equal(got.Arrays[0], []byte{9, 2, 3, 4, 5}) {
		t.Error("to a single slot", got, r, n, ok)
	}
	// The list lies in the Memory itself, in the slots to which it is pushed.
	got, r, n, ok = impl.PushAll(m, impl.Ring{Window: impl.Window{Len: 5, Cap: 5}, First: 1}, m.Arrays[0])
	if !ok || n != 0 || r != (impl.Ring{Window: impl.Window{Len: 5, Cap: 5}, First: 1, Many: 5}) || !bytes.Equal(got.Arrays[0], []byte{5, 1, 2, 3, 4}) {
		t.Error("own bytes", got, r, n, ok)
	}
	if !bytes.Equal(m.Arrays[0], []byte{1, 2, 3, 4, 5}) {
		t.Error("the argument is changed", m)
	}
}

func TestTurnWindow(t *testing.T) {
	for _, m := range []impl.Memory{memoryOf(5, 2), memoryOf(1), fullMemory()} {
		for _, w := range allWindows(m) {
			checkTurns(t, m, w)
		}
	}
	for _, pair := range somePairs() {
		checkTurns(t, memoryOf(64, 64), pair[0])
	}
	for _, n := range []int{0, 1, 2} {
		for _, w := range badWindows() {
			checkTurnFails(t, memoryOf(4, 2), w, n)
		}
		for _, m := range append(badMemories(), impl.Memory{}) {
			checkTurnFails(t, m, impl.Window{}, n)
			checkTurnFails(t, m, impl.Window{Len: 1, Cap: 1}, n)
		}
	}
}

func checkTurnFails(t *testing.T, m impl.Memory, w impl.Window, n int) {
	t.Helper()
	if got, ok := impl.TurnWindow(m, w, n); ok || len(got.Arrays) != 0 {
		t.Fatalf("TurnWindow of %v by %d = %v, %v", w, n, got, ok)
	}
}

// checkTurns turns a Window by all numbers, also by three reversals, and there and back.
func checkTurns(t *testing.T, m impl.Memory, w impl.Window) {
	t.Helper()
	for n := 0; n <= w.Len; n++ {
		want := cloned(m)
		for i, b := range seenIn(m, w) {
			place := i - n
			if place < 0 {
				place += w.Len
			}
			want.Arrays[w.Array][w.Start+place] = b
		}
		got, ok := impl.TurnWindow(m, w, n)
		if !ok || !equalMemories(got, want) || !equalMemories(got, reversedThrice(t, m, w, n)) {
			t.Fatalf("TurnWindow of %v by %d = %v, %v, not %v", w, n, got, ok, want)
		}
		if back, ok := impl.TurnWindow(got, w, w.Len-n); !ok || !equalMemories(back, m) {
			t.Fatalf("TurnWindow of %v by %d and back = %v, %v", w, n, back, ok)
		}
	}
	for _, n := range []int{math.MinInt, -w.Len - 1, -1, w.Len + 1, 2*w.Len + 1, 1 << 32, math.MaxInt} {
		checkTurnFails(t, m, w, n)
	}
}

// reversedThrice reverses the first n bytes that a Window sees, the others, and all.
func reversedThrice(t *testing.T, m impl.Memory, w impl.Window, n int) impl.Memory {
	t.Helper()
	for _, ends := range [][2]int{{0, n}, {n, w.Len}, {0, w.Len}} {
		part, one := impl.SliceTwo(m, w, ends[0], ends[1])
		next, two := impl.ReverseWindow(m, part)
		if !one || !two {
			t.Fatalf("%v is not reversed from %d to %d", w, ends[0], ends[1])
		}
		m = next
	}
	return m
}

func TestStraightRing(t *testing.T) {
	checkRings(t, checkStraight)
	checkBadRings(t, func(t *testing.T, m impl.Memory, r impl.Ring) {
		if got, v, ok := impl.StraightRing(m, r); ok || len(got.Arrays) != 0 || v != (impl.Ring{}) {
			t.Fatalf("StraightRing of %v = %v, %v, %v", r, got, v, ok)
		}
	})
	// The bytes that are no elements are turned, too, and the room is not.
	m := impl.Memory{Arrays: [][]byte{{1, 2, 3, 4, 5}}}
	w := impl.Window{Start: 1, Len: 3, Cap: 4}
	got, r, ok := impl.StraightRing(m, impl.Ring{Window: w, First: 2, Many: 1})
	if !ok || r != (impl.Ring{Window: w, Many: 1}) || !bytes.Equal(got.Arrays[0], []byte{1, 4, 2, 3, 5}) {
		t.Error("one element at the last slot", got, r, ok)
	}
}

func checkStraight(t *testing.T, m impl.Memory, r impl.Ring) {
	t.Helper()
	want := cloned(m)
	for i := range r.Window.Len {
		want.Arrays[r.Window.Array][r.Window.Start+i] = m.Arrays[r.Window.Array][r.Window.Start+slotOf(r, i)]
	}
	got, v, ok := impl.StraightRing(m, r)
	if !ok || v != (impl.Ring{Window: r.Window, Many: r.Many}) || !equalMemories(got, want) {
		t.Fatalf("StraightRing of %v = %v, %v, %v, not %v", r, got, v, ok, want)
	}
	checkElements(t, "StraightRing", got, v, elementsOf(m, r))
	if again, u, ok := impl.StraightRing(got, v); !ok || u != v || !equalMemories(again, got) {
		t.Fatalf("StraightRing of %v twice = %v, %v, %v", r, again, u, ok)
	}
}

func TestMoveRing(t *testing.T) {
	checkRings(t, checkMoves)
	for _, n := range []int{1, 2, 4, impl.MaxSize} {
		checkBadRings(t, func(t *testing.T, m impl.Memory, r impl.Ring) { checkMoveFails(t, m, r, n) })
		for _, r := range allRings(fullMemory()) {
			checkMoveFails(t, fullMemory(), r, n)
		}
	}
	m := memoryOf(slices.Repeat([]int{3}, impl.MaxArrays-1)...)
	for _, r := range allRings(m) {
		checkMoved(t, m, r, 3)
	}
}

func checkMoveFails(t *testing.T, m impl.Memory, r impl.Ring, n int) {
	t.Helper()
	if got, v, ok := impl.MoveRing(m, r, n); ok || len(got.Arrays) != 0 || v != (impl.Ring{}) {
		t.Fatalf("MoveRing of %v to %d bytes = %v, %v, %v", r, n, got, v, ok)
	}
}

// checkMoves moves a Ring to arrays of all sizes that are near to a limit, and of others.
func checkMoves(t *testing.T, m impl.Memory, r impl.Ring) {
	t.Helper()
	for _, n := range []int{1, 2, 3, 4, r.Many, r.Many + 1, r.Window.Len, 40, impl.MaxSize - 1, impl.MaxSize} {
		if n >= r.Many && n >= 1 && n <= impl.MaxSize {
			checkMoved(t, m, r, n)
		}
	}
	for _, n := range []int{math.MinInt, -1, 0, r.Many - 1, impl.MaxSize + 1, 1<<32 + 5, math.MaxInt} {
		if n < r.Many || n < 1 || n > impl.MaxSize {
			checkMoveFails(t, m, r, n)
		}
	}
}

func checkMoved(t *testing.T, m impl.Memory, r impl.Ring, n int) {
	t.Helper()
	list := elementsOf(m, r)
	want := cloned(m)
	want.Arrays = append(want.Arrays, append(bytes.Clone(list), make([]byte, n-r.Many)...))
	slots := impl.Window{Array: len(m.Arrays), Len: n, Cap: n}
	got, v, ok := impl.MoveRing(m, r, n)
	if !ok || v != (impl.Ring{Window: slots, Many: r.Many}) || !equalMemories(got, want) {
		t.Fatalf("MoveRing of %v to %d bytes = %v, %v, %v, not %v", r, n, got, v, ok, want)
	}
	checkElements(t, "MoveRing", got, v, list)
	checkElements(t, "the Ring that was moved", got, r, list)
	if same, ok := impl.SameRings(got, r, v); !same || !ok {
		t.Fatalf("%v moved to %d bytes is another Ring: %v, %v", r, n, same, ok)
	}
}

func TestFindInRing(t *testing.T) {
	checkRings(t, checkFinds)
	for _, r := range allRings(sameTexts()) {
		checkFinds(t, sameTexts(), r)
	}
	checkBadRings(t, func(t *testing.T, m impl.Memory, r impl.Ring) {
		for b := range 4 {
			if i, ok := impl.FindInRing(m, r, byte(b)); ok || i != 0 {
				t.Fatalf("FindInRing of %v = %d, %v", r, i, ok)
			}
		}
	})
	// The first element is told, not the first slot; what is no element is not found.
	m := impl.Memory{Arrays: [][]byte{{5, 6, 5, 7}}}
	w := impl.Window{Len: 3, Cap: 4}
	for b, want := range map[byte]int{5: 0, 6: -1, 7: -1, 0: -1} {
		if i, ok := impl.FindInRing(m, impl.Ring{Window: w, First: 2, Many: 2}, b); !ok || i != want {
			t.Errorf("FindInRing of %d = %d, %v", b, i, ok)
		}
	}
	if i, ok := impl.FindInRing(m, impl.Ring{Window: w, First: 2, Many: 3}, 6); !ok || i != 2 {
		t.Error("FindInRing behind the last slot", i, ok)
	}
}

func checkFinds(t *testing.T, m impl.Memory, r impl.Ring) {
	t.Helper()
	list := elementsOf(m, r)
	for b := range 256 {
		want := -1
		for i := r.Many - 1; i >= 0; i-- {
			if list[i] == byte(b) {
				want = i
			}
		}
		if i, ok := impl.FindInRing(m, r, byte(b)); !ok || i != want {
			t.Fatalf("FindInRing of %d in %v = %d, %v, not %d", b, r, i, ok, want)
		}
	}
}

func TestSameRings(t *testing.T) {
	m := impl.Memory{Arrays: [][]byte{{1, 2, 1, 0}, {2, 1, 2}}}
	rings := allRings(m)
	for _, a := range rings {
		for _, b := range rings {
			want := string(elementsOf(m, a)) == string(elementsOf(m, b))
			if same, ok := impl.SameRings(m, a, b); !ok || same != want {
				t.Fatalf("SameRings of %v, %v = %v, %v", a, b, same, ok)
			}
		}
	}
	good := impl.Ring{Window: impl.Window{Len: 1, Cap: 1}}
	checkBadRings(t, func(t *testing.T, m impl.Memory, r impl.Ring) {
		for _, pair := range [][2]impl.Ring{{good, r}, {r, good}, {r, r}} {
			if same, ok := impl.SameRings(m, pair[0], pair[1]); same || ok {
				t.Fatalf("SameRings of %v, %v = %v, %v", pair[0], pair[1], same, ok)
			}
		}
	})
}

// ringArguments are what the functions of chapter 5 have as arguments.
type ringArguments struct {
	m    impl.Memory
	a, b impl.Ring
	list []byte
	n    int
}

// ringCall calls one function of chapter 5 with those of the arguments that it has. It fails unless
// the first of the two Rings, as many as it needs, are valid.
type ringCall struct {
	name  string
	needs int
	call  func(x ringArguments) []any
}

// ringCalls has all functions of chapter 5.
func ringCalls() []ringCall {
	type arguments = ringArguments
	return []ringCall{
		{"IsRing", 0, func(x arguments) []any { return resultsOf(impl.IsRing(x.m, x.a)) }},
		{"NewRing", 0, func(x arguments) []any { return resultsOf(impl.NewRing(x.m, x.a.Window)) }},
		{"RingBytes", 1, func(x arguments) []any { return resultsOf(impl.RingBytes(x.m, x.a)) }},
		{"PushBack", 1, func(x arguments) []any { return resultsOf(impl.PushBack(x.m, x.a, byte(x.n))) }},
		{"PushFront", 1, func(x arguments) []any { return resultsOf(impl.PushFront(x.m, x.a, byte(x.n))) }},
		{"PopFront", 1, func(x arguments) []any { return resultsOf(impl.PopFront(x.m, x.a)) }},
		{"PopBack", 1, func(x arguments) []any { return resultsOf(impl.PopBack(x.m, x.a)) }},
		{"PushAll", 1, func(x arguments) []any { return resultsOf(impl.PushAll(x.m, x.a, x.list)) }},
		{"RingParts", 1, func(x arguments) []any { return resultsOf(impl.RingParts(x.m, x.a)) }},
		{"TurnWindow", 0, func(x arguments) []any { return resultsOf(impl.TurnWindow(x.m, x.a.Window, x.n)) }},
		{"StraightRing", 1, func(x arguments) []any { return resultsOf(impl.StraightRing(x.m, x.a)) }},
		{"MoveRing", 1, func(x arguments) []any { return resultsOf(impl.MoveRing(x.m, x.a, x.n)) }},
		{"FindInRing", 1, func(x arguments) []any { return resultsOf(impl.FindInRing(x.m, x.a, byte(x.n))) }},
		{"SameRings", 2, func(x arguments) []any { return resultsOf(impl.SameRings(x.m, x.a, x.b)) }},
	}
}

// TestChapter5ReturnsForAll calls each function with arguments of all kinds, valid ones and others.
func TestChapter5ReturnsForAll(t *testing.T) {
	memories := append(badMemories(), impl.Memory{}, memoryOf(4, 2), memoryOf(64, 64), fullMemory(), overlaid())
	w := impl.Window{Start: 1, Len: 2, Cap: 3}
	rings := append(badRings(), impl.Ring{Window: w}, impl.Ring{Window: w, First: 1, Many: 1}, impl.Ring{Window: w, First: 1, Many: 2},
		impl.Ring{Window: impl.Window{Array: 1, Len: 1, Cap: 2}}, impl.Ring{Window: impl.Window{Array: 1, Len: 2, Cap: 2}, First: 1, Many: 2})
	numbers := []int{0, 1, 2, 3, -1, 64, 65, 300, 1 << 32, math.MaxInt, math.MinInt}
	lists := append(pushedLists(), make([]byte, impl.MaxSize+1), make([]byte, 1000))
	for _, m := range memories {
		for i, a := range rings {
			for j, n := range numbers {
				checkRingCalls(t, ringArguments{m, a, rings[(7*i+j)%len(rings)], lists[(i+j)%len(lists)], n})
				checkRingCalls(t, ringArguments{m, a, rings[len(rings)-1-j%5], lists[(i+2*j)%len(lists)], n})
			}
		}
	}
}

// checkRingCalls calls all functions with the same arguments.
func checkRingCalls(t *testing.T, x ringArguments) {
	t.Helper()
	m, list := cloned(x.m), bytes.Clone(x.list)
	kept := func() bool { return equalMemories(x.m, m) && bytes.Equal(x.list, list) }
	one, _ := impl.IsRing(m, x.a)
	two, _ := impl.IsRing(m, x.b)
	for _, c := range ringCalls() {
		ok := checkResults(t, c.name, func() []any { return c.call(x) }, kept)
		if ok && (c.needs > 0 && !one || c.needs > 1 && !two || !fitArguments(m, nil)) {
			t.Fatalf("%s of %v, %v on %v does not fail", c.name, x.a, x.b, m)
		}
		if ok && (c.name == "NewRing" || c.name == "TurnWindow") && !fitArguments(m, []impl.Window{x.a.Window}) {
			t.Fatalf("%s of %v on %v does not fail", c.name, x.a.Window, m)
		}
	}
}
