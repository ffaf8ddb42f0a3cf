package tests

import (
	"bytes"
	"math"
	"slices"
	"testing"

	"loop.example/g01179/impl"
)

// ropeOf returns the Rope of some parts.
func ropeOf(parts ...impl.Window) impl.Rope { return impl.Rope{Parts: parts} }

// equalRopes compares all parts; nil and empty slices are the same.
func equalRopes(a, b impl.Rope) bool { return slices.Equal(a.Parts, b.Parts) }

// isZeroRope reports whether a Rope is the one that comes with a failure.
func isZeroRope(r impl.Rope) bool { return len(r.Parts) == 0 }

// pickedRopes returns Ropes on a Memory that a fixed rule picks, of no part up to MaxParts: many of
// the parts see no byte, and many begin at the place behind the part ahead of them.
func pickedRopes(m impl.Memory, many int) []impl.Rope {
	all, seed := allWindows(m), uint32(7)
	pick := func(n int) int {
		seed = seed*1664525 + 1013904223
		return int(seed>>8) % n
	}
	ropes := []impl.Rope{}
	for i := range many {
		r := impl.Rope{}
		for k := range i % (impl.MaxParts + 1) {
			w := all[pick(len(all))]
			if k > 0 && pick(3) == 0 {
				last := r.Parts[k-1]
				start, left := last.Start+last.Len, len(m.Arrays[last.Array])-last.Start-last.Len
				length := pick(left + 1)
				w = impl.Window{Array: last.Array, Start: start, Len: length, Cap: length + pick(left-length+1)}
			}
			if pick(4) == 0 {
				w.Len = 0
			}
			r.Parts = append(r.Parts, w)
		}
		ropes = append(ropes, r)
	}
	return ropes
}

// smallRopes returns all Ropes of at most two parts on a Memory.
func smallRopes(m impl.Memory) []impl.Rope {
	ropes := []impl.Rope{{}}
	for _, w := range allWindows(m) {
		ropes = append(ropes, ropeOf(w))
	}
	for _, pair := range allPairs(m) {
		ropes = append(ropes, ropeOf(pair[0], pair[1]))
	}
	return ropes
}

// checkRopes makes a check for all Ropes of few parts on a small Memory, and for picked ones on
// others, one of them with MaxArrays arrays, one with an array less, and one with long arrays.
func checkRopes(t *testing.T, check func(t *testing.T, m impl.Memory, r impl.Rope)) {
	t.Helper()
	small := memoryOf(3, 1)
	for _, r := range smallRopes(small) {
		check(t, small, r)
	}
	for _, m := range []impl.Memory{memoryOf(5, 2), fullMemory(), memoryOf(slices.Repeat([]int{3}, impl.MaxArrays-1)...), memoryOf(9, 40), memoryOf(64, 1)} {
		for _, r := range pickedRopes(m, 260) {
			check(t, m, r)
		}
	}
}

// badRopes returns Ropes of all kinds that are none on memoryOf(4, 2).
func badRopes() []impl.Rope {
	good := impl.Window{Start: 1, Len: 2, Cap: 3}
	ropes := []impl.Rope{
		ropeOf(slices.Repeat([]impl.Window{good}, impl.MaxParts+1)...), ropeOf(make([]impl.Window, impl.MaxParts+1)...),
		ropeOf(make([]impl.Window, 1000)...), ropeOf(slices.Repeat([]impl.Window{{Array: -1}}, 1000)...),
	}
	for _, bad := range badWindows() {
		last := append(slices.Repeat([]impl.Window{good}, impl.MaxParts-1), bad)
		ropes = append(ropes, ropeOf(bad), ropeOf(good, bad, good), ropeOf(last...), ropeOf(bad, bad))
	}
	return ropes
}

// checkBadRopes makes a check for Ropes that are not valid, and for such Memories.
func checkBadRopes(t *testing.T, check func(t *testing.T, m impl.Memory, r impl.Rope)) {
	t.Helper()
	for _, r := range badRopes() {
		check(t, memoryOf(4, 2), r)
	}
	check(t, impl.Memory{}, ropeOf(impl.Window{}))
	for _, m := range badMemories() {
		for _, r := range []impl.Rope{{}, ropeOf(impl.Window{Len: 1, Cap: 1}), ropeOf(impl.Window{}, impl.Window{})} {
			check(t, m, r)
		}
	}
}

// textIn returns the text of a Rope, taken place by place.
func textIn(m impl.Memory, r impl.Rope) []byte {
	text := []byte{}
	for _, w := range r.Parts {
		text = append(text, seenIn(m, w)...)
	}
	return text
}

// lengthOf returns the sum of what the parts of a Rope see.
func lengthOf(r impl.Rope) int {
	length := 0
	for _, w := range r.Parts {
		length += w.Len
	}
	return length
}

// cutsOf returns the numbers at which parts of a Rope begin and end, those beside them, and no others.
func cutsOf(r impl.Rope) []int {
	cuts, n := []int{0}, 0
	for _, w := range r.Parts {
		n += w.Len
		cuts = append(cuts, n-1, n, n+1)
	}
	cuts = slices.DeleteFunc(cuts, func(i int) bool { return i < 0 || i > n })
	slices.Sort(cuts)
	return slices.Compact(cuts)
}

// splitAt returns what the document tells of both of SplitRope, for an i in 0..RopeLength.
func splitAt(r impl.Rope, i int) (impl.Rope, impl.Rope) {
	first, second, ahead, length := impl.Rope{}, impl.Rope{}, 0, lengthOf(r)
	for _, w := range r.Parts {
		mine := min(max(i-ahead, 0), w.Len) // how many of its bytes are among the first i
		switch {
		case w.Len == 0 && (ahead < i || i == length), w.Len > 0 && mine == w.Len:
			first.Parts = append(first.Parts, w)
		case mine == 0:
			second.Parts = append(second.Parts, w)
		default:
			first.Parts = append(first.Parts, impl.Window{Array: w.Array, Start: w.Start, Len: mine, Cap: mine})
			second.Parts = append(second.Parts, impl.Window{Array: w.Array, Start: w.Start + mine, Len: w.Len - mine, Cap: w.Cap - mine})
		}
		ahead += w.Len
	}
	return first, second
}

// insertedAt returns what the document tells of InsertText.
func insertedAt(m impl.Memory, r impl.Rope, i int, list []byte) (impl.Memory, impl.Rope, bool) {
	if i < 0 || i > lengthOf(r) || len(list) > impl.MaxSize || len(list) > 0 && len(m.Arrays) == impl.MaxArrays {
		return impl.Memory{}, impl.Rope{}, false
	}
	first, second := splitAt(r, i)
	want, parts := cloned(m), first.Parts
	if len(list) > 0 {
		parts = append(parts, impl.Window{Array: len(m.Arrays), Len: len(list), Cap: len(list)})
		want.Arrays = append(want.Arrays, bytes.Clone(list))
	}
	parts = append(parts, second.Parts...)
	if len(parts) > impl.MaxParts {
		return impl.Memory{}, impl.Rope{}, false
	}
	return want, ropeOf(parts...), true
}

// deletedAt returns what the document tells of DeleteText.
func deletedAt(r impl.Rope, i, j int) (impl.Rope, bool) {
	if i < 0 || i > j || j > lengthOf(r) {
		return impl.Rope{}, false
	}
	first, _ := splitAt(r, i)
	_, second := splitAt(r, j)
	parts := append(first.Parts, second.Parts...)
	if len(parts) > impl.MaxParts {
		return impl.Rope{}, false
	}
	return ropeOf(parts...), true
}

// writtenAt returns what the document tells of WriteRope.
func writtenAt(m impl.Memory, r impl.Rope, i int, b byte) (impl.Memory, impl.Rope, bool) {
	if i < 0 || i >= lengthOf(r) {
		return impl.Memory{}, impl.Rope{}, false
	}
	less, ok := deletedAt(r, i, i+1)
	if !ok {
		return impl.Memory{}, impl.Rope{}, false
	}
	return insertedAt(m, less, i, []byte{b})
}

// spliced returns a text in which the bytes i to j - 1 are replaced by a list.
func spliced(text []byte, i, j int, list ...byte) []byte {
	return slices.Concat(text[:i], list, text[j:])
}

// checkRope checks that a Rope is valid, and what its text and its length are.
func checkRope(t *testing.T, name string, m impl.Memory, r impl.Rope, want []byte) {
	t.Helper()
	if is, ok := impl.IsRope(m, r); !is || !ok {
		t.Fatalf("%s: %v is no Rope on %v", name, r, m)
	}
	if text, ok := impl.RopeText(m, r); !ok || !bytes.Equal(text, want) {
		t.Fatalf("%s: %v has the text %v, %v, not %v", name, r, text, ok, want)
	}
	if length, ok := impl.RopeLength(m, r); !ok || length != len(want) {
		t.Fatalf("%s: %v has the length %d, %v, not %d", name, r, length, ok, len(want))
	}
}

// checkOthers checks that a new Memory begins with the same arrays as an old one, has some more behind
// them, and leaves the texts of Ropes on the old one.
func checkOthers(t *testing.T, name string, m, next impl.Memory, more int, others []impl.Rope) {
	t.Helper()
	old := len(m.Arrays)
	if !impl.IsMemory(next) || len(next.Arrays) != old+more || !equalMemories(impl.Memory{Arrays: next.Arrays[:old]}, m) {
		t.Fatalf("%s makes %v of %v", name, next, m)
	}
	for _, r := range others {
		checkRope(t, name, next, r, textIn(m, r))
	}
}

func TestIsRope(t *testing.T) {
	checkRopes(t, func(t *testing.T, m impl.Memory, r impl.Rope) {
		if is, ok := impl.IsRope(m, r); !is || !ok {
			t.Fatalf("IsRope of %v = %v, %v", r, is, ok)
		}
	})
	checkBadRopes(t, func(t *testing.T, m impl.Memory, r impl.Rope) {
		if is, ok := impl.IsRope(m, r); is || ok != impl.IsMemory(m) {
			t.Fatalf("IsRope of %v on %v = %v, %v", r, m, is, ok)
		}
	})
	for _, m := range []impl.Memory{{}, memoryOf(1), fullMemory()} {
		for _, r := range []impl.Rope{{}, ropeOf([]impl.Window{}...)} {
			if is, ok := impl.IsRope(m, r); !is || !ok {
				t.Errorf("IsRope without parts = %v, %v", is, ok)
			}
		}
	}
	for n, want := range map[int]bool{0: true, 1: true, 11: true, 12: true, 13: false, 14: false, 24: false} {
		for _, w := range []impl.Window{{}, {Len: 1, Cap: 1}, {Start: 1}} {
			if is, ok := impl.IsRope(memoryOf(1), ropeOf(slices.Repeat([]impl.Window{w}, n)...)); is != want || !ok {
				t.Errorf("IsRope of %d times %v = %v, %v", n, w, is, ok)
			}
		}
	}
}

func TestRopeText(t *testing.T) {
	checkRopes(t, func(t *testing.T, m impl.Memory, r impl.Rope) { checkRope(t, "RopeText", m, r, textIn(m, r)) })
	checkBadRopes(t, func(t *testing.T, m impl.Memory, r impl.Rope) {
		if text, ok := impl.RopeText(m, r); ok || len(text) != 0 {
			t.Fatalf("RopeText of %v on %v = %v, %v", r, m, text, ok)
		}
		if n, ok := impl.RopeLength(m, r); ok || n != 0 {
			t.Fatalf("RopeLength of %v on %v = %d, %v", r, m, n, ok)
		}
	})
	m := impl.Memory{Arrays: [][]byte{{1, 2, 3, 4}, {5, 6}}}
	for _, c := range []struct {
		r    impl.Rope
		text []byte
	}{
		{ropeOf(), nil}, {ropeOf(impl.Window{Start: 4}, impl.Window{Cap: 4}), nil},
		{ropeOf(impl.Window{Len: 2, Cap: 4}), []byte{1, 2}}, // the room is no text
		{ropeOf(impl.Window{Array: 1, Len: 2, Cap: 2}, impl.Window{Start: 1, Cap: 2}, impl.Window{Start: 2, Len: 1, Cap: 1}), []byte{5, 6, 3}},
		{ropeOf(impl.Window{Start: 1, Len: 2, Cap: 2}, impl.Window{Start: 1, Len: 2, Cap: 2}), []byte{2, 3, 2, 3}},
	} {
		checkRope(t, "by hand", m, c.r, c.text)
	}
	// The longest text of all.
	m = memoryOf(64, 64)
	whole := impl.Window{Array: 1, Len: 64, Cap: 64}
	checkRope(t, "longest", m, ropeOf(slices.Repeat([]impl.Window{whole}, impl.MaxParts)...), bytes.Repeat(m.Arrays[1], impl.MaxParts))
}

func TestFindPart(t *testing.T) {
	checkRopes(t, func(t *testing.T, m impl.Memory, r impl.Rope) {
		i := 0
		for part, w := range r.Parts {
			for at := range w.Len {
				checkFind(t, m, r, i, part, at)
				i++
			}
		}
		for _, other := range []int{math.MinInt, math.MinInt + 1, -65, -1, i, i + 1, i + 64, 1 << 32, math.MaxInt - 1, math.MaxInt} {
			checkNoPart(t, m, r, other)
		}
	})
	checkBadRopes(t, func(t *testing.T, m impl.Memory, r impl.Rope) {
		for _, i := range []int{-1, 0, 1, math.MaxInt, math.MinInt} {
			checkNoPart(t, m, r, i)
		}
	})
	m := memoryOf(6)
	r := ropeOf(impl.Window{Cap: 6}, impl.Window{Start: 4, Len: 1, Cap: 2}, impl.Window{Start: 2}, impl.Window{Len: 3, Cap: 3}, impl.Window{Start: 6})
	for i, want := range [][2]int{{1, 0}, {3, 0}, {3, 1}, {3, 2}} {
		checkFind(t, m, r, i, want[0], want[1])
	}
	checkNoPart(t, m, r, 4)
}

func checkFind(t *testing.T, m impl.Memory, r impl.Rope, i, part, at int) {
	t.Helper()
	gotPart, gotAt, ok := impl.FindPart(m, r, i)
	if !ok || gotPart != part || gotAt != at {
		t.Fatalf("FindPart of %d in %v = %d, %d, %v, not %d, %d", i, r, gotPart, gotAt, ok, part, at)
	}
	if b, ok := impl.ReadAt(m, r.Parts[gotPart], gotAt); !ok || b != textIn(m, r)[i] {
		t.Fatalf("FindPart of %d in %v tells the byte %d, %v", i, r, b, ok)
	}
}

func checkNoPart(t *testing.T, m impl.Memory, r impl.Rope, i int) {
	t.Helper()
	if part, at, ok := impl.FindPart(m, r, i); ok || part != 0 || at != 0 {
		t.Fatalf("FindPart of %d in %v on %v = %d, %d, %v", i, r, m, part, at, ok)
	}
}

func TestJoinRopes(t *testing.T) {
	m := memoryOf(5, 2)
	ropes := pickedRopes(m, 130)
	for _, a := range ropes {
		for _, b := range ropes {
			want, fine := impl.Rope{}, len(a.Parts)+len(b.Parts) <= impl.MaxParts
			if fine {
				want = ropeOf(slices.Concat(a.Parts, b.Parts)...)
			}
			got, ok := impl.JoinRopes(m, a, b)
			if ok != fine || !equalRopes(got, want) {
				t.Fatalf("JoinRopes of %v, %v = %v, %v", a, b, got, ok)
			}
			if ok {
				checkRope(t, "JoinRopes", m, got, slices.Concat(textIn(m, a), textIn(m, b)))
			}
		}
	}
	checkBadRopes(t, func(t *testing.T, m impl.Memory, r impl.Rope) {
		for _, pair := range [][2]impl.Rope{{{}, r}, {r, {}}, {r, r}} {
			if got, ok := impl.JoinRopes(m, pair[0], pair[1]); ok || !isZeroRope(got) {
				t.Fatalf("JoinRopes of %v, %v on %v = %v, %v", pair[0], pair[1], m, got, ok)
			}
		}
	})
}

// TestJoinRopesWithoutBytes has parts that see no byte, which count like all others.
func TestJoinRopesWithoutBytes(t *testing.T) {
	m := memoryOf(2)
	for a := range impl.MaxParts + 1 {
		for b := range impl.MaxParts + 1 {
			got, ok := impl.JoinRopes(m, ropeOf(make([]impl.Window, a)...), ropeOf(slices.Repeat([]impl.Window{{Start: 2}}, b)...))
			if fine := a+b <= impl.MaxParts; ok != fine || fine && len(got.Parts) != a+b || !fine && !isZeroRope(got) {
				t.Errorf("JoinRopes of %d and %d parts = %v, %v", a, b, got, ok)
			}
		}
	}
}

func checkSplitFails(t *testing.T, m impl.Memory, r impl.Rope, i int) {
	t.Helper()
	if first, second, ok := impl.SplitRope(m, r, i); ok || !isZeroRope(first) || !isZeroRope(second) {
		t.Fatalf("SplitRope of %v on %v at %d = %v, %v, %v", r, m, i, first, second, ok)
	}
}

func TestSplitRope(t *testing.T) {
	checkRopes(t, func(t *testing.T, m impl.Memory, r impl.Rope) {
		text := textIn(m, r)
		for i := range len(text) + 1 {
			one, two := splitAt(r, i)
			first, second, ok := impl.SplitRope(m, r, i)
			if !ok || !equalRopes(first, one) || !equalRopes(second, two) {
				t.Fatalf("SplitRope of %v at %d = %v, %v, %v, not %v, %v", r, i, first, second, ok, one, two)
			}
			checkRope(t, "SplitRope", m, first, text[:i])
			checkRope(t, "SplitRope", m, second, text[i:])
		}
		for _, i := range []int{math.MinInt, math.MinInt + 1, -1, len(text) + 1, len(text) + 64, 1 << 32, math.MaxInt - 1, math.MaxInt} {
			checkSplitFails(t, m, r, i)
		}
	})
	checkBadRopes(t, func(t *testing.T, m impl.Memory, r impl.Rope) {
		for _, i := range []int{-1, 0, 1, math.MaxInt, math.MinInt} {
			checkSplitFails(t, m, r, i)
		}
	})
}

// handMemory has the Memory of the Ropes by hand.
func handMemory() impl.Memory { return impl.Memory{Arrays: [][]byte{{1, 2, 3, 4, 5, 6}}} }

// These are the parts of the Rope by hand, whose text is 1, 2, 4, 5: parts that see no byte are at the
// beginning, in the middle and at the end, and both others have room.
var (
	none0 = impl.Window{Start: 1, Cap: 5}
	part0 = impl.Window{Len: 2, Cap: 4}
	none1 = impl.Window{Start: 6}
	part1 = impl.Window{Start: 3, Len: 2, Cap: 3}
	none2 = impl.Window{Start: 2, Cap: 1}
	// and what it is cut into
	head0   = impl.Window{Len: 1, Cap: 1}
	tail0   = impl.Window{Start: 1, Len: 1, Cap: 3}
	head1   = impl.Window{Start: 3, Len: 1, Cap: 1}
	tail1   = impl.Window{Start: 4, Len: 1, Cap: 2}
	newPart = impl.Window{Array: 1, Len: 1, Cap: 1}
)

func handRope() impl.Rope { return ropeOf(none0, part0, none1, part1, none2) }

func TestSplitRopeByHand(t *testing.T) {
	for i, want := range [][2]impl.Rope{
		{ropeOf(), handRope()},
		{ropeOf(none0, head0), ropeOf(tail0, none1, part1, none2)},
		{ropeOf(none0, part0), ropeOf(none1, part1, none2)},
		{ropeOf(none0, part0, none1, head1), ropeOf(tail1, none2)},
		{handRope(), ropeOf()},
	} {
		first, second, ok := impl.SplitRope(handMemory(), handRope(), i)
		if !ok || !equalRopes(first, want[0]) || !equalRopes(second, want[1]) {
			t.Errorf("SplitRope at %d = %v, %v, %v, not %v", i, first, second, ok, want)
		}
	}
	// Without bytes, 0 is RopeLength: all parts come to the first one.
	r := ropeOf(none0, none1, none2)
	if first, second, ok := impl.SplitRope(handMemory(), r, 0); !ok || !equalRopes(first, r) || !isZeroRope(second) {
		t.Error("SplitRope without bytes", first, second, ok)
	}
	if first, second, ok := impl.SplitRope(impl.Memory{}, impl.Rope{}, 0); !ok || !isZeroRope(first) || !isZeroRope(second) {
		t.Error("SplitRope without parts", first, second, ok)
	}
}

// TestSplitRopesAreApart writes to one of both up to its capacity, and looks at the other one.
func TestSplitRopesAreApart(t *testing.T) {
	for _, r := range pickedRopes(memoryOf(5, 2), 130) {
		for _, i := range cutsOf(r) {
			first, second, _ := impl.SplitRope(memoryOf(5, 2), r, i)
			scribble(t, "SplitRope", first)
			if _, want := splitAt(r, i); !equalRopes(second, want) {
				t.Fatalf("SplitRope of %v at %d: both share memory", r, i)
			}
			first, second, _ = impl.SplitRope(memoryOf(5, 2), r, i)
			scribble(t, "SplitRope", second)
			if want, _ := splitAt(r, i); !equalRopes(first, want) {
				t.Fatalf("SplitRope of %v at %d: both share memory", r, i)
			}
		}
	}
}

// insertLists returns lists of bytes to be inserted, up to one that never fits.
func insertLists() [][]byte {
	long := bytes.Repeat([]byte{240, 0, 241, 242, 243}, 20)
	return [][]byte{nil, {250}, long[:5], {}, {251, 252}, long[:impl.MaxSize], long[:impl.MaxSize+1], {0}, long[:63], make([]byte, 1000)}
}

func checkInsertFails(t *testing.T, m impl.Memory, r impl.Rope, i int, list []byte) {
	t.Helper()
	if next, got, ok := impl.InsertText(m, r, i, list); ok || len(next.Arrays) != 0 || !isZeroRope(got) {
		t.Fatalf("InsertText of %d bytes at %d in %v on %v = %v, %v, %v", len(list), i, r, m, next, got, ok)
	}
}

func TestInsertText(t *testing.T) {
	many := 0
	checkRopes(t, func(t *testing.T, m impl.Memory, r impl.Rope) {
		others := append(pickedRopes(memoryOf(3, 1), 20), r)
		for _, i := range cutsOf(r) {
			// Two lists for each number, so that all lists come to all kinds of numbers.
			for range 2 {
				checkInsert(t, m, r, i, insertLists()[many%len(insertLists())], others)
				many++
			}
			many++
		}
		for _, i := range []int{math.MinInt, -1, lengthOf(r) + 1, 1 << 32, math.MaxInt} {
			checkInsertFails(t, m, r, i, []byte{1, 2})
			checkInsertFails(t, m, r, i, nil)
		}
	})
	checkBadRopes(t, func(t *testing.T, m impl.Memory, r impl.Rope) {
		for _, list := range insertLists() {
			checkInsertFails(t, m, r, 0, list)
			checkInsertFails(t, m, r, 1, list)
			checkInsertFails(t, m, r, -1, list)
		}
	})
}

// checkInsert compares the Rope with what the document tells, its text with the one that is spliced,
// and all other Ropes with what they were.
func checkInsert(t *testing.T, m impl.Memory, r impl.Rope, i int, list []byte, others []impl.Rope) {
	t.Helper()
	want, rope, fine := insertedAt(m, r, i, list)
	if !fine {
		checkInsertFails(t, m, r, i, list)
		return
	}
	next, got, ok := impl.InsertText(m, r, i, list)
	if !ok || !equalMemories(next, want) || !equalRopes(got, rope) {
		t.Fatalf("InsertText of %v at %d in %v = %v, %v, %v, not %v, %v", list, i, r, next, got, ok, want, rope)
	}
	checkRope(t, "InsertText", next, got, spliced(textIn(m, r), i, i, list...))
	checkOthers(t, "InsertText", m, next, min(len(list), 1), others)
}

func TestInsertTextByHand(t *testing.T) {
	m := handMemory()
	want := impl.Memory{Arrays: [][]byte{{1, 2, 3, 4, 5, 6}, {9}}}
	for i, rope := range []impl.Rope{
		ropeOf(newPart, none0, part0, none1, part1, none2), ropeOf(none0, head0, newPart, tail0, none1, part1, none2),
		ropeOf(none0, part0, newPart, none1, part1, none2), ropeOf(none0, part0, none1, head1, newPart, tail1, none2),
		ropeOf(none0, part0, none1, part1, none2, newPart),
	} {
		if next, got, ok := impl.InsertText(m, handRope(), i, []byte{9}); !ok || !equalMemories(next, want) || !equalRopes(got, rope) {
			t.Errorf("InsertText at %d = %v, %v, %v, not %v", i, next, got, ok, rope)
		}
	}
	// Without bytes there is no new array, but a part is cut all the same.
	for i, rope := range []impl.Rope{
		handRope(), ropeOf(none0, head0, tail0, none1, part1, none2), handRope(), ropeOf(none0, part0, none1, head1, tail1, none2), handRope(),
	} {
		if next, got, ok := impl.InsertText(m, handRope(), i, nil); !ok || !equalMemories(next, m) || !equalRopes(got, rope) {
			t.Errorf("InsertText of nothing at %d = %v, %v, %v, not %v", i, next, got, ok, rope)
		}
	}
	// The list is a part of the Memory itself.
	if next, got, ok := impl.InsertText(m, handRope(), 1, m.Arrays[0][1:4]); !ok || !bytes.Equal(textIn(next, got), []byte{1, 2, 3, 4, 2, 4, 5}) || !equalMemories(m, handMemory()) {
		t.Error("own bytes", next, got, ok)
	}
	if next, got, ok := impl.InsertText(impl.Memory{}, impl.Rope{}, 0, []byte{7, 8}); !ok || len(next.Arrays) != 1 || !bytes.Equal(textIn(next, got), []byte{7, 8}) {
		t.Error("to nothing", next, got, ok)
	}
	// The new part comes behind all others where there are no bytes.
	if _, got, ok := impl.InsertText(m, ropeOf(none0, none1), 0, []byte{9}); !ok || !equalRopes(got, ropeOf(none0, none1, newPart)) {
		t.Error("to parts that see no byte", got, ok)
	}
}

// manyParts returns the Rope of n parts that see 3 bytes each, without room.
func manyParts(n int) impl.Rope {
	return ropeOf(slices.Repeat([]impl.Window{{Start: 1, Len: 3, Cap: 3}}, n)...)
}

// TestTooManyParts has cuts between parts, and in them, where it is told by one part whether there
// are too many.
func TestTooManyParts(t *testing.T) {
	m := memoryOf(5)
	for n := 1; n <= impl.MaxParts; n++ {
		r := manyParts(n)
		for i := range 3*n + 1 {
			cut := 0
			if i%3 > 0 {
				cut = 1
			}
			_, made, ok := impl.InsertText(m, r, i, []byte{9})
			if parts := n + 1 + cut; ok != (parts <= 12) || ok && len(made.Parts) != parts {
				t.Fatalf("InsertText at %d to %d parts = %v, %v", i, n, made, ok)
			}
			_, made, ok = impl.InsertText(m, r, i, nil)
			if parts := n + cut; ok != (parts <= 12) || ok && len(made.Parts) != parts {
				t.Fatalf("InsertText of nothing at %d to %d parts = %v, %v", i, n, made, ok)
			}
			made, ok = impl.DeleteText(m, r, i, i)
			if parts := n + cut; ok != (parts <= 12) || ok && len(made.Parts) != parts {
				t.Fatalf("DeleteText at %d from %d parts = %v, %v", i, n, made, ok)
			}
			if i == 3*n {
				continue
			}
			// The middle byte of a part leaves one more, and the others as many.
			made, ok = impl.DeleteText(m, r, i, i+1)
			if parts := n + i%3%2; ok != (parts <= 12) || ok && len(made.Parts) != parts {
				t.Fatalf("DeleteText of a byte at %d from %d parts = %v, %v", i, n, made, ok)
			}
			_, made, ok = impl.WriteRope(m, r, i, 9)
			if parts := n + 1 + i%3%2; ok != (parts <= 12) || ok && len(made.Parts) != parts {
				t.Fatalf("WriteRope at %d to %d parts = %v, %v", i, n, made, ok)
			}
		}
	}
	single := ropeOf(slices.Repeat([]impl.Window{{Len: 1, Cap: 5}}, impl.MaxParts)...)
	for i := range impl.MaxParts {
		if next, made, ok := impl.WriteRope(m, single, i, 9); !ok || len(made.Parts) != impl.MaxParts || textIn(next, made)[i] != 9 {
			t.Errorf("WriteRope at %d to parts of one byte = %v, %v", i, made, ok)
		}
	}
}

// TestTooManyArraysOrBytes has as many arrays, and bytes, as there can be.
func TestTooManyArraysOrBytes(t *testing.T) {
	full, r := fullMemory(), ropeOf(impl.Window{Array: 15, Len: 2, Cap: 3}, impl.Window{})
	checkInsertFails(t, full, r, 1, []byte{9})
	checkWriteFails(t, full, r, 1)
	checkFlattenFails(t, full, r)
	if next, got, ok := impl.InsertText(full, r, 2, []byte{}); !ok || !equalMemories(next, full) || !equalRopes(got, r) {
		t.Error("InsertText of nothing", got, ok)
	}
	if next, got, ok := impl.FlattenRope(full, ropeOf(impl.Window{}, impl.Window{Start: 3})); !ok || !equalMemories(next, full) || !isZeroRope(got) {
		t.Error("FlattenRope of nothing", got, ok)
	}
	less := impl.Memory{Arrays: full.Arrays[1:]}
	r = ropeOf(impl.Window{Array: 14, Len: 2, Cap: 3})
	if next, got, ok := impl.InsertText(less, r, 1, make([]byte, impl.MaxSize)); !ok || len(next.Arrays) != impl.MaxArrays || len(got.Parts) != 3 || got.Parts[1] != (impl.Window{Array: 15, Len: 64, Cap: 64}) {
		t.Error("InsertText", got, ok)
	}
	checkInsertFails(t, less, r, 1, make([]byte, impl.MaxSize+1))
	if next, _, ok := impl.WriteRope(less, r, 1, 9); !ok || len(next.Arrays) != impl.MaxArrays {
		t.Error("WriteRope", next, ok)
	}
	if next, _, ok := impl.FlattenRope(less, r); !ok || len(next.Arrays) != impl.MaxArrays {
		t.Error("FlattenRope", next, ok)
	}
}

// checkRanges makes a check for all pairs of numbers at which parts of Ropes begin and end, or that
// are beside these, in both orders, and for others.
func checkRanges(t *testing.T, check func(t *testing.T, m impl.Memory, r impl.Rope, i, j int)) {
	t.Helper()
	checkRopes(t, func(t *testing.T, m impl.Memory, r impl.Rope) {
		length := lengthOf(r)
		cuts := cutsOf(r)
		for _, i := range cuts {
			for _, j := range cuts {
				check(t, m, r, i, j)
			}
		}
		for _, other := range []int{math.MinInt, -1, length + 1, 1 << 32, math.MaxInt} {
			for _, i := range []int{0, length, other, length / 2} {
				check(t, m, r, i, other)
				check(t, m, r, other, i)
			}
		}
	})
	checkBadRopes(t, func(t *testing.T, m impl.Memory, r impl.Rope) {
		for _, n := range [][2]int{{0, 0}, {0, 1}, {1, 1}, {-1, 0}, {0, math.MaxInt}, {math.MinInt, math.MaxInt}} {
			check(t, m, r, n[0], n[1])
		}
	})
}

func TestDeleteText(t *testing.T) {
	checkRanges(t, func(t *testing.T, m impl.Memory, r impl.Rope, i, j int) {
		want, fine := deletedAt(r, i, j)
		if is, _ := impl.IsRope(m, r); !is {
			want, fine = impl.Rope{}, false
		}
		got, ok := impl.DeleteText(m, r, i, j)
		if ok != fine || !equalRopes(got, want) {
			t.Fatalf("DeleteText of %d to %d from %v = %v, %v, not %v, %v", i, j, r, got, ok, want, fine)
		}
		if ok {
			checkRope(t, "DeleteText", m, got, spliced(textIn(m, r), i, j))
		}
	})
}

func TestDeleteTextByHand(t *testing.T) {
	for n, rope := range map[[2]int]impl.Rope{
		{0, 0}: handRope(), {2, 2}: handRope(), {4, 4}: handRope(), {0, 4}: ropeOf(),
		{1, 1}: ropeOf(none0, head0, tail0, none1, part1, none2), {3, 3}: ropeOf(none0, part0, none1, head1, tail1, none2),
		{0, 1}: ropeOf(tail0, none1, part1, none2), {1, 2}: ropeOf(none0, head0, none1, part1, none2),
		{0, 2}: ropeOf(none1, part1, none2), {2, 4}: ropeOf(none0, part0), {1, 3}: ropeOf(none0, head0, tail1, none2),
		{2, 3}: ropeOf(none0, part0, tail1, none2), {3, 4}: ropeOf(none0, part0, none1, head1), {1, 4}: ropeOf(none0, head0),
	} {
		if got, ok := impl.DeleteText(handMemory(), handRope(), n[0], n[1]); !ok || !equalRopes(got, rope) {
			t.Errorf("DeleteText of %v = %v, %v, not %v", n, got, ok, rope)
		}
	}
	if got, ok := impl.DeleteText(handMemory(), ropeOf(none0, none1), 0, 0); !ok || !equalRopes(got, ropeOf(none0, none1)) {
		t.Error("DeleteText without bytes", got, ok)
	}
}

func TestPartText(t *testing.T) {
	checkRanges(t, func(t *testing.T, m impl.Memory, r impl.Rope, i, j int) {
		is, _ := impl.IsRope(m, r)
		want, fine := impl.Rope{}, is && i >= 0 && i <= j && j <= lengthOf(r)
		if fine {
			first, _ := splitAt(r, j)
			_, want = splitAt(first, i)
		}
		got, ok := impl.PartText(m, r, i, j)
		if ok != fine || !equalRopes(got, want) {
			t.Fatalf("PartText of %d to %d in %v = %v, %v, not %v, %v", i, j, r, got, ok, want, fine)
		}
		if ok {
			checkRope(t, "PartText", m, got, textIn(m, r)[i:j])
		}
	})
}

func TestPartTextByHand(t *testing.T) {
	for n, rope := range map[[2]int]impl.Rope{
		{0, 0}: ropeOf(), {1, 1}: ropeOf(), {2, 2}: ropeOf(), {4, 4}: ropeOf(), {0, 4}: handRope(),
		{0, 1}: ropeOf(none0, head0), {1, 2}: ropeOf(impl.Window{Start: 1, Len: 1, Cap: 3}), {0, 2}: ropeOf(none0, part0),
		{2, 4}: ropeOf(none1, part1, none2), {1, 3}: ropeOf(tail0, none1, head1), {2, 3}: ropeOf(none1, head1), {3, 4}: ropeOf(tail1, none2),
	} {
		if got, ok := impl.PartText(handMemory(), handRope(), n[0], n[1]); !ok || !equalRopes(got, rope) {
			t.Errorf("PartText of %v = %v, %v, not %v", n, got, ok, rope)
		}
	}
	// Two cuts in one part, whose room is not behind the second one.
	r := ropeOf(impl.Window{Len: 4, Cap: 6})
	if got, ok := impl.PartText(handMemory(), r, 1, 3); !ok || !equalRopes(got, ropeOf(impl.Window{Start: 1, Len: 2, Cap: 2})) {
		t.Error("PartText of a part", got, ok)
	}
	// Just as many parts as the Rope has, although two of them are cut.
	if got, ok := impl.PartText(memoryOf(5), manyParts(impl.MaxParts), 1, 35); !ok || len(got.Parts) != impl.MaxParts {
		t.Error("PartText of many parts", got, ok)
	}
}

// mergedOf returns what the document tells of MergeParts, merging two parts of the Rope at a time.
func mergedOf(r impl.Rope) impl.Rope {
	parts := slices.DeleteFunc(slices.Clone(r.Parts), func(w impl.Window) bool { return w.Len == 0 })
	for k := 0; k+1 < len(parts); {
		a, b := parts[k], parts[k+1]
		if a.Array != b.Array || b.Start != a.Start+a.Len {
			k++
			continue
		}
		long := a.Len + b.Len
		parts = slices.Replace(parts, k, k+2, impl.Window{Array: a.Array, Start: a.Start, Len: long, Cap: long})
	}
	return ropeOf(parts...)
}

func TestMergeParts(t *testing.T) {
	merges := 0
	checkRopes(t, func(t *testing.T, m impl.Memory, r impl.Rope) {
		want := mergedOf(r)
		got, ok := impl.MergeParts(m, r)
		if !ok || !equalRopes(got, want) {
			t.Fatalf("MergeParts of %v = %v, %v, not %v", r, got, ok, want)
		}
		checkRope(t, "MergeParts", m, got, textIn(m, r))
		if len(want.Parts) > 1 && len(r.Parts) > len(want.Parts)+2 {
			merges++
		}
		for _, i := range cutsOf(r) {
			checkMergedCut(t, m, r, i)
		}
	})
	if merges < 100 {
		t.Error("few Ropes have parts to be merged:", merges)
	}
	checkBadRopes(t, func(t *testing.T, m impl.Memory, r impl.Rope) {
		if got, ok := impl.MergeParts(m, r); ok || !isZeroRope(got) {
			t.Fatalf("MergeParts of %v on %v = %v, %v", r, m, got, ok)
		}
	})
}

// checkMergedCut cuts a Rope, and merges what was cut: it has the same places again.
func checkMergedCut(t *testing.T, m impl.Memory, r impl.Rope, i int) {
	t.Helper()
	cut, ok := impl.DeleteText(m, r, i, i)
	if !ok {
		return
	}
	got, ok := impl.MergeParts(m, cut)
	if !ok || len(got.Parts) != len(mergedOf(r).Parts) {
		t.Fatalf("MergeParts of %v, cut at %d, = %v, %v", r, i, got, ok)
	}
	checkRope(t, "MergeParts", m, got, textIn(m, r))
}

func TestMergePartsByHand(t *testing.T) {
	m := memoryOf(6, 6)
	first := impl.Window{Len: 2, Cap: 4}
	for _, c := range []struct{ before, after impl.Rope }{
		{ropeOf(), ropeOf()}, {ropeOf(impl.Window{Cap: 6}, impl.Window{Start: 6}), ropeOf()},
		// A part that is not merged keeps its room, also behind and ahead of parts that see no byte.
		{ropeOf(first), ropeOf(first)}, {ropeOf(impl.Window{}, first, impl.Window{Start: 2, Cap: 4}), ropeOf(first)},
		// What is merged has none.
		{ropeOf(first, impl.Window{Start: 2, Len: 1, Cap: 4}), ropeOf(impl.Window{Len: 3, Cap: 3})},
		{ropeOf(first, impl.Window{Start: 5, Cap: 1}, impl.Window{Start: 2, Len: 4, Cap: 4}), ropeOf(impl.Window{Len: 6, Cap: 6})},
		// The second one has to begin just behind what the first one sees, not behind its room, and on the same array.
		{ropeOf(first, impl.Window{Start: 4, Len: 1, Cap: 2}), ropeOf(first, impl.Window{Start: 4, Len: 1, Cap: 2})},
		{ropeOf(first, impl.Window{Start: 1, Len: 2, Cap: 2}), ropeOf(first, impl.Window{Start: 1, Len: 2, Cap: 2})},
		{ropeOf(first, impl.Window{Start: 3, Len: 2, Cap: 2}), ropeOf(first, impl.Window{Start: 3, Len: 2, Cap: 2})},
		{ropeOf(first, impl.Window{Array: 1, Start: 2, Len: 2, Cap: 4}), ropeOf(first, impl.Window{Array: 1, Start: 2, Len: 2, Cap: 4})},
		{ropeOf(impl.Window{Start: 2, Len: 2, Cap: 2}, first), ropeOf(impl.Window{Start: 2, Len: 2, Cap: 2}, first)},
		{ropeOf(first, first), ropeOf(first, first)},
		// Other parts between two that would be merged keep them apart.
		{ropeOf(first, impl.Window{Array: 1, Len: 1, Cap: 1}, impl.Window{Start: 2, Len: 1, Cap: 1}),
			ropeOf(first, impl.Window{Array: 1, Len: 1, Cap: 1}, impl.Window{Start: 2, Len: 1, Cap: 1})},
		{ropeOf(first, impl.Window{Start: 2, Len: 1, Cap: 4}, impl.Window{Start: 2, Len: 1, Cap: 4}, impl.Window{Start: 3, Len: 3, Cap: 3}),
			ropeOf(impl.Window{Len: 3, Cap: 3}, impl.Window{Start: 2, Len: 4, Cap: 4})},
		{ropeOf(impl.Window{Len: 1, Cap: 1}, impl.Window{Start: 1, Len: 1, Cap: 1}, impl.Window{Start: 2, Len: 1, Cap: 1}, impl.Window{Array: 1, Start: 3, Len: 1, Cap: 3}),
			ropeOf(impl.Window{Len: 3, Cap: 3}, impl.Window{Array: 1, Start: 3, Len: 1, Cap: 3})},
	} {
		if got, ok := impl.MergeParts(m, c.before); !ok || !equalRopes(got, c.after) {
			t.Errorf("MergeParts of %v = %v, %v, not %v", c.before, got, ok, c.after)
		}
	}
}

func checkFlattenFails(t *testing.T, m impl.Memory, r impl.Rope) {
	t.Helper()
	if next, got, ok := impl.FlattenRope(m, r); ok || len(next.Arrays) != 0 || !isZeroRope(got) {
		t.Fatalf("FlattenRope of %v on %v = %v, %v, %v", r, m, next, got, ok)
	}
}

func TestFlattenRope(t *testing.T) {
	checkRopes(t, checkFlat)
	checkBadRopes(t, checkFlattenFails)
	m := memoryOf(64, 32)
	for _, r := range []impl.Rope{
		ropeOf(impl.Window{Len: 64, Cap: 64}, impl.Window{}), ropeOf(impl.Window{Len: 64, Cap: 64}, impl.Window{Len: 1, Cap: 1}),
		ropeOf(impl.Window{Array: 1, Len: 32, Cap: 32}, impl.Window{Array: 1, Len: 32, Cap: 32}), ropeOf(impl.Window{Len: 33, Cap: 64}, impl.Window{Array: 1, Len: 32, Cap: 32}),
		ropeOf(slices.Repeat([]impl.Window{{Len: 64, Cap: 64}}, impl.MaxParts)...), ropeOf(), ropeOf(impl.Window{Start: 64}),
	} {
		checkFlat(t, m, r)
	}
}

// checkFlat compares the Rope with what the document tells, and all other Ropes with what they were.
func checkFlat(t *testing.T, m impl.Memory, r impl.Rope) {
	t.Helper()
	text := textIn(m, r)
	if len(text) > impl.MaxSize || len(text) > 0 && len(m.Arrays) == impl.MaxArrays {
		checkFlattenFails(t, m, r)
		return
	}
	want, rope := cloned(m), impl.Rope{}
	if len(text) > 0 {
		want.Arrays = append(want.Arrays, text)
		rope = ropeOf(impl.Window{Array: len(m.Arrays), Len: len(text), Cap: len(text)})
	}
	next, got, ok := impl.FlattenRope(m, r)
	if !ok || !equalMemories(next, want) || !equalRopes(got, rope) {
		t.Fatalf("FlattenRope of %v = %v, %v, %v, not %v, %v", r, next, got, ok, want, rope)
	}
	checkRope(t, "FlattenRope", next, got, text)
	checkOthers(t, "FlattenRope", m, next, min(len(text), 1), append(pickedRopes(memoryOf(3, 1), 20), r))
}

func TestSameTexts(t *testing.T) {
	m := impl.Memory{Arrays: [][]byte{{1, 2, 1}, {2}}}
	ropes := slices.Concat(smallRopes(m), pickedRopes(m, 100))
	for _, a := range ropes {
		for _, b := range ropes {
			want := string(textIn(m, a)) == string(textIn(m, b))
			if same, ok := impl.SameTexts(m, a, b); !ok || same != want {
				t.Fatalf("SameTexts of %v, %v = %v, %v", a, b, same, ok)
			}
		}
	}
	checkRopes(t, func(t *testing.T, m impl.Memory, r impl.Rope) {
		merged, _ := impl.MergeParts(m, r)
		if same, ok := impl.SameTexts(m, r, merged); !ok || !same {
			t.Fatalf("SameTexts of %v and its parts merged = %v, %v", r, same, ok)
		}
		if next, flat, ok := impl.FlattenRope(m, r); ok {
			if same, ok := impl.SameTexts(next, flat, r); !ok || !same {
				t.Fatalf("SameTexts of %v and one that is flat = %v, %v", r, same, ok)
			}
		}
	})
	checkBadRopes(t, func(t *testing.T, m impl.Memory, r impl.Rope) {
		for _, pair := range [][2]impl.Rope{{{}, r}, {r, {}}, {r, r}} {
			if same, ok := impl.SameTexts(m, pair[0], pair[1]); same || ok {
				t.Fatalf("SameTexts of %v, %v on %v = %v, %v", pair[0], pair[1], m, same, ok)
			}
		}
	})
}

// placesOf returns all places that some part of a Rope sees, as array and place.
func placesOf(r impl.Rope) map[[2]int]bool {
	places := map[[2]int]bool{}
	for _, w := range r.Parts {
		for i := range w.Len {
			places[[2]int{w.Array, w.Start + i}] = true
		}
	}
	return places
}

func TestSharedPlaces(t *testing.T) {
	for _, m := range []impl.Memory{memoryOf(5, 2), memoryOf(64, 64), fullMemory()} {
		ropes := pickedRopes(m, 78)
		for _, a := range ropes {
			mine := placesOf(a)
			for _, b := range ropes {
				want := 0
				for place := range placesOf(b) {
					if mine[place] {
						want++
					}
				}
				if many, ok := impl.SharedPlaces(m, a, b); !ok || many != want {
					t.Fatalf("SharedPlaces of %v, %v = %d, %v, not %d", a, b, many, ok, want)
				}
			}
		}
	}
	checkRopes(t, func(t *testing.T, m impl.Memory, r impl.Rope) {
		if many, ok := impl.SharedPlaces(m, r, r); !ok || many > lengthOf(r) || many != len(placesOf(r)) {
			t.Fatalf("SharedPlaces of %v with itself = %d, %v", r, many, ok)
		}
	})
	checkBadRopes(t, func(t *testing.T, m impl.Memory, r impl.Rope) {
		for _, pair := range [][2]impl.Rope{{{}, r}, {r, {}}, {r, r}} {
			if many, ok := impl.SharedPlaces(m, pair[0], pair[1]); ok || many != 0 {
				t.Fatalf("SharedPlaces of %v, %v on %v = %d, %v", pair[0], pair[1], m, many, ok)
			}
		}
	})
}

func TestSharedPlacesByHand(t *testing.T) {
	// Equal bytes at other places are not shared.
	m := impl.Memory{Arrays: [][]byte{{1, 1, 1, 1, 1, 1}, {1, 1, 1, 1, 1, 1}}}
	for _, c := range []struct {
		a, b impl.Rope
		many int
	}{
		{ropeOf(), ropeOf(), 0}, {handRope(), handRope(), 4}, {handRope(), ropeOf(), 0},
		{ropeOf(part0), ropeOf(part1), 0}, {ropeOf(part0), ropeOf(tail0), 1}, {ropeOf(part1, part0), ropeOf(head1, head0), 2},
		{ropeOf(part0), ropeOf(impl.Window{Array: 1, Len: 6, Cap: 6}), 0},
		// The room is not seen, and a place that several parts see counts once.
		{ropeOf(impl.Window{Cap: 6}), ropeOf(impl.Window{Len: 6, Cap: 6}), 0}, {ropeOf(impl.Window{Len: 1, Cap: 6}), ropeOf(impl.Window{Start: 1, Len: 5, Cap: 5}), 0},
		{ropeOf(part0, part0, part0), ropeOf(impl.Window{Len: 6, Cap: 6}, part0), 2},
		{ropeOf(impl.Window{Len: 4, Cap: 4}, impl.Window{Start: 2, Len: 4, Cap: 4}), ropeOf(impl.Window{Start: 1, Len: 4, Cap: 4}), 4},
	} {
		for _, pair := range [][2]impl.Rope{{c.a, c.b}, {c.b, c.a}} {
			if many, ok := impl.SharedPlaces(m, pair[0], pair[1]); !ok || many != c.many {
				t.Errorf("SharedPlaces of %v, %v = %d, %v, not %d", pair[0], pair[1], many, ok, c.many)
			}
		}
	}
}

func checkWriteFails(t *testing.T, m impl.Memory, r impl.Rope, i int) {
	t.Helper()
	if next, got, ok := impl.WriteRope(m, r, i, 9); ok || len(next.Arrays) != 0 || !isZeroRope(got) {
		t.Fatalf("WriteRope at %d to %v on %v = %v, %v, %v", i, r, m, next, got, ok)
	}
}

func TestWriteRope(t *testing.T) {
	checkRopes(t, func(t *testing.T, m impl.Memory, r impl.Rope) {
		others, length := append(pickedRopes(memoryOf(3, 1), 20), r), lengthOf(r)
		for _, i := range cutsOf(r) {
			want, rope, fine := writtenAt(m, r, i, byte(200+i))
			if !fine {
				checkWriteFails(t, m, r, i)
				continue
			}
			next, got, ok := impl.WriteRope(m, r, i, byte(200+i))
			if !ok || !equalMemories(next, want) || !equalRopes(got, rope) {
				t.Fatalf("WriteRope at %d to %v = %v, %v, %v, not %v, %v", i, r, next, got, ok, want, rope)
			}
			checkRope(t, "WriteRope", next, got, spliced(textIn(m, r), i, i+1, byte(200+i)))
			checkOthers(t, "WriteRope", m, next, 1, others)
		}
		for _, i := range []int{math.MinInt, math.MinInt + 1, -1, length, length + 1, 1 << 32, math.MaxInt - 1, math.MaxInt} {
			checkWriteFails(t, m, r, i)
		}
	})
	checkBadRopes(t, func(t *testing.T, m impl.Memory, r impl.Rope) {
		for _, i := range []int{-1, 0, 1, math.MaxInt, math.MinInt} {
			checkWriteFails(t, m, r, i)
		}
	})
}

func TestWriteRopeByHand(t *testing.T) {
	want := impl.Memory{Arrays: [][]byte{{1, 2, 3, 4, 5, 6}, {9}}}
	for i, rope := range []impl.Rope{
		ropeOf(newPart, tail0, none1, part1, none2), ropeOf(none0, head0, newPart, none1, part1, none2),
		ropeOf(none0, part0, newPart, tail1, none2), ropeOf(none0, part0, none1, head1, newPart),
	} {
		if next, got, ok := impl.WriteRope(handMemory(), handRope(), i, 9); !ok || !equalMemories(next, want) || !equalRopes(got, rope) {
			t.Errorf("WriteRope at %d = %v, %v, %v, not %v", i, next, got, ok, rope)
		}
	}
	// A place that two parts see is another byte in one of them alone.
	r := ropeOf(part0, part0)
	if next, got, ok := impl.WriteRope(handMemory(), r, 1, 9); !ok || !bytes.Equal(textIn(next, got), []byte{1, 9, 1, 2}) || !bytes.Equal(textIn(next, r), []byte{1, 2, 1, 2}) {
		t.Error("WriteRope to a place that is seen twice", next, got, ok)
	}
}

// TestTextsStayWhatTheyAre makes one Rope of others again and again, by a fixed rule, on one Memory
// that gets more and more arrays, and has a plain text beside each of them: none is ever changed.
func TestTextsStayWhatTheyAre(t *testing.T) {
	seed, done := uint32(3), 0
	pick := func(n int) int {
		seed = seed*1664525 + 1013904223
		return int(seed>>8) % n
	}
	for range 60 {
		m := memoryOf(7, 3)
		ropes := pickedRopes(m, 5)
		texts := [][]byte{}
		for _, r := range ropes {
			texts = append(texts, textIn(m, r))
		}
		for range 60 {
			k, l := pick(len(ropes)), pick(len(ropes))
			next, r, text, ok := anyChange(m, ropes[k], ropes[l], texts[k], texts[l], pick)
			if !ok {
				continue
			}
			m, ropes, texts, done = next, append(ropes, r), append(texts, text), done+1
			for i, r := range ropes {
				checkRope(t, "one of many", m, r, texts[i])
			}
		}
	}
	if done < 1500 {
		t.Error("few changes could be made:", done)
	}
}

// anyChange makes a Rope of one or two others in one way that pick picks: it returns the Memory, the
// Rope, the text that it should have, and whether it could be made.
func anyChange(m impl.Memory, a, b impl.Rope, one, two []byte, pick func(int) int) (impl.Memory, impl.Rope, []byte, bool) {
	i := pick(len(one) + 1)
	j := i + pick(len(one)-i+1)
	list := bytes.Repeat([]byte{byte(200 + pick(50)), 7}, 1+pick(3))
	switch pick(9) {
	case 0, 1:
		next, r, ok := impl.InsertText(m, a, i, list)
		return next, r, spliced(one, i, i, list...), ok
	case 2:
		r, ok := impl.DeleteText(m, a, i, j)
		return m, r, spliced(one, i, j), ok
	case 3:
		r, ok := impl.PartText(m, a, i, j)
		return m, r, one[i:j], ok
	case 4:
		r, ok := impl.JoinRopes(m, a, b)
		return m, r, slices.Concat(one, two), ok
	case 5:
		_, r, ok := impl.SplitRope(m, a, i)
		return m, r, one[i:], ok
	case 6:
		next, r, ok := impl.FlattenRope(m, a)
		return next, r, one, ok
	case 7:
		if i == len(one) {
			return m, a, one, false
		}
		next, r, ok := impl.WriteRope(m, a, i, list[0])
		return next, r, spliced(one, i, i+1, list[0]), ok
	}
	r, ok := impl.MergeParts(m, a)
	return m, r, one, ok
}

// ropeArguments are what the functions of chapter 7 have as arguments.
type ropeArguments struct {
	m    impl.Memory
	a, b impl.Rope
	i, j int
	list []byte
}

// ropeCall calls one function of chapter 7 with those of the arguments that it has. It fails unless
// the first of the two Ropes, as many as it needs, are valid.
type ropeCall struct {
	name  string
	needs int
	call  func(x ropeArguments) []any
}

// ropeCalls has all functions of chapter 7.
func ropeCalls() []ropeCall {
	type arguments = ropeArguments
	return []ropeCall{
		{"IsRope", 0, func(x arguments) []any { return resultsOf(impl.IsRope(x.m, x.a)) }},
		{"RopeText", 1, func(x arguments) []any { return resultsOf(impl.RopeText(x.m, x.a)) }},
		{"RopeLength", 1, func(x arguments) []any { return resultsOf(impl.RopeLength(x.m, x.a)) }},
		{"FindPart", 1, func(x arguments) []any { return resultsOf(impl.FindPart(x.m, x.a, x.i)) }},
		{"JoinRopes", 2, func(x arguments) []any { return resultsOf(impl.JoinRopes(x.m, x.a, x.b)) }},
		{"SplitRope", 1, func(x arguments) []any { return resultsOf(impl.SplitRope(x.m, x.a, x.i)) }},
		{"InsertText", 1, func(x arguments) []any { return resultsOf(impl.InsertText(x.m, x.a, x.i, x.list)) }},
		{"DeleteText", 1, func(x arguments) []any { return resultsOf(impl.DeleteText(x.m, x.a, x.i, x.j)) }},
		{"PartText", 1, func(x arguments) []any { return resultsOf(impl.PartText(x.m, x.a, x.i, x.j)) }},
		{"MergeParts", 1, func(x arguments) []any { return resultsOf(impl.MergeParts(x.m, x.a)) }},
		{"FlattenRope", 1, func(x arguments) []any { return resultsOf(impl.FlattenRope(x.m, x.a)) }},
		{"SameTexts", 2, func(x arguments) []any { return resultsOf(impl.SameTexts(x.m, x.a, x.b)) }},
		{"SharedPlaces", 2, func(x arguments) []any { return resultsOf(impl.SharedPlaces(x.m, x.a, x.b)) }},
		{"WriteRope", 1, func(x arguments) []any { return resultsOf(impl.WriteRope(x.m, x.a, x.i, byte(x.j))) }},
	}
}

// TestChapter7ReturnsForAll calls each function with arguments of all kinds, valid ones and others.
func TestChapter7ReturnsForAll(t *testing.T) {
	memories := append(badMemories(), impl.Memory{}, memoryOf(4, 2), memoryOf(64, 64), fullMemory(), overlaid())
	ropes := slices.Concat(badRopes(), pickedRopes(memoryOf(2, 2), 39))
	ropes = append(ropes, impl.Rope{}, ropeOf(impl.Window{Len: 2, Cap: 3}, impl.Window{Start: 2, Len: 1, Cap: 1}), ropeOf(impl.Window{Start: 1}))
	for i, r := range ropes {
		ropes[i] = withSpareParts(r)
	}
	numbers := []int{0, 1, 2, 3, -1, 5, 64, 65, 300, 1 << 32, math.MaxInt, math.MinInt}
	lists := insertLists()
	for _, m := range memories {
		for k, a := range ropes {
			for n, i := range numbers {
				checkRopeCalls(t, ropeArguments{m, a, ropes[(7*k+n)%len(ropes)], i, numbers[(k+5*n)%len(numbers)], lists[(k+n)%len(lists)]})
				checkRopeCalls(t, ropeArguments{m, a, ropes[len(ropes)-1-n], n % 3, n%3 + n%2, lists[(k+n)%3]})
			}
		}
	}
}

// withSpareParts returns the same Rope with Windows behind its parts, which are no parts.
func withSpareParts(r impl.Rope) impl.Rope {
	spare := slices.Concat(r.Parts, slices.Repeat([]impl.Window{{Array: -7}}, impl.MaxParts))
	return ropeOf(spare[:len(r.Parts)]...)
}

// checkRopeCalls calls all functions with the same arguments.
func checkRopeCalls(t *testing.T, x ropeArguments) {
	t.Helper()
	all := func(r impl.Rope) []impl.Window { return r.Parts[:cap(r.Parts)] }
	m, list, a, b := cloned(x.m), bytes.Clone(x.list), slices.Clone(all(x.a)), slices.Clone(all(x.b))
	kept := func() bool {
		return equalMemories(x.m, m) && bytes.Equal(x.list, list) && slices.Equal(all(x.a), a) && slices.Equal(all(x.b), b)
	}
	one, _ := impl.IsRope(m, x.a)
	two, _ := impl.IsRope(m, x.b)
	for _, c := range ropeCalls() {
		ok := checkResults(t, c.name, func() []any { return c.call(x) }, kept)
		if ok && (c.needs > 0 && !one || c.needs > 1 && !two || !fitArguments(m, nil)) {
			t.Fatalf("%s of %v, %v on %v does not fail", c.name, x.a, x.b, m)
		}
	}
}
