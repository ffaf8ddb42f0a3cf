package tests

import (
	"bytes"
	"math"
	"math/big"
	"reflect"
	"slices"
	"strconv"
	"strings"
	"testing"

	"loop.example/g01179/impl"
)

// memoryOf returns the Memory with arrays of these numbers of bytes, no two bytes of an array the
// same, and none of them 0.
func memoryOf(sizes ...int) impl.Memory {
	m := impl.Memory{}
	for i, size := range sizes {
		array := make([]byte, size)
		for place := range array {
			array[place] = byte(1 + 65*(i%3) + place)
		}
		m.Arrays = append(m.Arrays, array)
	}
	return m
}

// fullMemory returns a Memory with MaxArrays arrays of 3 bytes.
func fullMemory() impl.Memory {
	return memoryOf(slices.Repeat([]int{3}, impl.MaxArrays)...)
}

// cloned returns a Memory with the same bytes in other memory.
func cloned(m impl.Memory) impl.Memory {
	arrays := [][]byte{}
	for _, array := range m.Arrays {
		arrays = append(arrays, bytes.Clone(array))
	}
	return impl.Memory{Arrays: arrays}
}

// equalMemories compares all bytes; nil and empty slices are the same.
func equalMemories(a, b impl.Memory) bool {
	return slices.EqualFunc(a.Arrays, b.Arrays, bytes.Equal)
}

// badMemories returns Memories of all kinds that are not valid.
func badMemories() []impl.Memory {
	return []impl.Memory{
		{Arrays: [][]byte{nil}},
		{Arrays: [][]byte{{}}},
		{Arrays: [][]byte{{1, 2}, {}}},
		{Arrays: [][]byte{{1, 2}, nil, {3}}},
		{Arrays: [][]byte{{1, 2}, make([]byte, impl.MaxSize+1)}},
		{Arrays: [][]byte{make([]byte, impl.MaxSize+1)}},
		{Arrays: [][]byte{{1, 2}, make([]byte, 1000)}},
		memoryOf(slices.Repeat([]int{2}, impl.MaxArrays+1)...),
		memoryOf(slices.Repeat([]int{2}, 1000)...),
		{Arrays: make([][]byte, 1000)},
	}
}

// badWindows returns Windows of all kinds that are none on memoryOf(4, 2).
func badWindows() []impl.Window {
	return []impl.Window{
		{Array: -1}, {Array: 2}, {Array: math.MaxInt}, {Array: math.MinInt}, {Array: 2, Len: 1, Cap: 1},
		{Start: -1}, {Start: -1, Len: 1, Cap: 1}, {Len: -1}, {Len: -1, Cap: 1}, {Cap: -1}, {Len: -1, Cap: -1},
		{Len: 2, Cap: 1}, {Len: 1}, {Start: 5}, {Start: 4, Cap: 1}, {Start: 4, Len: 1, Cap: 1}, {Cap: 5},
		{Start: 1, Len: 4, Cap: 4}, {Start: 3, Len: 1, Cap: 2}, {Array: 1, Start: 3}, {Array: 1, Cap: 3},
		{Start: math.MaxInt}, {Start: math.MinInt}, {Len: math.MinInt}, {Cap: math.MaxInt}, {Cap: math.MinInt},
		{Start: math.MaxInt, Len: 1, Cap: math.MaxInt}, {Start: 1, Len: 1, Cap: math.MaxInt},
		{Start: math.MaxInt, Len: 1, Cap: 1}, {Start: math.MinInt, Len: 1, Cap: math.MaxInt},
		{Start: -2, Len: 3, Cap: 4}, {Start: math.MinInt, Len: 0, Cap: math.MinInt},
		{Start: 2, Len: math.MaxInt, Cap: math.MaxInt}, {Array: 1 << 32, Len: 1, Cap: 1}, {Start: 1 << 32, Len: 1, Cap: 1},
	}
}

// allWindows returns all Windows on a Memory, in lexicographic order.
func allWindows(m impl.Memory) []impl.Window {
	all := []impl.Window{}
	for i, array := range m.Arrays {
		for start := 0; start <= len(array); start++ {
			for length := 0; start+length <= len(array); length++ {
				for room := length; start+room <= len(array); room++ {
					all = append(all, impl.Window{Array: i, Start: start, Len: length, Cap: room})
				}
			}
		}
	}
	return all
}

// somePairs are pairs of Windows on memoryOf(64, 64) at the limits, many of them not apart.
func somePairs() [][2]impl.Window {
	all := []impl.Window{
		{Len: 64, Cap: 64}, {Len: 63, Cap: 64}, {Len: 63, Cap: 63}, {Start: 1, Len: 63, Cap: 63}, {Cap: 64}, {},
		{Start: 64}, {Start: 63, Len: 1, Cap: 1}, {Start: 32, Len: 32, Cap: 32}, {Len: 32, Cap: 32}, {Len: 32, Cap: 64},
		{Start: 31, Len: 2, Cap: 33}, {Start: 16, Len: 32, Cap: 40}, {Start: 17, Len: 33, Cap: 33}, {Start: 10, Cap: 1},
		{Array: 1, Len: 64, Cap: 64}, {Array: 1, Start: 5, Len: 40, Cap: 59}, {Array: 1, Start: 64},
	}
	pairs := [][2]impl.Window{}
	for _, a := range all {
		for _, b := range all {
			pairs = append(pairs, [2]impl.Window{a, b})
		}
	}
	return pairs
}

// allPairs returns all pairs of Windows on a Memory.
func allPairs(m impl.Memory) [][2]impl.Window {
	pairs := [][2]impl.Window{}
	for _, a := range allWindows(m) {
		for _, b := range allWindows(m) {
			pairs = append(pairs, [2]impl.Window{a, b})
		}
	}
	return pairs
}

// checkPairs makes a check for all pairs of Windows on a small Memory, and for those at the limits.
func checkPairs(t *testing.T, check func(t *testing.T, m impl.Memory, a, b impl.Window)) {
	t.Helper()
	small, great := memoryOf(5, 2), memoryOf(64, 64)
	for _, pair := range allPairs(small) {
		check(t, small, pair[0], pair[1])
	}
	for _, pair := range somePairs() {
		check(t, great, pair[0], pair[1])
	}
}

// seenIn returns the bytes that a Window sees, taken place by place.
func seenIn(m impl.Memory, w impl.Window) []byte {
	list := []byte{}
	for i := range w.Len {
		list = append(list, m.Arrays[w.Array][w.Start+i])
	}
	return list
}

// sees reports whether a Window sees a place.
func sees(w impl.Window, array, place int) bool {
	return w.Array == array && place >= w.Start && place < w.Start+w.Len
}

func TestIsMemory(t *testing.T) {
	for _, m := range []impl.Memory{
		{}, {Arrays: [][]byte{}}, memoryOf(1), memoryOf(impl.MaxSize), memoryOf(4, 2), fullMemory(),
		memoryOf(slices.Repeat([]int{impl.MaxSize}, impl.MaxArrays)...), {Arrays: [][]byte{{0}}},
	} {
		if !impl.IsMemory(m) {
			t.Error("no Memory:", m)
		}
	}
	for _, m := range badMemories() {
		if impl.IsMemory(m) {
			t.Error("a Memory:", len(m.Arrays), m)
		}
	}
}

func TestIsWindow(t *testing.T) {
	m := memoryOf(4, 2)
	numbers := []int{math.MinInt, math.MinInt + 1, -2, -1, 0, 1, 2, 3, 4, 5, math.MaxInt - 1, math.MaxInt}
	for _, array := range numbers {
		for _, start := range numbers {
			for _, length := range numbers {
				for _, room := range numbers {
					w := impl.Window{Array: array, Start: start, Len: length, Cap: room}
					want := array >= 0 && array < 2 && start >= 0 && length >= 0 && length <= room
					end := new(big.Int).Add(big.NewInt(int64(start)), big.NewInt(int64(room)))
					want = want && end.Cmp(big.NewInt(int64(4-2*array))) <= 0
					if is, ok := impl.IsWindow(m, w); !ok || is != want {
						t.Fatalf("IsWindow of %v = %v, %v", w, is, ok)
					}
				}
			}
		}
	}
	for _, w := range badWindows() {
		if is, ok := impl.IsWindow(m, w); is || !ok {
			t.Errorf("IsWindow of %v = %v, %v", w, is, ok)
		}
	}
}

func TestIsWindowAtLimits(t *testing.T) {
	m := memoryOf(impl.MaxSize)
	for _, w := range allWindows(m) {
		if is, ok := impl.IsWindow(m, w); !is || !ok {
			t.Fatalf("IsWindow of %v = %v, %v", w, is, ok)
		}
	}
	if is, ok := impl.IsWindow(impl.Memory{}, impl.Window{}); is || !ok {
		t.Error("a Window on no array", is, ok)
	}
	if is, ok := impl.IsWindow(fullMemory(), impl.Window{Array: 15, Start: 1, Len: 1, Cap: 2}); !is || !ok {
		t.Error("a Window on the last array", is, ok)
	}
	for _, bad := range badMemories() {
		if is, ok := impl.IsWindow(bad, impl.Window{Len: 1, Cap: 1}); is || ok {
			t.Error("a Window on no Memory", is, ok)
		}
	}
}

func TestNewArray(t *testing.T) {
	for arrays := range impl.MaxArrays {
		m := memoryOf(slices.Repeat([]int{5}, arrays)...)
		for n := 1; n <= impl.MaxSize; n++ {
			want := cloned(m)
			want.Arrays = append(want.Arrays, make([]byte, n))
			got, w, ok := impl.NewArray(m, n)
			if !ok || !equalMemories(got, want) || w != (impl.Window{Array: arrays, Len: n, Cap: n}) {
				t.Fatalf("%d arrays, %d bytes: %v, %v, %v", arrays, n, got, w, ok)
			}
		}
		for _, n := range []int{0, -1, impl.MaxSize + 1, math.MaxInt, math.MinInt, 1<<32 + 1} {
			if got, w, ok := impl.NewArray(m, n); ok || len(got.Arrays) != 0 || w != (impl.Window{}) {
				t.Errorf("%d arrays, %d bytes: %v, %v, %v", arrays, n, got, w, ok)
			}
		}
	}
	if got, w, ok := impl.NewArray(fullMemory(), 1); ok || len(got.Arrays) != 0 || w != (impl.Window{}) {
		t.Errorf("one array too many: %v, %v, %v", got, w, ok)
	}
}

func TestWholeWindow(t *testing.T) {
	m := memoryOf(4, 1, impl.MaxSize)
	for array, size := range []int{4, 1, impl.MaxSize} {
		if w, ok := impl.WholeWindow(m, array); !ok || w != (impl.Window{Array: array, Len: size, Cap: size}) {
			t.Errorf("array %d: %v, %v", array, w, ok)
		}
	}
	for _, array := range []int{-1, 3, math.MaxInt, math.MinInt, 1 << 32} {
		if w, ok := impl.WholeWindow(m, array); ok || w != (impl.Window{}) {
			t.Errorf("array %d: %v, %v", array, w, ok)
		}
	}
	if w, ok := impl.WholeWindow(impl.Memory{}, 0); ok || w != (impl.Window{}) {
		t.Error("no arrays", w, ok)
	}
}

func TestReadBytes(t *testing.T) {
	for _, m := range []impl.Memory{memoryOf(4, 2), memoryOf(1), memoryOf(3, impl.MaxSize)} {
		for _, w := range allWindows(m) {
			want := seenIn(m, w)
			if got, ok := impl.WindowBytes(m, w); !ok || !bytes.Equal(got, want) {
				t.Fatalf("WindowBytes of %v = %v, %v", w, got, ok)
			}
			for _, i := range []int{math.MinInt, -1, 0, 1, w.Len - 1, w.Len, w.Cap - 1, w.Cap, math.MaxInt} {
				b, ok := impl.ReadAt(m, w, i)
				if inside := i >= 0 && i < w.Len; ok != inside || inside && b != want[i] || !inside && b != 0 {
					t.Fatalf("ReadAt of %v at %d = %d, %v", w, i, b, ok)
				}
			}
		}
	}
}

func TestWriteAt(t *testing.T) {
	for _, m := range []impl.Memory{memoryOf(4, 2), memoryOf(1), memoryOf(3, impl.MaxSize)} {
		for _, w := range allWindows(m) {
			for _, i := range []int{math.MinInt, -1, 0, 1, w.Len - 1, w.Len, w.Cap - 1, w.Cap, math.MaxInt} {
				got, ok := impl.WriteAt(m, w, i, 200)
				if i < 0 || i >= w.Len {
					if ok || len(got.Arrays) != 0 {
						t.Fatalf("WriteAt of %v at %d = %v, %v", w, i, got, ok)
					}
					continue
				}
				want := cloned(m)
				want.Arrays[w.Array][w.Start+i] = 200
				if !ok || !equalMemories(got, want) {
					t.Fatalf("WriteAt of %v at %d = %v, %v", w, i, got, ok)
				}
			}
		}
	}
}

// TestWritesAreSeen writes through each Window, and looks through each other one.
func TestWritesAreSeen(t *testing.T) {
	m := memoryOf(3, 2)
	for _, pair := range allPairs(m) {
		w, other := pair[0], pair[1]
		for i := range w.Len {
			got, ok := impl.WriteAt(m, w, i, 200)
			list, fine := impl.WindowBytes(got, other)
			want := seenIn(m, other)
			if sees(other, w.Array, w.Start+i) {
				want[w.Start+i-other.Start] = 200
			}
			if !ok || !fine || !bytes.Equal(list, want) {
				t.Fatalf("written through %v at %d: %v sees %v", w, i, other, list)
			}
		}
	}
}

func TestSlices(t *testing.T) {
	m := memoryOf(5, 2)
	for _, w := range allWindows(m) {
		numbers := []int{math.MinInt, -1, 0, 1, 2, 3, 4, 5, 6, math.MaxInt}
		for _, i := range numbers {
			for _, j := range numbers {
				checkSliceTwo(t, m, w, i, j)
				for _, k := range numbers {
					checkSliceThree(t, m, w, i, j, k)
				}
			}
		}
	}
}

func checkSliceTwo(t *testing.T, m impl.Memory, w impl.Window, i, j int) {
	t.Helper()
	want, fine := impl.Window{}, 0 <= i && i <= j && j <= w.Cap
	if fine {
		want = impl.Window{Array: w.Array, Start: w.Start + i, Len: j - i, Cap: w.Cap - i}
	}
	if got, ok := impl.SliceTwo(m, w, i, j); ok != fine || got != want {
		t.Fatalf("SliceTwo of %v at %d, %d = %v, %v", w, i, j, got, ok)
	}
	if got, ok := impl.SliceThree(m, w, i, j, w.Cap); ok != fine || got != want {
		t.Fatalf("SliceTwo of %v at %d, %d is not SliceThree: %v, %v", w, i, j, got, ok)
	}
}

func checkSliceThree(t *testing.T, m impl.Memory, w impl.Window, i, j, k int) {
	t.Helper()
	want, fine := impl.Window{}, 0 <= i && i <= j && j <= k && k <= w.Cap
	if fine {
		want = impl.Window{Array: w.Array, Start: w.Start + i, Len: j - i, Cap: k - i}
	}
	got, ok := impl.SliceThree(m, w, i, j, k)
	if ok != fine || got != want {
		t.Fatalf("SliceThree of %v at %d, %d, %d = %v, %v", w, i, j, k, got, ok)
	}
	if is, _ := impl.IsWindow(m, got); fine && !is {
		t.Fatalf("SliceThree of %v at %d, %d, %d is no Window", w, i, j, k)
	}
}

func TestSliceAtLimits(t *testing.T) {
	m := memoryOf(impl.MaxSize)
	w, _ := impl.WholeWindow(m, 0)
	if got, ok := impl.SliceTwo(m, w, 64, 64); !ok || got != (impl.Window{Start: 64}) {
		t.Error("nothing at the end", got, ok)
	}
	if got, ok := impl.SliceThree(m, w, 0, 0, 0); !ok || got != (impl.Window{}) {
		t.Error("nothing at the start", got, ok)
	}
	if got, ok := impl.SliceTwo(m, impl.Window{Start: 60, Cap: 4}, 1, 4); !ok || got != (impl.Window{Start: 61, Len: 3, Cap: 3}) {
		t.Error("what was room", got, ok)
	}
	if got, ok := impl.SliceTwo(m, impl.Window{Start: 10, Len: 4, Cap: 4}, 1, 5); ok || got != (impl.Window{}) {
		t.Error("what is behind the Cap", got, ok)
	}
}

func TestClipWindow(t *testing.T) {
	m := memoryOf(5, 2, impl.MaxSize)
	for _, w := range allWindows(m) {
		want := w
		want.Cap = w.Len
		if got, ok := impl.ClipWindow(m, w); !ok || got != want {
			t.Fatalf("ClipWindow of %v = %v, %v", w, got, ok)
		}
	}
}

func TestCopyInto(t *testing.T) { checkPairs(t, checkCopy) }

func checkCopy(t *testing.T, m impl.Memory, to, from impl.Window) {
	t.Helper()
	n := min(to.Len, from.Len)
	want := cloned(m)
	for i, b := range seenIn(m, from)[:n] {
		want.Arrays[to.Array][to.Start+i] = b
	}
	got, many, ok := impl.CopyInto(m, to, from)
	if !ok || many != n || !equalMemories(got, want) {
		t.Fatalf("CopyInto %v from %v = %v, %d, %v", to, from, got, many, ok)
	}
}

// appended returns what the document tells of appending: the Memory, the Window, and whether it is.
func appended(m impl.Memory, w impl.Window, list []byte) (impl.Memory, impl.Window, bool) {
	need, want := w.Len+len(list), cloned(m)
	if need <= w.Cap {
		for i, b := range list {
			want.Arrays[w.Array][w.Start+w.Len+i] = b
		}
		w.Len = need
		return want, w, true
	}
	if need > impl.MaxSize || len(m.Arrays) == impl.MaxArrays {
		return impl.Memory{}, impl.Window{}, false
	}
	size := 2 * w.Cap
	if need > size {
		size = need
	}
	if size > impl.MaxSize {
		size = impl.MaxSize
	}
	array := append(seenIn(m, w), list...)
	for len(array) < size {
		array = append(array, 0)
	}
	want.Arrays = append(want.Arrays, array)
	return want, impl.Window{Array: len(m.Arrays), Len: need, Cap: size}, true
}

func checkAppend(t *testing.T, m impl.Memory, w impl.Window, list []byte) {
	t.Helper()
	want, v, fine := appended(m, w, list)
	got, u, ok := impl.AppendBytes(m, w, list)
	if ok != fine || u != v || !equalMemories(got, want) {
		t.Fatalf("AppendBytes of %d bytes to %v = %v, %v, %v, not %v, %v, %v", len(list), w, got, u, ok, want, v, fine)
	}
	if !ok {
		return
	}
	if seen, fine := impl.WindowBytes(got, u); !fine || !bytes.Equal(seen, append(seenIn(m, w), list...)) {
		t.Fatalf("AppendBytes of %d bytes to %v: %v sees %v", len(list), w, u, seen)
	}
}

func TestAppendBytes(t *testing.T) {
	list := bytes.Repeat([]byte{201, 202, 203, 204, 0, 205}, 12)
	for _, m := range []impl.Memory{memoryOf(5, 2), fullMemory(), memoryOf(slices.Repeat([]int{3}, 15)...)} {
		for _, w := range allWindows(m) {
			for _, n := range []int{0, 1, 2, 3, 4, 5, 6, 11, 59, 60, 61, 62, 63, 64, 65, 66, 72} {
				checkAppend(t, m, w, list[:n])
			}
		}
	}
	m := memoryOf(2, impl.MaxSize)
	for _, w := range allWindows(m) {
		for _, n := range []int{0, 1, w.Cap - w.Len, w.Cap - w.Len + 1, w.Cap + 1, 64 - w.Len, 65 - w.Len} {
			checkAppend(t, m, w, list[:n])
		}
	}
	checkAppend(t, m, impl.Window{Len: 1, Cap: 2}, nil)
	checkAppend(t, m, impl.Window{Len: 1, Cap: 2}, make([]byte, 1<<20))
}

func TestAppendOfNothing(t *testing.T) {
	for _, m := range []impl.Memory{memoryOf(4, 2), fullMemory(), memoryOf(impl.MaxSize)} {
		for _, w := range allWindows(m) {
			for _, list := range [][]byte{nil, {}} {
				if got, v, ok := impl.AppendBytes(m, w, list); !ok || v != w || !equalMemories(got, m) {
					t.Fatalf("nothing appended to %v: %v, %v, %v", w, got, v, ok)
				}
			}
			none := impl.Window{Start: len(m.Arrays[0])}
			if got, v, ok := impl.AppendWindow(m, w, none); !ok || v != w || !equalMemories(got, m) {
				t.Fatalf("an empty Window appended to %v: %v, %v, %v", w, got, v, ok)
			}
		}
	}
}

// TestAppendAtLimits has the cases by hand that the document names: just enough room, the sizes of
// new arrays, and what fails.
func TestAppendAtLimits(t *testing.T) {
	m, full := memoryOf(64, 40, 3), fullMemory()
	for _, c := range []struct {
		m    impl.Memory
		w    impl.Window
		n    int
		want impl.Window
		fine bool
	}{
		{m, impl.Window{Len: 60, Cap: 64}, 4, impl.Window{Len: 64, Cap: 64}, true},
		{m, impl.Window{Len: 60, Cap: 64}, 5, impl.Window{}, false},
		{m, impl.Window{Len: 64, Cap: 64}, 1, impl.Window{}, false},
		{m, impl.Window{Cap: 64}, 64, impl.Window{Len: 64, Cap: 64}, true},
		{m, impl.Window{Cap: 63}, 64, impl.Window{Array: 3, Len: 64, Cap: 64}, true},
		{m, impl.Window{Cap: 63}, 65, impl.Window{}, false},
		{m, impl.Window{Array: 1, Len: 40, Cap: 40}, 1, impl.Window{Array: 3, Len: 41, Cap: 64}, true},
		{m, impl.Window{Array: 1, Len: 32, Cap: 32}, 1, impl.Window{Array: 3, Len: 33, Cap: 64}, true},
		{m, impl.Window{Array: 1, Len: 31, Cap: 31}, 1, impl.Window{Array: 3, Len: 32, Cap: 62}, true},
		{m, impl.Window{Array: 1, Len: 1, Cap: 3}, 2, impl.Window{Array: 1, Len: 3, Cap: 3}, true},
		{m, impl.Window{Array: 1, Len: 1, Cap: 3}, 3, impl.Window{Array: 3, Len: 4, Cap: 6}, true},
		{m, impl.Window{Array: 1, Len: 1, Cap: 3}, 6, impl.Window{Array: 3, Len: 7, Cap: 7}, true},
		{m, impl.Window{Array: 2, Start: 3}, 1, impl.Window{Array: 3, Len: 1, Cap: 1}, true},
		{m, impl.Window{Array: 2, Start: 1}, 2, impl.Window{Array: 3, Len: 2, Cap: 2}, true},
		{full, impl.Window{Array: 15, Len: 1, Cap: 3}, 2, impl.Window{Array: 15, Len: 3, Cap: 3}, true},
		{full, impl.Window{Array: 15, Len: 1, Cap: 3}, 3, impl.Window{}, false},
		{full, impl.Window{Array: 15, Len: 1, Cap: 1}, 1, impl.Window{}, false},
	} {
		list := bytes.Repeat([]byte{9}, c.n)
		if _, w, ok := impl.AppendBytes(c.m, c.w, list); ok != c.fine || w != c.want {
			t.Errorf("%d bytes to %v: %v, %v", c.n, c.w, w, ok)
		}
		checkAppend(t, c.m, c.w, list)
	}
}

// TestAppendWritesThrough: whoever sees the room sees the bytes that are appended to it, and
// nobody sees any if the Window moves.
func TestAppendWritesThrough(t *testing.T) {
	m := memoryOf(4, 2)
	for _, pair := range allPairs(m) {
		w, other := pair[0], pair[1]
		for n := range 6 {
			got, _, ok := impl.AppendBytes(m, w, bytes.Repeat([]byte{200}, n))
			want := seenIn(m, other)
			for i := range want {
				place := other.Start + i - w.Start - w.Len
				if w.Len+n <= w.Cap && w.Array == other.Array && place >= 0 && place < n {
					want[i] = 200
				}
			}
			if list, fine := impl.WindowBytes(got, other); !ok || !fine || !bytes.Equal(list, want) {
				t.Fatalf("%d bytes to %v: %v sees %v", n, w, other, list)
			}
		}
	}
}

func TestAppendWindow(t *testing.T) {
	checkPairs(t, checkAppendWindow)
	full := fullMemory()
	for _, from := range allWindows(full) {
		checkAppendWindow(t, full, impl.Window{Array: 3, Start: 1, Len: 1, Cap: 2}, from)
	}
}

func checkAppendWindow(t *testing.T, m impl.Memory, w, from impl.Window) {
	t.Helper()
	want, v, fine := appended(m, w, seenIn(m, from))
	got, u, ok := impl.AppendWindow(m, w, from)
	if ok != fine || u != v || !equalMemories(got, want) {
		t.Fatalf("AppendWindow of %v to %v = %v, %v, %v, not %v, %v, %v", from, w, got, u, ok, want, v, fine)
	}
}

// TestAppendOfOwnBytes: a list may lie in the Memory itself, in the room to which it is appended.
func TestAppendOfOwnBytes(t *testing.T) {
	m := memoryOf(6)
	list := m.Arrays[0][1:5]
	got, w, ok := impl.AppendBytes(m, impl.Window{Len: 2, Cap: 6}, list)
	if !ok || w != (impl.Window{Len: 6, Cap: 6}) || !bytes.Equal(got.Arrays[0], []byte{1, 2, 2, 3, 4, 5}) {
		t.Error("own bytes", got, w, ok)
	}
	if !equalMemories(m, memoryOf(6)) || !bytes.Equal(list, []byte{2, 3, 4, 5}) {
		t.Error("the arguments are changed", m, list)
	}
}

func TestAppendBehindClip(t *testing.T) {
	m := memoryOf(4, 2)
	for _, w := range allWindows(m) {
		clip, fine := impl.ClipWindow(m, w)
		got, v, ok := impl.AppendBytes(m, clip, []byte{200})
		if !fine || !ok || v.Array != 2 || len(got.Arrays) != 3 || !equalMemories(impl.Memory{Arrays: got.Arrays[:2]}, m) {
			t.Fatalf("appended to %v behind ClipWindow: %v, %v, %v", w, got, v, ok)
		}
	}
}

func TestFillAndReverse(t *testing.T) {
	for _, m := range []impl.Memory{memoryOf(5, 2), memoryOf(1), memoryOf(3, impl.MaxSize)} {
		for _, w := range allWindows(m) {
			filled, turned := cloned(m), cloned(m)
			for i := range w.Len {
				filled.Arrays[w.Array][w.Start+i] = 200
				turned.Arrays[w.Array][w.Start+i] = m.Arrays[w.Array][w.Start+w.Len-1-i]
			}
			if got, ok := impl.FillWindow(m, w, 200); !ok || !equalMemories(got, filled) {
				t.Fatalf("FillWindow of %v = %v, %v", w, got, ok)
			}
			got, ok := impl.ReverseWindow(m, w)
			if !ok || !equalMemories(got, turned) {
				t.Fatalf("ReverseWindow of %v = %v, %v", w, got, ok)
			}
			if back, ok := impl.ReverseWindow(got, w); !ok || !equalMemories(back, m) {
				t.Fatalf("ReverseWindow of %v twice = %v, %v", w, back, ok)
			}
		}
	}
}

// sameTexts returns a Memory in which many Windows see the same bytes, and bytes at both ends of
// their range.
func sameTexts() impl.Memory {
	return impl.Memory{Arrays: [][]byte{{1, 2, 1, 2, 255}, {1, 2, 0}, {128, 127}, {0, 0}}}
}

func TestSameBytesAndOrderOf(t *testing.T) {
	m := sameTexts()
	for _, pair := range allPairs(m) {
		a, b := pair[0], pair[1]
		order := slices.Compare(seenIn(m, a), seenIn(m, b))
		if got, ok := impl.OrderOf(m, a, b); !ok || got != order {
			t.Fatalf("OrderOf %v and %v = %d, %v", a, b, got, ok)
		}
		if got, ok := impl.SameBytes(m, a, b); !ok || got != (order == 0) {
			t.Fatalf("SameBytes of %v and %v = %v, %v", a, b, got, ok)
		}
	}
	great := memoryOf(64, 64)
	great.Arrays[1] = bytes.Clone(great.Arrays[0])
	a, b := impl.Window{Len: 64, Cap: 64}, impl.Window{Array: 1, Len: 64, Cap: 64}
	if got, ok := impl.SameBytes(great, a, b); !ok || !got {
		t.Error("two arrays of the greatest size with the same bytes", got, ok)
	}
	great.Arrays[1][63]++
	if got, ok := impl.OrderOf(great, a, b); !ok || got != -1 {
		t.Error("the last bytes differ", got, ok)
	}
}

func TestFindByte(t *testing.T) {
	for _, m := range []impl.Memory{sameTexts(), memoryOf(3, impl.MaxSize)} {
		for _, w := range allWindows(m) {
			for _, b := range []byte{0, 1, 2, 3, 66, 70, 127, 128, 129, 255} {
				want := -1
				for i, c := range seenIn(m, w) {
					if c == b && want < 0 {
						want = i
					}
				}
				if got, ok := impl.FindByte(m, w, b); !ok || got != want {
					t.Fatalf("FindByte of %d in %v = %d, %v", b, w, got, ok)
				}
			}
		}
	}
}

func TestAreApart(t *testing.T) { checkPairs(t, checkApart) }

func checkApart(t *testing.T, m impl.Memory, a, b impl.Window) {
	t.Helper()
	want := true
	for array, list := range m.Arrays {
		for place := range list {
			want = want && !(sees(a, array, place) && sees(b, array, place))
		}
	}
	if got, ok := impl.AreApart(m, a, b); !ok || got != want {
		t.Fatalf("AreApart of %v and %v = %v, %v", a, b, got, ok)
	}
}

// TestApartWindowsSeeWhatTheySaw: what is written through a Window is not seen by one that is
// apart from it; appends write to the room, so that they are looked at as Windows on this.
func TestApartWindowsSeeWhatTheySaw(t *testing.T) {
	m := memoryOf(4, 2)
	for _, pair := range allPairs(m) {
		w, other := pair[0], pair[1]
		room, _ := impl.SliceTwo(m, w, w.Len, w.Cap)
		filled, _ := impl.FillWindow(m, w, 200)
		turned, _ := impl.ReverseWindow(m, w)
		copied, _, _ := impl.CopyInto(m, w, impl.Window{Len: 3, Cap: 3})
		grown, _, _ := impl.AppendBytes(m, w, bytes.Repeat([]byte{200}, w.Cap-w.Len))
		if apart, _ := impl.AreApart(m, w, other); apart {
			checkUnseen(t, other, m, filled, turned, copied)
		}
		if apart, _ := impl.AreApart(m, room, other); apart {
			checkUnseen(t, other, m, grown)
		}
	}
}

func checkUnseen(t *testing.T, w impl.Window, m impl.Memory, changed ...impl.Memory) {
	t.Helper()
	for i, c := range changed {
		if list, ok := impl.WindowBytes(c, w); !ok || !bytes.Equal(list, seenIn(m, w)) {
			t.Fatalf("change %d: %v sees %v", i, w, list)
		}
	}
}

func TestWindowText(t *testing.T) {
	for _, c := range []struct {
		w    impl.Window
		want string
	}{
		{impl.Window{}, "0:0:0:0"},
		{impl.Window{Array: 1, Start: 2, Len: 3, Cap: 4}, "1:2:3:4"},
		{impl.Window{Array: -1, Start: -20, Len: -300, Cap: -4000}, "-1:-20:-300:-4000"},
		{impl.Window{Array: 1000000, Start: -1000000, Len: 999999, Cap: 10}, "1000000:-1000000:999999:10"},
		{impl.Window{Array: math.MaxInt, Start: math.MinInt, Len: math.MaxInt, Cap: math.MinInt},
			"9223372036854775807:-9223372036854775808:9223372036854775807:-9223372036854775808"},
	} {
		if got := impl.WindowText(c.w); got != c.want {
			t.Errorf("WindowText of %v = %q", c.w, got)
		}
	}
	for _, w := range badWindows() {
		want := strconv.Itoa(w.Array) + ":" + strconv.Itoa(w.Start) + ":" + strconv.Itoa(w.Len) + ":" + strconv.Itoa(w.Cap)
		if got := impl.WindowText(w); got != want {
			t.Errorf("WindowText of %v = %q", w, got)
		}
	}
}

func TestMemoryText(t *testing.T) {
	greatest := impl.Memory{Arrays: slices.Repeat([][]byte{bytes.Repeat([]byte{0xe7}, 64)}, 16)}
	for _, c := range []struct {
		m    impl.Memory
		want string
	}{
		{impl.Memory{}, "none"},
		{impl.Memory{Arrays: [][]byte{}}, "none"},
		{impl.Memory{Arrays: [][]byte{{0}}}, "00"},
		{impl.Memory{Arrays: [][]byte{{1, 2, 3, 4}, {9}}}, "01020304 09"},
		{impl.Memory{Arrays: [][]byte{{0xab, 0xf0, 0x0f, 0xff}, {0x9a, 0xa9}, {0x7f, 0x80}}}, "abf00fff 9aa9 7f80"},
		{greatest, strings.Repeat(strings.Repeat("e7", 64)+" ", 15) + strings.Repeat("e7", 64)},
	} {
		if got, ok := impl.MemoryText(c.m); !ok || got != c.want {
			t.Errorf("MemoryText = %q, %v, not %q", got, ok, c.want)
		}
		if got, ok := impl.ParseMemory(c.want); !ok || !equalMemories(got, c.m) {
			t.Errorf("ParseMemory of %q = %v, %v", c.want, got, ok)
		}
	}
	for _, m := range badMemories() {
		if got, ok := impl.MemoryText(m); ok || got != "" {
			t.Errorf("MemoryText of %d arrays = %q, %v", len(m.Arrays), got, ok)
		}
	}
}

func TestParseMemoryRefusesOtherTexts(t *testing.T) {
	long := strings.Repeat("a5", impl.MaxSize)
	for _, s := range []string{
		"", " ", "  ", "none ", " none", "None", "non", "nonenone", "none 00", "00 none", "0", "000", "00 0", "0 00",
		" 00", "00 ", "00  00", "00\n", "00\n00", "00\t00", "0g", "g0", "0G", "0A", "A0", "AB", "aB", "0x", "0x00", "-1",
		"+1", "0 0", "0:", "/0", "0`", "a\x00", "\xc3\xa9", "\uff10\uff10", "00,00", "é", "0é0", "00#00",
		long + "a5", long + "a", "a" + long, long + " " + long + "00", "00 " + long + "00",
		strings.Repeat("00 ", impl.MaxArrays), strings.Repeat("00 ", impl.MaxArrays) + "00",
		strings.Repeat(long+" ", impl.MaxArrays) + "00", strings.Repeat(long+" ", impl.MaxArrays),
		strings.Repeat("0", 4000), strings.Repeat("00", 4001), strings.Repeat(" ", 4000), strings.Repeat("00 ", 1<<18),
	} {
		if got, ok := impl.ParseMemory(s); ok || len(got.Arrays) != 0 {
			t.Errorf("ParseMemory of %.40q = %v, %v", s, got, ok)
		}
	}
}

// TestParseMemoryTakesJustWhatMemoryTextWrites tries all short texts of some bytes, and all pairs
// of bytes.
func TestParseMemoryTakesJustWhatMemoryTextWrites(t *testing.T) {
	texts := append(allStrings("0af gF", 5), allStrings("none", 4)...)
	for high := range 256 {
		for low := range 256 {
			texts = append(texts, string([]byte{byte(high), byte(low)}))
		}
	}
	for _, s := range texts {
		got, ok := impl.ParseMemory(s)
		back, fine := "", false
		if ok {
			back, fine = impl.MemoryText(got)
		}
		if ok != isMemoryText(s) || ok && (!fine || back != s) || !ok && len(got.Arrays) != 0 {
			t.Fatalf("ParseMemory of %q = %v, %v, written as %q", s, got, ok, back)
		}
	}
}

// isMemoryText reports whether a text with few arrays of few bytes is one of a Memory.
func isMemoryText(s string) bool {
	if s == "none" {
		return true
	}
	for _, part := range strings.Split(s, " ") {
		if part == "" || len(part)%2 != 0 || strings.Trim(part, "0123456789abcdef") != "" {
			return false
		}
	}
	return true
}

func TestEachByteInMemoryText(t *testing.T) {
	for b := range 256 {
		m := impl.Memory{Arrays: [][]byte{{1, byte(b)}}}
		want := "01" + strconv.FormatInt(int64(256+b), 16)[1:]
		if got, ok := impl.MemoryText(m); !ok || got != want {
			t.Errorf("MemoryText of %d = %q, %v", b, got, ok)
		}
		if got, ok := impl.ParseMemory(want); !ok || !equalMemories(got, m) {
			t.Errorf("ParseMemory of %q = %v, %v", want, got, ok)
		}
	}
}

// memoryCall calls one function of chapter 2 with those of the arguments that it has, and returns
// all of its results. It fails unless the first of the two Windows, as many as it needs, are valid.
type memoryCall struct {
	name  string
	needs int
	call  func(m impl.Memory, a, b impl.Window, n [3]int, list []byte) []any
}

// resultsOf makes a list of the results of a call.
func resultsOf(results ...any) []any { return results }

// memoryCalls has all functions of chapter 2 that take a Memory.
func memoryCalls() []memoryCall {
	type memory = impl.Memory
	type window = impl.Window
	return []memoryCall{
		{"IsMemory", 0, func(m memory, a, b window, n [3]int, list []byte) []any { return resultsOf(impl.IsMemory(m)) }},
		{"IsWindow", 0, func(m memory, a, b window, n [3]int, list []byte) []any { return resultsOf(impl.IsWindow(m, a)) }},
		{"NewArray", 0, func(m memory, a, b window, n [3]int, list []byte) []any { return resultsOf(impl.NewArray(m, n[0])) }},
		{"WholeWindow", 0, func(m memory, a, b window, n [3]int, list []byte) []any { return resultsOf(impl.WholeWindow(m, n[0])) }},
		{"WindowBytes", 1, func(m memory, a, b window, n [3]int, list []byte) []any { return resultsOf(impl.WindowBytes(m, a)) }},
		{"ReadAt", 1, func(m memory, a, b window, n [3]int, list []byte) []any { return resultsOf(impl.ReadAt(m, a, n[0])) }},
		{"WriteAt", 1, func(m memory, a, b window, n [3]int, list []byte) []any {
			return resultsOf(impl.WriteAt(m, a, n[0], byte(n[1])))
		}},
		{"SliceTwo", 1, func(m memory, a, b window, n [3]int, list []byte) []any {
			return resultsOf(impl.SliceTwo(m, a, n[0], n[1]))
		}},
		{"SliceThree", 1, func(m memory, a, b window, n [3]int, list []byte) []any {
			return resultsOf(impl.SliceThree(m, a, n[0], n[1], n[2]))
		}},
		{"ClipWindow", 1, func(m memory, a, b window, n [3]int, list []byte) []any { return resultsOf(impl.ClipWindow(m, a)) }},
		{"CopyInto", 2, func(m memory, a, b window, n [3]int, list []byte) []any { return resultsOf(impl.CopyInto(m, a, b)) }},
		{"AppendBytes", 1, func(m memory, a, b window, n [3]int, list []byte) []any {
			return resultsOf(impl.AppendBytes(m, a, list))
		}},
		{"AppendWindow", 2, func(m memory, a, b window, n [3]int, list []byte) []any { return resultsOf(impl.AppendWindow(m, a, b)) }},
		{"FillWindow", 1, func(m memory, a, b window, n [3]int, list []byte) []any {
			return resultsOf(impl.FillWindow(m, a, byte(n[0])))
		}},
		{"ReverseWindow", 1, func(m memory, a, b window, n [3]int, list []byte) []any { return resultsOf(impl.ReverseWindow(m, a)) }},
		{"SameBytes", 2, func(m memory, a, b window, n [3]int, list []byte) []any { return resultsOf(impl.SameBytes(m, a, b)) }},
		{"OrderOf", 2, func(m memory, a, b window, n [3]int, list []byte) []any { return resultsOf(impl.OrderOf(m, a, b)) }},
		{"FindByte", 1, func(m memory, a, b window, n [3]int, list []byte) []any {
			return resultsOf(impl.FindByte(m, a, byte(n[0])))
		}},
		{"AreApart", 2, func(m memory, a, b window, n [3]int, list []byte) []any { return resultsOf(impl.AreApart(m, a, b)) }},
		{"MemoryText", 0, func(m memory, a, b window, n [3]int, list []byte) []any { return resultsOf(impl.MemoryText(m)) }},
	}
}

// TestChapter2ReturnsForAll calls each function with arguments of all kinds, valid ones and others.
func TestChapter2ReturnsForAll(t *testing.T) {
	memories := append(badMemories(), impl.Memory{}, memoryOf(4, 2), memoryOf(64, 64), fullMemory(), overlaid())
	windows := append(badWindows(), impl.Window{}, impl.Window{Len: 2, Cap: 3}, impl.Window{Start: 1, Len: 2, Cap: 2},
		impl.Window{Array: 1, Start: 1, Cap: 1}, impl.Window{Array: 1, Len: 2, Cap: 2}, impl.Window{Start: 4})
	numbers := [][3]int{{0, 0, 0}, {0, 1, 2}, {1, 1, 3}, {-1, 0, 1}, {1, 0, -1}, {64, 65, 300},
		{math.MaxInt, math.MinInt, math.MaxInt}, {math.MinInt, math.MaxInt, math.MinInt}, {0, math.MaxInt, math.MaxInt}}
	lists := [][]byte{nil, {7}, bytes.Repeat([]byte{7, 8}, 40)}
	for _, c := range memoryCalls() {
		for _, m := range memories {
			for i, a := range windows {
				for j, b := range windows {
					checkCall(t, c, m, a, b, numbers[(i+j)%len(numbers)], lists[(i+j)%len(lists)])
				}
			}
		}
	}
}

// overlaid returns a Memory two of whose arrays share their memory: they are two arrays all the same.
func overlaid() impl.Memory {
	list := []byte{1, 2, 3, 4, 5, 6}
	return impl.Memory{Arrays: [][]byte{list[:4], list[2:], list[:4]}}
}

// checkCall checks the results of a call, and that it fails for arguments that are not valid.
func checkCall(t *testing.T, c memoryCall, m impl.Memory, a, b impl.Window, n [3]int, list []byte) {
	t.Helper()
	memory, bytesOf := cloned(m), bytes.Clone(list)
	ok := checkResults(t, c.name, func() []any { return c.call(m, a, b, n, list) }, func() bool {
		return equalMemories(m, memory) && bytes.Equal(list, bytesOf)
	})
	if ok && !fitArguments(memory, []impl.Window{a, b}[:c.needs]) {
		t.Fatalf("%s of %v, %v on %v does not fail", c.name, a, b, m)
	}
}

// checkResults makes a call again and again: all return the same, zero values if they fail, leave
// the arguments as they were, which kept tells, and share no memory with these or with each other.
// It returns the last result, which is whether the call did not fail.
func checkResults(t *testing.T, name string, call func() []any, kept func() bool) bool {
	t.Helper()
	first, second := call(), call()
	if !reflect.DeepEqual(first, second) {
		t.Fatalf("%s is %v, and then %v", name, first, second)
	}
	last := len(first) - 1
	ok := first[last].(bool)
	for _, result := range first[:last] {
		if !ok && !isZero(result) {
			t.Fatalf("%s fails with %v", name, first)
		}
	}
	for _, result := range first {
		scribble(t, name, result)
	}
	if !kept() {
		t.Fatalf("%s changes its arguments, or shares memory with them", name)
	}
	if third := call(); !reflect.DeepEqual(third, second) {
		t.Fatalf("%s shares memory from call to call", name)
	}
	return ok
}

// isZero reports whether a result is a zero value, or an empty slice.
func isZero(result any) bool {
	if m, is := result.(impl.Memory); is {
		return len(m.Arrays) == 0
	}
	if r, is := result.(impl.Rope); is {
		return len(r.Parts) == 0
	}
	if a, is := result.(impl.Arena); is {
		return isZeroArena(a)
	}
	value := reflect.ValueOf(result)
	return value.Kind() == reflect.Slice && value.Len() == 0 || value.IsZero()
}

// fitArguments reports whether a Memory is valid and all of a list are Windows on it.
func fitArguments(m impl.Memory, list []impl.Window) bool {
	for _, w := range list {
		if is, _ := impl.IsWindow(m, w); !is {
			return false
		}
	}
	return impl.IsMemory(m)
}

// scribble writes to all memory that a result has, and checks that no two slices of it share any.
func scribble(t *testing.T, name string, result any) {
	t.Helper()
	switch x := result.(type) {
	case impl.Memory:
		scribbleSlices(t, name, x.Arrays)
	case impl.Gap:
		scribbleSlices(t, name, x.Memory.Arrays)
	case impl.Rope:
		scribble(t, name, x.Parts)
	case impl.Arena:
		scribbleSlices(t, name, x.Memory.Arrays)
		scribbleSlices(t, name, [][]int{x.Marks})
	case []impl.Window:
		for i := range x[:cap(x)] {
			x[:cap(x)][i] = impl.Window{Array: 101, Len: 102}
		}
	case []impl.Entry:
		for i := range x[:cap(x)] {
			x[:cap(x)][i] = impl.Entry{Key: [impl.KeySize]byte{101}, Value: impl.Window{Array: 102}}
		}
	case []byte:
		scribbleSlices(t, name, [][]byte{x})
	case []int:
		scribbleSlices(t, name, [][]int{x})
	case [][]int:
		scribbleSlices(t, name, x)
	case [][2]int:
		for i := range x[:cap(x)] {
			x[:cap(x)][i] = [2]int{101, 102}
		}
	}
}

// scribbleSlices writes to each of the slices up to its capacity, and to the list of them.
func scribbleSlices[T byte | int](t *testing.T, name string, list [][]T) {
	t.Helper()
	for i, slice := range list {
		copy(slice[:cap(slice)], slices.Repeat([]T{T(101 + i)}, cap(slice)))
	}
	for i, slice := range list {
		for _, x := range slice[:cap(slice)] {
			if x != T(101+i) {
				t.Fatalf("%s returns slices that share memory", name)
			}
		}
	}
	clear(list[:cap(list)])
}

func TestParseMemoryReturnsForAll(t *testing.T) {
	texts := append(oddStrings(), "none", "00", "0102 03", "abcdef 00 ff", strings.Repeat("0f", 64)+" 1f")
	for _, s := range texts {
		first, fine := impl.ParseMemory(s)
		second, ok := impl.ParseMemory(s)
		if fine != ok || !reflect.DeepEqual(first, second) || !fine && len(first.Arrays) != 0 {
			t.Errorf("ParseMemory of %.20q twice", s)
		}
		scribble(t, "ParseMemory", first)
		if third, ok := impl.ParseMemory(s); fine != ok || !reflect.DeepEqual(third, second) {
			t.Errorf("ParseMemory of %.20q shares memory from call to call", s)
		}
	}
}
