package tests

import (
	"bytes"
	"math"
	"slices"
	"testing"

	"loop.example/g01179/impl"
)

// marksUpTo returns lists of Marks for an Arena of which so much is used: none, some at the same number,
// some at others, and as many as there can be.
func marksUpTo(used int) [][]int {
	half := used / 2
	return [][]int{
		nil, {0}, {used}, {half, used}, {0, half, half, used, used}, slices.Repeat([]int{half}, impl.MaxMarks-1),
		slices.Repeat([]int{used}, impl.MaxMarks), {0, 0, 0, half, half, half, used, used},
	}
}

// arenasOn returns Arenas with a Window of a Memory as the Block, with each number used.
func arenasOn(m impl.Memory, w impl.Window) []impl.Arena {
	arenas := []impl.Arena{}
	for used := 0; used <= w.Len; used++ {
		for _, marks := range marksUpTo(used) {
			arenas = append(arenas, impl.Arena{Memory: m, Block: w, Used: used, Marks: marks})
		}
	}
	return arenas
}

// someArenas returns Arenas on memoryOf(64, 64) at the limits.
func someArenas() []impl.Arena {
	arenas, m := []impl.Arena{}, memoryOf(64, 64)
	for _, w := range []impl.Window{
		{Len: 64, Cap: 64}, {Array: 1, Len: 63, Cap: 64}, {Start: 1, Len: 63, Cap: 63}, {Array: 1, Start: 63, Len: 1, Cap: 1},
		{Cap: 64}, {Start: 64}, {Start: 7, Len: 32, Cap: 50}, {Array: 1, Start: 10, Len: 17, Cap: 40},
	} {
		for i, a := range arenasOn(m, w) {
			// The lists of Marks take turns.
			if many := len(marksUpTo(0)); i%many == i/many%many {
				arenas = append(arenas, a)
			}
		}
	}
	return arenas
}

// checkArenas makes a check for all Blocks on small Memories, one of them with MaxArrays arrays, and for
// Arenas at the limits.
func checkArenas(t *testing.T, check func(t *testing.T, a impl.Arena)) {
	t.Helper()
	for _, m := range []impl.Memory{memoryOf(5, 2), fullMemory()} {
		for _, w := range allWindows(m) {
			// One array of many that are alike will do, the last one too.
			if w.Array < 2 || w.Array == len(m.Arrays)-1 {
				for _, a := range arenasOn(m, w) {
					check(t, a)
				}
			}
		}
	}
	for _, a := range someArenas() {
		check(t, a)
	}
}

// badArenas returns Arenas of all kinds that are not valid.
func badArenas() []impl.Arena {
	m, w := memoryOf(4, 2), impl.Window{Len: 3, Cap: 4}
	arenas := []impl.Arena{
		{}, {Marks: []int{0}}, {Block: impl.Window{Len: 1, Cap: 1}}, {Memory: m, Block: impl.Window{Cap: 4}, Used: 1},
		{Memory: m, Block: impl.Window{Start: 4}, Used: -1}, {Memory: m, Block: impl.Window{Array: 1, Len: 1, Cap: 2}, Used: 2},
		{Memory: m, Block: w, Used: 3, Marks: []int{2, 1}}, {Memory: m, Block: w, Used: 3, Marks: []int{0, 3, 2}},
		{Memory: m, Block: w, Used: 3, Marks: []int{1, 0}}, {Memory: m, Block: w, Used: 3, Marks: []int{1, 0, 1}},
		{Memory: m, Block: w, Used: 2, Marks: []int{0, 3}}, {Memory: m, Block: w, Used: 2, Marks: []int{0, 3, 2}},
		{Memory: m, Block: w, Used: 2, Marks: make([]int, impl.MaxMarks+1)}, {Memory: m, Block: w, Marks: make([]int, 1000)},
		{Memory: m, Block: w, Used: 3, Marks: []int{0, 0, 0, 1, 1, 2, 2, 3, 3}},
	}
	for _, bad := range badWindows() {
		arenas = append(arenas, impl.Arena{Memory: m, Block: bad}, impl.Arena{Memory: m, Block: bad, Used: 1, Marks: []int{1}}, impl.Arena{Memory: m, Block: bad, Used: bad.Len})
	}
	for _, bad := range badMemories() {
		arenas = append(arenas, impl.Arena{Memory: bad}, impl.Arena{Memory: bad, Block: impl.Window{Len: 2, Cap: 2}, Used: 1, Marks: []int{0}})
	}
	for _, n := range []int{math.MinInt, math.MinInt + 1, -3, -1, 4, 6, 1 << 32, math.MaxInt - 1, math.MaxInt} {
		arenas = append(arenas, impl.Arena{Memory: m, Block: w, Used: n}, impl.Arena{Memory: m, Block: w, Used: n, Marks: []int{0}},
			impl.Arena{Memory: m, Block: w, Used: n, Marks: []int{n}}, impl.Arena{Memory: m, Block: w, Used: 3, Marks: []int{n}},
			impl.Arena{Memory: m, Block: w, Used: 3, Marks: []int{1, n}}, impl.Arena{Memory: m, Block: w, Used: 3, Marks: []int{n, 1}})
	}
	return arenas
}

// badAsked returns Asked of all kinds that are not valid.
func badAsked() []impl.Asked {
	return []impl.Asked{
		{}, {Size: 1}, {Size: -1, Align: 1}, {Size: -1}, {Size: -3, Align: 4}, {Size: math.MinInt, Align: 1}, {Align: -1}, {Align: 17}, {Size: 1, Align: 17},
		{Align: math.MaxInt}, {Align: math.MinInt}, {Size: 1, Align: -4}, {Align: 32}, {Size: 1, Align: 1<<32 + 1}, {Size: math.MinInt, Align: math.MinInt},
	}
}

// someAsked returns Asked that are valid, with all Aligns, and sizes of which some are too much for each Arena.
func someAsked() []impl.Asked {
	list := []impl.Asked{}
	for align := 1; align <= impl.MaxAlign; align++ {
		for _, size := range []int{0, 1, 2, 3, 5, 16, 33, 48, 63, 64, 65, 1 << 32, math.MaxInt - 64, math.MaxInt} {
			list = append(list, impl.Asked{Size: size, Align: align})
		}
	}
	return list
}

// isZeroArena reports whether an Arena is the one that comes with a failure.
func isZeroArena(a impl.Arena) bool { return equalArenas(a, impl.Arena{}) }

// equalArenas compares all bytes and numbers.
func equalArenas(a, b impl.Arena) bool {
	return equalMemories(a.Memory, b.Memory) && a.Block == b.Block && a.Used == b.Used && slices.Equal(a.Marks, b.Marks)
}

// copyArena returns the same Arena in other memory.
func copyArena(a impl.Arena) impl.Arena {
	a.Memory, a.Marks = cloned(a.Memory), slices.Clone(a.Marks)
	return a
}

// isFree reports whether a place is one that the Block sees and that is not given.
func isFree(a impl.Arena, array, place int) bool {
	return sees(a.Block, array, place) && place-a.Block.Start >= a.Used
}

// givenOf returns what the document tells of giving: the Arena, the Window, and whether it can be given.
func givenOf(a impl.Arena, q impl.Asked) (impl.Arena, impl.Window, bool) {
	if q.Size < 0 || q.Size > a.Block.Len || q.Align < 1 || q.Align > 16 {
		return impl.Arena{}, impl.Window{}, false
	}
	start := a.Used
	for start%q.Align != 0 {
		start++
	}
	if start+q.Size > a.Block.Len {
		return impl.Arena{}, impl.Window{}, false
	}
	want := copyArena(a)
	want.Used = start + q.Size
	return want, impl.Window{Array: a.Block.Array, Start: a.Block.Start + start, Len: q.Size, Cap: q.Size}, true
}

// allGivenOf returns what the document tells of giving all of a list: the Arena, the Windows, how many
// bytes are lost, and whether all can be given.
func allGivenOf(a impl.Arena, list []impl.Asked) (impl.Arena, []impl.Window, int, bool) {
	want, windows, lost := copyArena(a), []impl.Window{}, 0
	for _, q := range list {
		next, w, ok := givenOf(want, q)
		if !ok {
			return impl.Arena{}, nil, 0, false
		}
		lost += w.Start - a.Block.Start - want.Used
		want, windows = next, append(windows, w)
	}
	return want, windows, lost, len(list) <= impl.MaxAsked
}

func TestIsArena(t *testing.T) {
	m := memoryOf(4, 2)
	numbers := []int{math.MinInt, -1, 0, 1, 2, 3, 4, 5, 1 << 32, math.MaxInt}
	for _, w := range append(allWindows(m), badWindows()...) {
		window, _ := impl.IsWindow(m, w)
		for _, used := range numbers {
			fine := window && used >= 0 && used <= w.Len
			for _, one := range numbers {
				if a := (impl.Arena{Memory: m, Block: w, Used: used, Marks: []int{one}}); impl.IsArena(a) != (fine && one >= 0 && one <= used) {
					t.Fatalf("IsArena of %v", a)
				}
				for _, two := range numbers {
					a := impl.Arena{Memory: m, Block: w, Used: used, Marks: []int{one, two}}
					if impl.IsArena(a) != (fine && one >= 0 && one <= two && two <= used) {
						t.Fatalf("IsArena of %v", a)
					}
				}
			}
			if a := (impl.Arena{Memory: m, Block: w, Used: used}); impl.IsArena(a) != fine {
				t.Fatalf("IsArena of %v is not %v", a, fine)
			}
		}
	}
	checkArenas(t, func(t *testing.T, a impl.Arena) {
		if !impl.IsArena(a) {
			t.Fatalf("IsArena of %v is false", a)
		}
	})
	for _, a := range badArenas() {
		if impl.IsArena(a) {
			t.Fatalf("IsArena of %v is true", a)
		}
	}
}

// TestManyMarks has lists of any number of Marks.
func TestManyMarks(t *testing.T) {
	for n, want := range map[int]bool{0: true, 1: true, 7: true, 8: true, 9: false, 16: false, 100: false} {
		for _, mark := range []int{0, 1, 2} {
			a := impl.Arena{Memory: memoryOf(2), Block: impl.Window{Len: 2, Cap: 2}, Used: 2, Marks: slices.Repeat([]int{mark}, n)}
			if impl.IsArena(a) != want {
				t.Errorf("IsArena with %d Marks at %d is not %v", n, mark, want)
			}
		}
	}
}

func TestNewArena(t *testing.T) {
	for _, m := range []impl.Memory{memoryOf(5, 2), fullMemory(), memoryOf(64, 64)} {
		windows := []impl.Window{{Len: 64, Cap: 64}, {Array: 1, Start: 64}, {Start: 3, Len: 60, Cap: 61}}
		if len(m.Arrays[0]) < 64 {
			windows = allWindows(m)
		}
		for _, w := range windows {
			if a, ok := impl.NewArena(m, w); !ok || !equalArenas(a, impl.Arena{Memory: m, Block: w}) {
				t.Fatalf("NewArena of %v = %v, %v", w, a, ok)
			}
		}
	}
	for _, w := range badWindows() {
		checkNoArena(t, memoryOf(4, 2), w)
	}
	checkNoArena(t, impl.Memory{}, impl.Window{})
	for _, m := range badMemories() {
		checkNoArena(t, m, impl.Window{})
		checkNoArena(t, m, impl.Window{Len: 1, Cap: 1})
	}
}

func checkNoArena(t *testing.T, m impl.Memory, w impl.Window) {
	t.Helper()
	if a, ok := impl.NewArena(m, w); ok || !isZeroArena(a) {
		t.Fatalf("NewArena of %v on %v = %v, %v", w, m, a, ok)
	}
}

func checkGiveFails(t *testing.T, a impl.Arena, q impl.Asked) {
	t.Helper()
	if got, w, ok := impl.Give(a, q); ok || w != (impl.Window{}) || !isZeroArena(got) {
		t.Fatalf("Give of %v in %v = %v, %v, %v", q, a, got, w, ok)
	}
	if got, w, ok := impl.GiveZero(a, q); ok || w != (impl.Window{}) || !isZeroArena(got) {
		t.Fatalf("GiveZero of %v in %v = %v, %v, %v", q, a, got, w, ok)
	}
	if got, windows, ok := impl.GiveAll(a, []impl.Asked{q}); ok || len(windows) != 0 || !isZeroArena(got) {
		t.Fatalf("GiveAll of %v in %v = %v, %v, %v", q, a, got, windows, ok)
	}
}

func TestGive(t *testing.T) {
	asked := someAsked()
	checkArenas(t, func(t *testing.T, a impl.Arena) {
		for _, q := range asked {
			checkGive(t, a, q)
		}
		for _, q := range badAsked() {
			checkGiveFails(t, a, q)
		}
	})
	for _, a := range badArenas() {
		for _, q := range append(badAsked(), impl.Asked{Align: 1}, impl.Asked{Size: 1, Align: 1}, impl.Asked{Size: 2, Align: 4}) {
			checkGiveFails(t, a, q)
		}
	}
}

// checkGive checks Give and GiveZero of one Asked, and that what is given was given to nobody before, is
// given then, and does not dangle.
func checkGive(t *testing.T, a impl.Arena, q impl.Asked) {
	t.Helper()
	want, window, fine := givenOf(a, q)
	if !fine {
		checkGiveFails(t, a, q)
		return
	}
	got, w, ok := impl.Give(a, q)
	if !ok || w != window || !equalArenas(got, want) {
		t.Fatalf("Give of %v in %v = %v, %v, %v, not %v, %v", q, a, got, w, ok, want, window)
	}
	for i := range w.Len {
		if !isFree(a, w.Array, w.Start+i) || isFree(got, w.Array, w.Start+i) {
			t.Fatalf("Give of %v in %v: %v has what was given before, or is not now", q, a, w)
		}
		want.Memory.Arrays[w.Array][w.Start+i] = 0
	}
	if is, ok := impl.IsGiven(got, w); !is || !ok || !impl.IsArena(got) {
		t.Fatalf("Give of %v in %v: IsGiven of %v = %v, %v", q, a, w, is, ok)
	}
	got, w, ok = impl.GiveZero(a, q)
	if !ok || w != window || !equalArenas(got, want) {
		t.Fatalf("GiveZero of %v in %v = %v, %v, %v, not %v, %v", q, a, got, w, ok, want, window)
	}
}

// handArena is an Arena whose Block begins at the place 3 and sees 10 bytes, with room for two more.
func handArena(used int, marks ...int) impl.Arena {
	return impl.Arena{Memory: memoryOf(16), Block: impl.Window{Start: 3, Len: 10, Cap: 12}, Used: used, Marks: marks}
}

// TestGiveByHand has multiples that are told from the Block on, not from the array, and ends of the Block.
func TestGiveByHand(t *testing.T) {
	for _, c := range []struct {
		used, size, align int
		start, length     int
	}{
		{0, 3, 1, 3, 3}, {0, 3, 16, 3, 3}, {1, 2, 4, 7, 2}, {4, 2, 4, 7, 2}, {5, 2, 4, 11, 2}, {3, 1, 2, 7, 1}, {3, 1, 3, 6, 1},
		{0, 10, 1, 3, 10}, {1, 9, 1, 4, 9}, {1, 8, 2, 5, 8}, {9, 1, 1, 12, 1}, {9, 1, 9, 12, 1}, {1, 5, 5, 8, 5}, {7, 1, 9, 12, 1},
		// Sizes of 0 take what is lost all the same, up to the end of the Block.
		{0, 0, 1, 3, 0}, {0, 0, 16, 3, 0}, {1, 0, 4, 7, 0}, {5, 0, 8, 11, 0}, {10, 0, 1, 13, 0}, {9, 0, 10, 13, 0}, {1, 0, 10, 13, 0}, {10, 0, 5, 13, 0},
	} {
		got, w, ok := impl.Give(handArena(c.used, 0), impl.Asked{Size: c.size, Align: c.align})
		window := impl.Window{Start: c.start, Len: c.length, Cap: c.length}
		if want := handArena(c.start-3+c.length, 0); !ok || w != window || !equalArenas(got, want) {
			t.Errorf("Give of %v = %v, %v, %v", c, got, w, ok)
		}
	}
	for _, c := range [][3]int{
		{0, 11, 1}, {1, 10, 1}, {10, 1, 1}, {9, 2, 1}, {9, 1, 2}, {1, 9, 2}, {5, 3, 4}, {1, 1, 10}, {10, 0, 16}, {1, 0, 16}, {1, 0, 11}, {10, 0, 3}, {9, 0, 4},
		{0, 12, 1}, {1, math.MaxInt, 1}, {10, math.MaxInt, 16}, {0, -1, 1}, {5, -5, 1}, {0, 1, 0}, {0, 0, 17}, {4, 1, -1}, {0, 0, 0},
	} {
		checkGiveFails(t, handArena(c[0]), impl.Asked{Size: c[1], Align: c[2]})
	}
}

// TestGiveZeroByHand has bytes beside those that are given, and before them, which stay.
func TestGiveZeroByHand(t *testing.T) {
	got, w, ok := impl.GiveZero(handArena(1), impl.Asked{Size: 3, Align: 4})
	if !ok || w != (impl.Window{Start: 7, Len: 3, Cap: 3}) || !bytes.Equal(got.Memory.Arrays[0], []byte{1, 2, 3, 4, 5, 6, 7, 0, 0, 0, 11, 12, 13, 14, 15, 16}) {
		t.Error("three bytes", got, w, ok)
	}
	got, w, ok = impl.GiveZero(handArena(10), impl.Asked{Align: 2})
	if !ok || w != (impl.Window{Start: 13}) || !equalArenas(got, handArena(10)) {
		t.Error("no byte", got, w, ok)
	}
}

// TestAppendedToGiven appends to what is given, which has no room: it moves, and treads on no other.
func TestAppendedToGiven(t *testing.T) {
	a, windows, ok := impl.GiveAll(handArena(1, 1), []impl.Asked{{Size: 2, Align: 2}, {Size: 0, Align: 1}, {Size: 3, Align: 1}, {Size: 1, Align: 8}})
	if !ok || len(windows) != 4 {
		t.Fatal("GiveAll", a, windows, ok)
	}
	for _, w := range windows {
		next, moved, ok := impl.AppendBytes(a.Memory, w, []byte{100})
		if !ok || moved.Array != 1 || len(next.Arrays) != 2 || !bytes.Equal(next.Arrays[0], a.Memory.Arrays[0]) {
			t.Errorf("a byte appended to %v: %v, %v, %v", w, next, moved, ok)
		}
	}
	for i := range windows {
		if trodden, ok := impl.TroddenBy(a.Memory, windows, i, 1); !ok || len(trodden) != 0 {
			t.Errorf("a byte appended to %v treads on %v, %v", windows[i], trodden, ok)
		}
	}
}

// askedLists returns lists of Asked: short ones of all kinds, some with one that is not valid, and picked
// ones of up to more than MaxAsked.
func askedLists() [][]impl.Asked {
	one := impl.Asked{Size: 1, Align: 1}
	lists := [][]impl.Asked{
		nil, {}, {one}, {{Align: 16}}, {{Size: 3, Align: 1}, {Size: 2, Align: 4}}, {{Size: 2, Align: 4}, {Size: 3, Align: 1}}, slices.Repeat([]impl.Asked{one}, impl.MaxAsked),
		slices.Repeat([]impl.Asked{{Align: 2}}, impl.MaxAsked), {{Size: 10, Align: 16}, one, {Size: 5, Align: 8}, {Size: 2, Align: 2}, {Size: 3, Align: 3}, {Align: 7}},
		{{Size: 64, Align: 1}, {Align: 1}, {Align: 16}}, {{Size: 63, Align: 1}, one}, {{Size: math.MaxInt, Align: 1}, {Size: math.MaxInt, Align: 1}}, {one, {Size: math.MaxInt, Align: 16}},
	}
	for i, bad := range badAsked() {
		lists = append(lists, []impl.Asked{bad}, slices.Insert(slices.Repeat([]impl.Asked{{Align: 1}}, i%impl.MaxAsked), i%impl.MaxAsked/2, bad), []impl.Asked{one, bad})
	}
	seed := uint32(9)
	pick := func(n int) int {
		seed = seed*1664525 + 1013904223
		return int(seed>>8) % n
	}
	for i := range 60 {
		list := []impl.Asked{}
		for range i % (impl.MaxAsked + 1) {
			list = append(list, impl.Asked{Size: pick(1 + i%12), Align: 1 + pick(1+i%16)})
		}
		lists = append(lists, list)
	}
	for _, n := range []int{impl.MaxAsked + 1, 2 * impl.MaxAsked, 1000} {
		lists = append(lists, slices.Repeat([]impl.Asked{{Align: 1}}, n), make([]impl.Asked, n))
	}
	return lists
}

func checkAllFails(t *testing.T, a impl.Arena, list []impl.Asked) {
	t.Helper()
	if got, windows, ok := impl.GiveAll(a, list); ok || len(windows) != 0 || !isZeroArena(got) {
		t.Fatalf("GiveAll of %v in %v = %v, %v, %v", list, a, got, windows, ok)
	}
	if lost, ok := impl.LostBytes(a, list); ok || lost != 0 {
		t.Fatalf("LostBytes of %v in %v = %d, %v", list, a, lost, ok)
	}
}

func TestGiveAll(t *testing.T) {
	lists := askedLists()
	checkArenas(t, func(t *testing.T, a impl.Arena) {
		for _, list := range lists {
			checkAll(t, a, list)
		}
	})
	for _, a := range badArenas() {
		for _, list := range lists {
			checkAllFails(t, a, list)
		}
	}
}

// checkAll checks GiveAll and LostBytes of a list, and that no two of the Windows see a common place, and
// none of them dangles.
func checkAll(t *testing.T, a impl.Arena, list []impl.Asked) {
	t.Helper()
	want, given, bytesLost, fine := allGivenOf(a, list)
	if !fine {
		checkAllFails(t, a, list)
		return
	}
	got, windows, ok := impl.GiveAll(a, list)
	if !ok || !slices.Equal(windows, given) || !equalArenas(got, want) {
		t.Fatalf("GiveAll of %v in %v = %v, %v, %v, not %v, %v", list, a, got, windows, ok, want, given)
	}
	if lost, ok := impl.LostBytes(a, list); !ok || lost != bytesLost {
		t.Fatalf("LostBytes of %v in %v = %d, %v, not %d", list, a, lost, ok, bytesLost)
	}
	for i, w := range windows {
		for _, other := range windows[:i] {
			if apart, ok := impl.AreApart(got.Memory, w, other); !apart || !ok {
				t.Fatalf("GiveAll of %v in %v: %v and %v are not apart", list, a, w, other)
			}
		}
	}
	if dangling, ok := impl.Dangling(got, windows); !ok || len(dangling) != 0 {
		t.Fatalf("GiveAll of %v in %v: %v of %v dangle, %v", list, a, dangling, windows, ok)
	}
}

// TestGiveAllByHand has lists of up to MaxAsked and more, and lists one of which cannot be given.
func TestGiveAllByHand(t *testing.T) {
	got, windows, ok := impl.GiveAll(handArena(1, 1), []impl.Asked{{Size: 1, Align: 2}, {Align: 4}, {Size: 2, Align: 1}, {Align: 1}, {Size: 1, Align: 3}, {Size: 1, Align: 1}})
	if !ok || !slices.Equal(windows, []impl.Window{{Start: 5, Len: 1, Cap: 1}, {Start: 7}, {Start: 7, Len: 2, Cap: 2}, {Start: 9}, {Start: 9, Len: 1, Cap: 1}, {Start: 10, Len: 1, Cap: 1}}) || !equalArenas(got, handArena(8, 1)) {
		t.Error("GiveAll of six", got, windows, ok)
	}
	for _, c := range []struct {
		list []impl.Asked
		lost int
	}{
		{nil, 0}, {[]impl.Asked{{Align: 1}}, 0}, {[]impl.Asked{{Align: 2}}, 1}, {[]impl.Asked{{Align: 10}}, 9}, {[]impl.Asked{{Size: 1, Align: 9}, {Align: 10}}, 8},
		{[]impl.Asked{{Size: 1, Align: 2}, {Size: 1, Align: 2}, {Size: 1, Align: 2}}, 3}, {[]impl.Asked{{Size: 9, Align: 1}, {Align: 1}, {Align: 5}}, 0},
	} {
		if lost, ok := impl.LostBytes(handArena(1), c.list); !ok || lost != c.lost {
			t.Errorf("LostBytes of %v = %d, %v, not %d", c.list, lost, ok, c.lost)
		}
	}
	ones := slices.Repeat([]impl.Asked{{Size: 1, Align: 1}}, impl.MaxAsked+1)
	if got, windows, ok := impl.GiveAll(handArena(4), ones[1:]); !ok || len(windows) != 6 || got.Used != 10 {
		t.Error("GiveAll of as many as fit", got, windows, ok)
	}
	checkAllFails(t, handArena(5), ones[1:])
	checkAllFails(t, handArena(0), ones)
	checkAllFails(t, handArena(0), []impl.Asked{{Size: 9, Align: 1}, {Size: 1, Align: 2}})
	checkAllFails(t, handArena(3), []impl.Asked{{Size: 1, Align: 1}, {Size: 1, Align: 1}, {Align: 17}})
}

func TestMarkArena(t *testing.T) {
	checkArenas(t, func(t *testing.T, a impl.Arena) {
		want := copyArena(a)
		want.Marks = append(want.Marks, a.Used)
		got, ok := impl.MarkArena(a)
		if len(a.Marks) == impl.MaxMarks {
			if ok || !isZeroArena(got) {
				t.Fatalf("MarkArena of %v = %v, %v", a, got, ok)
			}
			return
		}
		if !ok || !equalArenas(got, want) || !impl.IsArena(got) {
			t.Fatalf("MarkArena of %v = %v, %v", a, got, ok)
		}
		if back, ok := impl.ResetArena(got); !ok || !equalArenas(back, a) {
			t.Fatalf("ResetArena behind MarkArena of %v = %v, %v", a, back, ok)
		}
	})
	for _, a := range badArenas() {
		if got, ok := impl.MarkArena(a); ok || !isZeroArena(got) {
			t.Fatalf("MarkArena of %v = %v, %v", a, got, ok)
		}
	}
}

func TestResetArena(t *testing.T) {
	checkArenas(t, func(t *testing.T, a impl.Arena) {
		got, ok := impl.ResetArena(a)
		last := len(a.Marks) - 1
		if last < 0 {
			if ok || !isZeroArena(got) {
				t.Fatalf("ResetArena of %v = %v, %v", a, got, ok)
			}
			return
		}
		want := copyArena(a)
		want.Used, want.Marks = a.Marks[last], a.Marks[:last]
		if !ok || !equalArenas(got, want) || !impl.IsArena(got) {
			t.Fatalf("ResetArena of %v = %v, %v", a, got, ok)
		}
	})
	for _, a := range badArenas() {
		if got, ok := impl.ResetArena(a); ok || !isZeroArena(got) {
			t.Fatalf("ResetArena of %v = %v, %v", a, got, ok)
		}
	}
}

// TestMarksByHand marks until there are MaxMarks Marks, some at the same number, and resets until there
// are none.
func TestMarksByHand(t *testing.T) {
	a, used := handArena(1), []int{1, 1, 2, 2, 2, 5, 8, 8}
	for i, n := range used {
		a.Used = n
		next, ok := impl.MarkArena(a)
		if !ok || next.Used != n || !slices.Equal(next.Marks, used[:i+1]) {
			t.Fatal("mark", i, next, ok)
		}
		a = next
	}
	if got, ok := impl.MarkArena(a); ok || !isZeroArena(got) {
		t.Error("more than MaxMarks", got, ok)
	}
	a, _, _ = impl.Give(a, impl.Asked{Size: 2, Align: 1})
	for i := len(used) - 1; i >= 0; i-- {
		next, ok := impl.ResetArena(a)
		if !ok || !equalArenas(next, handArena(used[i], used[:i]...)) {
			t.Fatal("reset", i, next, ok)
		}
		a = next
	}
	if got, ok := impl.ResetArena(a); ok || !isZeroArena(got) {
		t.Error("no Marks", got, ok)
	}
}

// TestResetTakesAllBack gives lists behind a mark: a reset leaves Used and the Marks as they were before,
// and all that see a byte of what was given dangle then.
func TestResetTakesAllBack(t *testing.T) {
	lists := askedLists()
	checkArenas(t, func(t *testing.T, a impl.Arena) {
		marked, ok := impl.MarkArena(a)
		if !ok {
			return
		}
		for _, list := range lists {
			given, windows, ok := impl.GiveAll(marked, list)
			if !ok {
				continue
			}
			reset, ok := impl.ResetArena(given)
			if !ok || !equalArenas(reset, a) {
				t.Fatalf("reset behind %v in %v: %v, %v", list, a, reset, ok)
			}
			want := []int{}
			for i, w := range windows {
				if w.Len > 0 {
					want = append(want, i)
				}
			}
			if dangling, ok := impl.Dangling(reset, windows); !ok || !slices.Equal(dangling, want) {
				t.Fatalf("reset behind %v in %v: %v of %v dangle, %v", list, a, dangling, windows, ok)
			}
			again, same, ok := impl.GiveAll(reset, list)
			again.Marks = append(again.Marks, a.Used)
			if !ok || !slices.Equal(same, windows) || !equalArenas(again, given) {
				t.Fatalf("%v given again in %v: %v, %v, %v", list, a, again, same, ok)
			}
		}
	})
}

func TestLeftIn(t *testing.T) {
	checkArenas(t, func(t *testing.T, a impl.Arena) {
		for align := -1; align <= impl.MaxAlign+2; align++ {
			// The greatest Size for which giving does not fail, or -1 if it always does.
			want := -1
			for size := 0; size <= a.Block.Len; size++ {
				if _, _, ok := givenOf(a, impl.Asked{Size: size, Align: align}); ok {
					want = size
				}
			}
			if left, ok := impl.LeftIn(a, align); ok != (want >= 0) || left != max(want, 0) {
				t.Fatalf("LeftIn of %v, %d = %d, %v, not %d", a, align, left, ok, want)
			}
		}
		checkNoneLeft(t, a, math.MaxInt)
		checkNoneLeft(t, a, math.MinInt)
		checkNoneLeft(t, a, 1<<32+1)
	})
	for _, a := range badArenas() {
		for _, align := range []int{math.MinInt, -1, 0, 1, 2, 16, 17, math.MaxInt} {
			checkNoneLeft(t, a, align)
		}
	}
}

func checkNoneLeft(t *testing.T, a impl.Arena, align int) {
	t.Helper()
	if left, ok := impl.LeftIn(a, align); ok || left != 0 {
		t.Fatalf("LeftIn of %v, %d = %d, %v", a, align, left, ok)
	}
}

func TestLeftInByHand(t *testing.T) {
	for _, c := range []struct{ used, align, left int }{
		{0, 1, 10}, {0, 16, 10}, {1, 1, 9}, {1, 2, 8}, {1, 4, 6}, {4, 4, 6}, {5, 4, 2}, {8, 8, 2}, {1, 9, 1}, {1, 10, 0}, {10, 10, 0}, {10, 1, 0}, {9, 5, 0}, {9, 3, 1},
	} {
		if left, ok := impl.LeftIn(handArena(c.used), c.align); !ok || left != c.left {
			t.Errorf("LeftIn of %v = %d, %v", c, left, ok)
		}
	}
	for _, c := range [][2]int{{1, 11}, {1, 16}, {10, 16}, {10, 3}, {9, 4}, {9, 8}, {0, 0}, {0, 17}, {0, -1}, {10, 0}} {
		checkNoneLeft(t, handArena(c[0]), c[1])
	}
}

// ordersOf returns all orders of the numbers 0 to n - 1, in lexicographic order.
func ordersOf(n int) [][]int {
	orders := [][]int{{}}
	for range n {
		longer := [][]int{}
		for _, order := range orders {
			for i := range n {
				if !slices.Contains(order, i) {
					longer = append(longer, append(slices.Clone(order), i))
				}
			}
		}
		orders = longer
	}
	return orders
}

// bestOf returns what the document tells of BestOrder: each order is tried in full.
func bestOf(a impl.Arena, list []impl.Asked) ([]int, bool) {
	if len(list) > impl.MaxAsked {
		return nil, false
	}
	best, used := []int(nil), -1
	for _, order := range ordersOf(len(list)) {
		now, fine := a.Used, true
		for _, i := range order {
			q := list[i]
			if q.Size < 0 || q.Size > 64 || q.Align < 1 || q.Align > 16 {
				return nil, false
			}
			for now%q.Align != 0 {
				now++
			}
			now += q.Size
			fine = fine && now <= a.Block.Len
		}
		if fine && (used < 0 || now < used) {
			best, used = order, now
		}
	}
	return best, used >= 0
}

func checkNoOrder(t *testing.T, a impl.Arena, list []impl.Asked) {
	t.Helper()
	if best, ok := impl.BestOrder(a, list); ok || len(best) != 0 {
		t.Fatalf("BestOrder of %v in %v = %v, %v", list, a, best, ok)
	}
}

// checkBest checks BestOrder of a list, and that giving in this order takes no more than in others.
func checkBest(t *testing.T, a impl.Arena, list []impl.Asked) {
	t.Helper()
	want, fine := bestOf(a, list)
	if !fine {
		checkNoOrder(t, a, list)
		return
	}
	best, ok := impl.BestOrder(a, list)
	if !ok || !slices.Equal(best, want) {
		t.Fatalf("BestOrder of %v in %v = %v, %v, not %v", list, a, best, ok, want)
	}
	ordered := []impl.Asked{}
	for _, i := range best {
		ordered = append(ordered, list[i])
	}
	least, _, one := impl.GiveAll(a, ordered)
	if given, _, ok := impl.GiveAll(a, list); !one || ok && given.Used < least.Used {
		t.Fatalf("BestOrder of %v in %v = %v", list, a, best)
	}
}

func TestBestOrder(t *testing.T) {
	lists := askedLists()
	for i, a := range someArenas() {
		for _, list := range lists {
			// Long lists have many orders: they take turns, too.
			if len(list) < 5 || (len(list)+a.Used+i)%7 == 0 {
				checkBest(t, a, list)
			}
		}
	}
	for _, w := range allWindows(memoryOf(5, 2)) {
		for _, a := range arenasOn(memoryOf(5, 2), w) {
			checkBest(t, a, lists[(w.Start+3*w.Len+w.Cap)%len(lists)])
			checkBest(t, a, []impl.Asked{{Size: 1, Align: 1}, {Size: 1, Align: 2}, {Align: 3}})
		}
	}
	for _, a := range badArenas() {
		for _, list := range lists {
			checkNoOrder(t, a, list)
		}
	}
}

func TestBestOrderByHand(t *testing.T) {
	for _, c := range []struct {
		used int
		list []impl.Asked
		want []int
	}{
		{0, nil, []int{}}, {10, []impl.Asked{}, []int{}}, {0, []impl.Asked{{Size: 10, Align: 16}}, []int{0}},
		{0, []impl.Asked{{Size: 3, Align: 1}, {Size: 2, Align: 4}}, []int{1, 0}},
		{0, []impl.Asked{{Size: 2, Align: 4}, {Size: 3, Align: 1}}, []int{0, 1}},
		{1, []impl.Asked{{Size: 2, Align: 4}, {Size: 3, Align: 1}}, []int{1, 0}},
		// All orders end at the same number, or some of them do.
		{0, slices.Repeat([]impl.Asked{{Size: 1, Align: 1}}, 6), []int{0, 1, 2, 3, 4, 5}}, {1, slices.Repeat([]impl.Asked{{Align: 2}}, 4), []int{0, 1, 2, 3}},
		{0, []impl.Asked{{Size: 1, Align: 1}, {Size: 1, Align: 1}, {Size: 2, Align: 2}}, []int{0, 1, 2}},
		{0, []impl.Asked{{Size: 1, Align: 1}, {Size: 2, Align: 2}, {Size: 1, Align: 1}}, []int{0, 2, 1}},
		{1, []impl.Asked{{Size: 1, Align: 4}, {Size: 2, Align: 2}, {Size: 1, Align: 1}}, []int{2, 1, 0}},
		{1, []impl.Asked{{Size: 1, Align: 4}, {Size: 2, Align: 2}, {Size: 1, Align: 2}}, []int{1, 0, 2}},
		// Just one order can be given at all, or those that begin with the last number.
		{1, []impl.Asked{{Size: 4, Align: 6}, {Size: 2, Align: 4}, {Size: 1, Align: 3}}, []int{2, 1, 0}},
		{0, []impl.Asked{{Size: 1, Align: 1}, {Align: 1}, {Size: 9, Align: 16}}, []int{1, 2, 0}},
		// One of no bytes does best where its multiple is, not at the end.
		{4, []impl.Asked{{Size: 3, Align: 1}, {Align: 8}}, []int{0, 1}}, {8, []impl.Asked{{Size: 1, Align: 1}, {Align: 8}}, []int{1, 0}},
	} {
		if best, ok := impl.BestOrder(handArena(c.used, 0), c.list); !ok || !slices.Equal(best, c.want) {
			t.Errorf("BestOrder of %v = %v, %v, not %v", c.list, best, ok, c.want)
		}
	}
	ones := slices.Repeat([]impl.Asked{{Size: 1, Align: 1}}, impl.MaxAsked+1)
	checkNoOrder(t, handArena(0), ones)
	checkNoOrder(t, handArena(5), ones[1:])
	checkNoOrder(t, handArena(10), ones[:1])
	checkNoOrder(t, handArena(1), []impl.Asked{{Align: 16}})
	checkNoOrder(t, handArena(0), []impl.Asked{{Size: 1, Align: 16}, {Size: 1, Align: 16}})
	checkNoOrder(t, handArena(0), []impl.Asked{{Size: 1, Align: 1}, {Size: -1, Align: 1}})
	checkNoOrder(t, handArena(0), []impl.Asked{{Size: 1, Align: 1}, {Align: 17}, {}})
}

func checkDangling(t *testing.T, a impl.Arena, list []impl.Window) {
	t.Helper()
	want := []int{}
	for i, w := range list {
		for k := range w.Len {
			if isFree(a, w.Array, w.Start+k) {
				want = append(want, i)
				break
			}
		}
	}
	if got, ok := impl.Dangling(a, list); !ok || !slices.Equal(got, want) {
		t.Fatalf("Dangling of %v in %v = %v, %v, not %v", list, a, got, ok, want)
	}
}

func checkNoDangling(t *testing.T, a impl.Arena, list []impl.Window) {
	t.Helper()
	if got, ok := impl.Dangling(a, list); ok || len(got) != 0 {
		t.Fatalf("Dangling of %v in %v = %v, %v", list, a, got, ok)
	}
}

func TestDangling(t *testing.T) {
	m := memoryOf(5, 2)
	all := allWindows(m)
	for _, w := range all {
		for _, a := range arenasOn(m, w) {
			checkDangling(t, a, all)
			checkDangling(t, a, nil)
			checkDangling(t, a, []impl.Window{w, w, {Start: a.Used, Len: 5 - a.Used, Cap: 5 - a.Used}, {}})
		}
	}
	for _, a := range someArenas() {
		ones := []impl.Window{}
		for array := range a.Memory.Arrays {
			for i := range 64 {
				ones = append(ones, impl.Window{Array: array, Start: i, Len: 1, Cap: 64 - i})
			}
		}
		for _, pair := range somePairs()[:20] {
			ones = append(ones, pair[1])
		}
		checkDangling(t, a, ones)
	}
	for _, bad := range badWindows() {
		for _, list := range [][]impl.Window{{bad}, {{}, bad}, {bad, {Len: 1, Cap: 1}}, append(slices.Clone(all[:10]), bad, impl.Window{})} {
			checkNoDangling(t, impl.Arena{Memory: memoryOf(4, 2), Block: impl.Window{Len: 3, Cap: 4}, Used: 1}, list)
		}
	}
	for _, a := range badArenas() {
		for _, list := range [][]impl.Window{nil, {{}}, {{Len: 1, Cap: 1}}, {{Len: 2, Cap: 3}, {Array: 1}}} {
			checkNoDangling(t, a, list)
		}
	}
}

// TestDanglingByHand has Windows in the given bytes, in the others, in the room of the Block, outside, and
// on another array.
func TestDanglingByHand(t *testing.T) {
	m := memoryOf(9, 9)
	a := impl.Arena{Memory: m, Block: impl.Window{Start: 1, Len: 6, Cap: 7}, Used: 2} // free are the places 3 to 6
	for w, want := range map[impl.Window]bool{
		{Start: 3, Len: 1, Cap: 1}: true, {Start: 6, Len: 1, Cap: 1}: true, {Start: 2, Len: 1, Cap: 5}: false, {Start: 2, Len: 2, Cap: 5}: true,
		{Start: 7, Len: 2, Cap: 2}: false, {Start: 6, Len: 3, Cap: 3}: true, {Len: 1, Cap: 9}: false, {Len: 3, Cap: 3}: false, {Len: 9, Cap: 9}: true,
		{Start: 3, Cap: 6}: false, {Start: 5}: false, {Array: 1, Start: 3, Len: 2, Cap: 2}: false, {Array: 1, Len: 9, Cap: 9}: false,
	} {
		if got, ok := impl.Dangling(a, []impl.Window{w}); !ok || slices.Equal(got, []int{0}) != want || len(got) > 1 {
			t.Errorf("Dangling of %v = %v, %v", w, got, ok)
		}
	}
}

func checkGiven(t *testing.T, a impl.Arena, w impl.Window) {
	t.Helper()
	// All places of the Window and of its room are given, or it has none, and begins among those, or behind.
	want := w.Array == a.Block.Array && w.Start >= a.Block.Start && w.Start <= a.Block.Start+a.Used
	for i := range w.Cap {
		want = want && sees(a.Block, w.Array, w.Start+i) && !isFree(a, w.Array, w.Start+i)
	}
	if is, ok := impl.IsGiven(a, w); !ok || is != want {
		t.Fatalf("IsGiven of %v in %v = %v, %v, not %v", w, a, is, ok, want)
	}
}

func checkNotGiven(t *testing.T, a impl.Arena, w impl.Window) {
	t.Helper()
	if is, ok := impl.IsGiven(a, w); ok || is {
		t.Fatalf("IsGiven of %v in %v = %v, %v", w, a, is, ok)
	}
}

func TestIsGiven(t *testing.T) {
	m := memoryOf(5, 2)
	for _, w := range allWindows(m) {
		for _, a := range arenasOn(m, w) {
			for _, other := range allWindows(m) {
				checkGiven(t, a, other)
			}
		}
	}
	for _, a := range someArenas() {
		for _, pair := range somePairs()[:20] {
			checkGiven(t, a, pair[1])
		}
		end := a.Block.Start + a.Used
		for start := 0; start <= end; start++ {
			checkGiven(t, a, impl.Window{Array: a.Block.Array, Start: start, Cap: end - start})
			if end < 64 {
				checkGiven(t, a, impl.Window{Array: a.Block.Array, Start: start, Cap: end - start + 1})
			}
		}
	}
	for _, bad := range badWindows() {
		for _, used := range []int{0, 2, 3} {
			checkNotGiven(t, impl.Arena{Memory: memoryOf(4, 2), Block: impl.Window{Len: 3, Cap: 4}, Used: used}, bad)
		}
	}
	for _, a := range badArenas() {
		for _, w := range []impl.Window{{}, {Len: 1, Cap: 1}, {Len: 2, Cap: 3}, {Array: 1, Len: 2, Cap: 2}} {
			checkNotGiven(t, a, w)
		}
	}
}

func TestIsGivenByHand(t *testing.T) {
	a := impl.Arena{Memory: memoryOf(9, 9), Block: impl.Window{Start: 2, Len: 6, Cap: 7}, Used: 3} // given are the places 2 to 4
	for w, want := range map[impl.Window]bool{
		{Start: 2, Len: 3, Cap: 3}: true, {Start: 2, Len: 3, Cap: 4}: false, {Start: 2, Cap: 3}: true, {Start: 2, Cap: 4}: false, {Start: 4, Len: 1, Cap: 1}: true,
		{Start: 5}: true, {Start: 6}: false, {Start: 2}: true, {Start: 1}: false, {Start: 1, Len: 2, Cap: 2}: false, {Start: 5, Len: 1, Cap: 1}: false,
		{Array: 1, Start: 2, Len: 3, Cap: 3}: false, {Array: 1, Start: 3}: false, {Len: 9, Cap: 9}: false,
	} {
		if is, ok := impl.IsGiven(a, w); !ok || is != want {
			t.Errorf("IsGiven of %v = %v, %v", w, is, ok)
		}
	}
}

func TestSplitArena(t *testing.T) {
	checkArenas(t, func(t *testing.T, a impl.Arena) {
		w := a.Block
		given, free, ok := impl.SplitArena(a)
		if !ok || given != (impl.Window{Array: w.Array, Start: w.Start, Len: a.Used, Cap: a.Used}) ||
			free != (impl.Window{Array: w.Array, Start: w.Start + a.Used, Len: w.Len - a.Used, Cap: w.Cap - a.Used}) {
			t.Fatalf("SplitArena of %v = %v, %v, %v", a, given, free, ok)
		}
		// What is given does not dangle; all else does, if it is anything.
		if is, ok := impl.IsGiven(a, given); !is || !ok {
			t.Fatalf("SplitArena of %v: %v is not given, %v", a, given, ok)
		}
		want := []int{1}
		if free.Len == 0 {
			want = nil
		}
		if dangling, ok := impl.Dangling(a, []impl.Window{given, free}); !ok || !slices.Equal(dangling, want) {
			t.Fatalf("SplitArena of %v: %v dangle, %v", a, dangling, ok)
		}
	})
	for _, a := range badArenas() {
		if given, free, ok := impl.SplitArena(a); ok || given != (impl.Window{}) || free != (impl.Window{}) {
			t.Fatalf("SplitArena of %v = %v, %v, %v", a, given, free, ok)
		}
	}
	given, free, ok := impl.SplitArena(handArena(4, 2))
	if !ok || given != (impl.Window{Start: 3, Len: 4, Cap: 4}) || free != (impl.Window{Start: 7, Len: 6, Cap: 8}) {
		t.Error("by hand", given, free, ok)
	}
}

func TestScrubArena(t *testing.T) {
	checkArenas(t, func(t *testing.T, a impl.Arena) {
		want := copyArena(a)
		for array, list := range want.Memory.Arrays {
			for place := range list {
				if isFree(a, array, place) {
					list[place] = 0
				}
			}
		}
		if got, ok := impl.ScrubArena(a); !ok || !equalArenas(got, want) {
			t.Fatalf("ScrubArena of %v = %v, %v, not %v", a, got, ok, want)
		}
	})
	for _, a := range badArenas() {
		if got, ok := impl.ScrubArena(a); ok || !isZeroArena(got) {
			t.Fatalf("ScrubArena of %v = %v, %v", a, got, ok)
		}
	}
	// The given bytes, those before the Block, its room and what is behind stay.
	got, ok := impl.ScrubArena(handArena(4, 2))
	if !ok || got.Used != 4 || !slices.Equal(got.Marks, []int{2}) || !bytes.Equal(got.Memory.Arrays[0], []byte{1, 2, 3, 4, 5, 6, 7, 0, 0, 0, 0, 0, 0, 14, 15, 16}) {
		t.Error("by hand", got, ok)
	}
}

// life is what is known of an Arena beside it: all Windows that were ever given, those that were given
// and not reset, and what there was of them at each mark.
type life struct {
	all, live []impl.Window
	marked    [][]impl.Window
}

// TestGivenToNobodyElse gives, marks and resets again and again, by a fixed rule: no place is given to two
// Windows that both are not reset, and just those of the others whose places are not given again dangle.
func TestGivenToNobodyElse(t *testing.T) {
	seed, done := uint32(5), 0
	pick := func(n int) int {
		seed = seed*1664525 + 1013904223
		return int(seed>>8) % n
	}
	for _, w := range []impl.Window{{Start: 3, Len: 10, Cap: 12}, {Len: 64, Cap: 64}, {Array: 1, Start: 1, Len: 40, Cap: 50}, {Array: 1, Start: 5, Len: 1, Cap: 1}} {
		a, ok := impl.NewArena(memoryOf(64, 64), w)
		if !ok {
			t.Fatal("NewArena", w)
		}
		l := life{}
		for range 1500 {
			next, ok := l.step(a, pick)
			if ok {
				a, done = next, done+1
				l.check(t, a)
			}
		}
	}
	if done < 2500 {
		t.Error("few steps could be made:", done)
	}
}

// step makes one change that pick picks, and tells whether it could be made.
func (l *life) step(a impl.Arena, pick func(int) int) (impl.Arena, bool) {
	q := impl.Asked{Size: pick(6), Align: 1 + pick(4)}
	switch pick(8) {
	case 0, 1:
		next, w, ok := impl.Give(a, q)
		return next, l.give(ok, w)
	case 2:
		next, w, ok := impl.GiveZero(a, q)
		return next, l.give(ok, w)
	case 3:
		next, windows, ok := impl.GiveAll(a, []impl.Asked{q, {Size: pick(4), Align: 1}, {Size: 1, Align: 1 + pick(16)}})
		return next, l.give(ok, windows...)
	case 4, 5:
		next, ok := impl.MarkArena(a)
		if ok {
			l.marked = append(l.marked, slices.Clone(l.live))
		}
		return next, ok
	}
	next, ok := impl.ResetArena(a)
	if last := len(l.marked) - 1; ok {
		l.live, l.marked = l.marked[last], l.marked[:last]
	}
	return next, ok
}

// give takes Windows down that were given.
func (l *life) give(ok bool, windows ...impl.Window) bool {
	if ok {
		l.all, l.live = append(l.all, windows...), append(l.live, windows...)
	}
	return ok
}

func (l *life) check(t *testing.T, a impl.Arena) {
	t.Helper()
	if !impl.IsArena(a) || len(a.Marks) != len(l.marked) {
		t.Fatalf("%v is no Arena, or has not %d Marks", a, len(l.marked))
	}
	for i, w := range l.live {
		if is, ok := impl.IsGiven(a, w); !is || !ok {
			t.Fatalf("%v is not given in %v, %v", w, a, ok)
		}
		for _, other := range l.live[:i] {
			if share, ok := impl.DoShare(a.Memory, w, other); share || !ok {
				t.Fatalf("%v and %v are both given in %v", w, other, a)
			}
		}
	}
	if dangling, ok := impl.Dangling(a, l.live); !ok || len(dangling) != 0 {
		t.Fatalf("%v of %v dangle in %v, %v", dangling, l.live, a, ok)
	}
	checkDangling(t, a, l.all)
}

// arenaArguments are what the functions of chapter 8 have as arguments.
type arenaArguments struct {
	a       impl.Arena
	w       impl.Window
	windows []impl.Window
	q       impl.Asked
	asked   []impl.Asked
	n       int
}

// arenaCall calls one function of chapter 8 with those of the arguments that it has. It fails unless the
// Arena is valid, if it needs one, and so are the Windows, if it has any.
type arenaCall struct {
	name         string
	needs, views bool
	call         func(x arenaArguments) []any
}

// arenaCalls has all functions of chapter 8.
func arenaCalls() []arenaCall {
	type arguments = arenaArguments
	return []arenaCall{
		{"IsArena", false, false, func(x arguments) []any { return resultsOf(impl.IsArena(x.a)) }},
		{"NewArena", false, true, func(x arguments) []any { return resultsOf(impl.NewArena(x.a.Memory, x.w)) }},
		{"Give", true, false, func(x arguments) []any { return resultsOf(impl.Give(x.a, x.q)) }},
		{"GiveZero", true, false, func(x arguments) []any { return resultsOf(impl.GiveZero(x.a, x.q)) }},
		{"GiveAll", true, false, func(x arguments) []any { return resultsOf(impl.GiveAll(x.a, x.asked)) }},
		{"MarkArena", true, false, func(x arguments) []any { return resultsOf(impl.MarkArena(x.a)) }},
		{"ResetArena", true, false, func(x arguments) []any { return resultsOf(impl.ResetArena(x.a)) }},
		{"LeftIn", true, false, func(x arguments) []any { return resultsOf(impl.LeftIn(x.a, x.n)) }},
		{"LostBytes", true, false, func(x arguments) []any { return resultsOf(impl.LostBytes(x.a, x.asked)) }},
		{"BestOrder", true, false, func(x arguments) []any { return resultsOf(impl.BestOrder(x.a, x.asked)) }},
		{"Dangling", true, true, func(x arguments) []any { return resultsOf(impl.Dangling(x.a, x.windows)) }},
		{"IsGiven", true, true, func(x arguments) []any { return resultsOf(impl.IsGiven(x.a, x.w)) }},
		{"SplitArena", true, false, func(x arguments) []any { return resultsOf(impl.SplitArena(x.a)) }},
		{"ScrubArena", true, false, func(x arguments) []any { return resultsOf(impl.ScrubArena(x.a)) }},
	}
}

// TestChapter8ReturnsForAll calls each function with arguments of all kinds, valid ones and others.
func TestChapter8ReturnsForAll(t *testing.T) {
	arenas := badArenas()
	for _, m := range []impl.Memory{memoryOf(4, 2), memoryOf(64, 64), fullMemory(), overlaid()} {
		for _, w := range []impl.Window{{Len: 2, Cap: 3}, {Start: 1, Len: 2, Cap: 2}, {Array: 1, Start: 2}} {
			arenas = append(arenas, arenasOn(m, w)...)
		}
	}
	windows := append(badWindows(), impl.Window{}, impl.Window{Len: 2, Cap: 3}, impl.Window{Array: 1, Len: 2, Cap: 2}, impl.Window{Start: 1, Len: 1, Cap: 1})
	numbers := []int{0, 1, 2, 3, 16, 17, -1, 64, 65, 1 << 32, math.MaxInt, math.MinInt}
	lists := askedLists()
	for i, a := range arenas {
		a.Marks = withSpareMarks(a.Marks)
		for j, n := range numbers {
			w := windows[(i+5*j)%len(windows)]
			views := [][]impl.Window{{w}, {a.Block, w}, nil, {a.Block, a.Block}, windows, slices.Repeat([]impl.Window{a.Block}, 100)}
			q := impl.Asked{Size: n, Align: numbers[(i+3*j)%len(numbers)]}
			checkArenaCalls(t, arenaArguments{a, w, views[(i+j)%len(views)], q, lists[(3*i+7*j)%len(lists)], n})
			checkArenaCalls(t, arenaArguments{a, a.Block, views[j%len(views)], impl.Asked{Size: j % 3, Align: 1 + j%2}, lists[j%8], 1 + j})
		}
	}
}

// withSpareMarks returns the same Marks with numbers behind them, which are no Marks.
func withSpareMarks(marks []int) []int {
	return slices.Concat(marks, slices.Repeat([]int{-7}, impl.MaxMarks))[:len(marks)]
}

// checkArenaCalls calls all functions with the same arguments.
func checkArenaCalls(t *testing.T, x arenaArguments) {
	t.Helper()
	all := func() []int { return x.a.Marks[:cap(x.a.Marks)] }
	m, marks, windows, asked := cloned(x.a.Memory), slices.Clone(all()), slices.Clone(x.windows), slices.Clone(x.asked)
	kept := func() bool {
		return equalMemories(x.a.Memory, m) && slices.Equal(all(), marks) && slices.Equal(x.windows, windows) && slices.Equal(x.asked, asked)
	}
	fine := impl.IsArena(x.a)
	for _, c := range arenaCalls() {
		list := []impl.Window{x.w}
		if c.name == "Dangling" {
			list = x.windows
		}
		ok := checkResults(t, c.name, func() []any { return c.call(x) }, kept)
		if ok && (c.needs && !fine || c.views && !fitArguments(m, list)) {
			t.Fatalf("%s of %v, %v, %v does not fail", c.name, x.a, x.w, x.windows)
		}
	}
}
