package tests

import (
	"bytes"
	"math"
	"slices"
	"testing"

	"loop.example/g01179/impl"
)

// seesBoth reports for each place of an array whether both of two Windows see it.
func seesBoth(m impl.Memory, a, b impl.Window) []int {
	places := []int{}
	for array, list := range m.Arrays {
		for place := range list {
			if sees(a, array, place) && sees(b, array, place) {
				places = append(places, place)
			}
		}
	}
	return places
}

// withRoom returns the Window that sees the room of a Window, too.
func withRoom(w impl.Window) impl.Window {
	w.Len = w.Cap
	return w
}

// watchedLists returns lists of Windows of all kinds that are watched on memoryOf(9, 4, 64): named
// ones, and many that a fixed rule picks, from lists of one up to lists of MaxWatched.
func watchedLists() [][]impl.Window {
	type window = impl.Window
	lists := [][]window{
		{}, {{}}, {{Len: 9, Cap: 9}}, {{Len: 3, Cap: 9}, {Start: 2, Len: 2, Cap: 2}, {Start: 4, Len: 2, Cap: 2}},
		slices.Repeat([]window{{}}, impl.MaxWatched),
		slices.Repeat([]window{{Start: 9}}, impl.MaxWatched),
		slices.Repeat([]window{{Start: 2, Len: 3, Cap: 5}}, impl.MaxWatched),
		slices.Repeat([]window{{Cap: 9}, {Len: 9, Cap: 9}, {Start: 4, Cap: 1}}, 4),
		{{Len: 1, Cap: 9}, {Start: 1, Cap: 8}, {Start: 5, Len: 1, Cap: 1}, {Start: 1, Cap: 2}},
		{{Start: 8, Len: 1, Cap: 1}, {Len: 1, Cap: 1}, {Start: 4, Len: 1, Cap: 5}, {Len: 9, Cap: 9}},
		{{Array: 1, Len: 4, Cap: 4}, {Len: 4, Cap: 4}, {Array: 2, Len: 4, Cap: 4}, {Array: 1, Start: 3, Len: 1, Cap: 1}},
		{{Array: 2, Len: 63, Cap: 64}, {Array: 2, Start: 63, Len: 1, Cap: 1}, {Array: 2, Start: 64}, {Array: 2, Cap: 64}},
		{{Array: 2, Len: 60, Cap: 64}, {Array: 2, Start: 62, Len: 1, Cap: 2}, {Array: 2, Start: 60, Cap: 4}},
		chainOf(impl.MaxWatched), reversed(chainOf(impl.MaxWatched)), starOf(impl.MaxWatched), reversed(starOf(impl.MaxWatched)),
	}
	small, great := allWindows(memoryOf(9, 4)), allWindows(memoryOf(9, 4, 64))
	seed := uint32(1)
	for i := range 3000 {
		from := small
		if i%5 == 0 {
			from = great
		}
		list := []window{}
		for range i%impl.MaxWatched + 1 {
			seed = seed*1664525 + 1013904223
			list = append(list, from[int(seed>>8)%len(from)])
		}
		lists = append(lists, list)
	}
	return lists
}

// chainOf returns n Windows on the last array each of which shares with its neighbours alone.
func chainOf(n int) []impl.Window {
	list := []impl.Window{}
	for i := range n {
		list = append(list, impl.Window{Array: 2, Start: 4 * i, Len: 5, Cap: 7})
	}
	return list
}

// starOf returns n Windows on the last array, the first n - 1 of which share with the last one alone.
func starOf(n int) []impl.Window {
	list := []impl.Window{}
	for i := range n - 1 {
		list = append(list, impl.Window{Array: 2, Start: 5 * i, Len: 3, Cap: 5})
	}
	return append(list, impl.Window{Array: 2, Len: 64, Cap: 64})
}

func reversed(list []impl.Window) []impl.Window {
	list = slices.Clone(list)
	slices.Reverse(list)
	return list
}

// checkWatched makes a check for all of watchedLists.
func checkWatched(t *testing.T, check func(t *testing.T, m impl.Memory, list []impl.Window)) {
	t.Helper()
	m := memoryOf(9, 4, 64)
	for _, list := range watchedLists() {
		check(t, m, list)
	}
}

func TestAreWatched(t *testing.T) {
	checkWatched(t, func(t *testing.T, m impl.Memory, list []impl.Window) {
		t.Helper()
		if is, ok := impl.AreWatched(m, list); !is || !ok {
			t.Fatalf("AreWatched of %v = %v, %v", list, is, ok)
		}
	})
	m := memoryOf(4, 2)
	for _, n := range []int{impl.MaxWatched + 1, 100} {
		if is, ok := impl.AreWatched(m, make([]impl.Window, n)); is || !ok {
			t.Errorf("AreWatched of %d Windows = %v, %v", n, is, ok)
		}
	}
	for _, bad := range badWindows() {
		for _, list := range [][]impl.Window{{bad}, {{}, bad}, {bad, {}}, slices.Repeat([]impl.Window{{}, bad}, 6)} {
			if is, ok := impl.AreWatched(m, list); is || !ok {
				t.Errorf("AreWatched of %v = %v, %v", list, is, ok)
			}
		}
	}
	for _, bad := range badMemories() {
		for _, list := range [][]impl.Window{nil, {}, {{}}, {{Array: 1, Len: 1, Cap: 1}}, make([]impl.Window, 13)} {
			if is, ok := impl.AreWatched(bad, list); is || ok {
				t.Errorf("AreWatched of %v on no Memory = %v, %v", list, is, ok)
			}
		}
	}
}

func TestWatchedOnNoArrays(t *testing.T) {
	if is, ok := impl.AreWatched(impl.Memory{}, nil); !is || !ok {
		t.Error("AreWatched", is, ok)
	}
	if is, ok := impl.AreWatched(impl.Memory{}, []impl.Window{{}}); is || !ok {
		t.Error("AreWatched of a Window on no array", is, ok)
	}
	if groups, ok := impl.ShareGroups(impl.Memory{}, nil); !ok || len(groups) != 0 {
		t.Error("ShareGroups", groups, ok)
	}
	if apart, ok := impl.MostApart(impl.Memory{}, nil); !ok || len(apart) != 0 {
		t.Error("MostApart", apart, ok)
	}
	shot, ok := impl.TakeSnapshot(impl.Memory{}, nil)
	if !ok || len(shot.Arrays) != 0 {
		t.Error("TakeSnapshot", shot, ok)
	}
	if changed, ok := impl.ChangedSince(impl.Memory{}, nil, shot); !ok || len(changed) != 0 {
		t.Error("ChangedSince", changed, ok)
	}
	if by, ok := impl.NoticedBy(impl.Memory{}, nil, 0, 0); ok || len(by) != 0 {
		t.Error("NoticedBy", by, ok)
	}
}

func TestPairsOfWindows(t *testing.T) { checkPairs(t, checkPair) }

func checkPair(t *testing.T, m impl.Memory, a, b impl.Window) {
	t.Helper()
	both := seesBoth(m, a, b)
	first := -1
	if len(both) > 0 {
		first = both[0]
	}
	if many, least, ok := impl.CommonPlaces(m, a, b); !ok || many != len(both) || least != first {
		t.Fatalf("CommonPlaces of %v and %v = %d, %d, %v, not %v", a, b, many, least, ok, both)
	}
	share, ok := impl.DoShare(m, a, b)
	if !ok || share != (len(both) > 0) {
		t.Fatalf("DoShare of %v and %v = %v, %v", a, b, share, ok)
	}
	if apart, ok := impl.AreApart(m, a, b); !ok || apart == share {
		t.Fatalf("%v and %v share, and are apart: %v, %v", a, b, share, apart)
	}
	near, ok := impl.AreNear(m, a, b)
	if !ok || near != (len(seesBoth(m, withRoom(a), withRoom(b))) > 0) {
		t.Fatalf("AreNear of %v and %v = %v, %v", a, b, near, ok)
	}
	if share && !near || share && (a.Len == 0 || b.Len == 0) {
		t.Fatalf("%v and %v share, but are not near, or see nothing", a, b)
	}
}

// TestPairsAtLimits has cases by hand: Windows that touch, those that see nothing, and rooms.
func TestPairsAtLimits(t *testing.T) {
	m := memoryOf(6, 6)
	for _, c := range []struct {
		a, b        impl.Window
		many, least int
		near        bool
	}{
		{impl.Window{Len: 3, Cap: 6}, impl.Window{Start: 2, Len: 2, Cap: 2}, 1, 2, true},
		{impl.Window{Len: 3, Cap: 6}, impl.Window{Start: 3, Len: 2, Cap: 2}, 0, -1, true},
		{impl.Window{Len: 3, Cap: 3}, impl.Window{Start: 3, Len: 2, Cap: 2}, 0, -1, false},
		{impl.Window{Len: 3, Cap: 4}, impl.Window{Start: 3, Cap: 1}, 0, -1, true},
		{impl.Window{Len: 3, Cap: 4}, impl.Window{Start: 4, Cap: 2}, 0, -1, false},
		{impl.Window{Len: 6, Cap: 6}, impl.Window{Start: 3}, 0, -1, false},
		{impl.Window{Len: 6, Cap: 6}, impl.Window{Start: 3, Cap: 1}, 0, -1, true},
		{impl.Window{Cap: 3}, impl.Window{Cap: 3}, 0, -1, true},
		{impl.Window{}, impl.Window{}, 0, -1, false},
		{impl.Window{Start: 6}, impl.Window{Start: 6}, 0, -1, false},
		{impl.Window{Len: 1, Cap: 1}, impl.Window{Len: 1, Cap: 1}, 1, 0, true},
		{impl.Window{Start: 1, Len: 5, Cap: 5}, impl.Window{Start: 1, Len: 5, Cap: 5}, 5, 1, true},
		{impl.Window{Start: 1, Len: 5, Cap: 5}, impl.Window{Array: 1, Start: 1, Len: 5, Cap: 5}, 0, -1, false},
		{impl.Window{Cap: 6}, impl.Window{Array: 1, Cap: 6}, 0, -1, false},
		{impl.Window{Array: 1, Len: 6, Cap: 6}, impl.Window{Array: 1, Start: 2, Len: 2, Cap: 4}, 2, 2, true},
	} {
		many, least, fine := impl.CommonPlaces(m, c.a, c.b)
		near, ok := impl.AreNear(m, c.a, c.b)
		if !fine || !ok || many != c.many || least != c.least || near != c.near {
			t.Errorf("%v and %v: %d, %d, %v", c.a, c.b, many, least, near)
		}
		checkPair(t, m, c.a, c.b)
		checkPair(t, m, c.b, c.a)
	}
}

// seersOf returns the numbers of all Windows of a list that see a place.
func seersOf(list []impl.Window, array, place int) []int {
	numbers := []int{}
	for i, w := range list {
		if sees(w, array, place) {
			numbers = append(numbers, i)
		}
	}
	return numbers
}

func TestNoticed(t *testing.T) { checkWatched(t, checkNoticed) }

func checkNoticed(t *testing.T, m impl.Memory, list []impl.Window) {
	t.Helper()
	for array, size := range []int{9, 4, 64} {
		counts, ok := impl.NoticedCounts(m, list, array)
		if !ok || len(counts) != size {
			t.Fatalf("NoticedCounts of %v on %d = %v, %v", list, array, counts, ok)
		}
		for place := range size {
			want := seersOf(list, array, place)
			by, ok := impl.NoticedBy(m, list, array, place)
			if !ok || !slices.Equal(by, want) || counts[place] != len(want) {
				t.Fatalf("NoticedBy of %v at %d, %d = %v, %v; %d", list, array, place, by, ok, counts[place])
			}
		}
	}
}

// TestNoOtherPlaces: places and arrays that there are not, with Windows and without any.
func TestNoOtherPlaces(t *testing.T) {
	m := memoryOf(4, 2)
	for _, list := range [][]impl.Window{nil, {{Len: 4, Cap: 4}}, {{Array: 1, Start: 2}, {Array: 1, Len: 2, Cap: 2}}} {
		for _, p := range [][2]int{
			{0, -1}, {0, 4}, {1, 2}, {1, 3}, {-1, 0}, {2, 0}, {0, math.MaxInt}, {0, math.MinInt}, {math.MaxInt, 0},
			{math.MinInt, 0}, {-1, -1}, {1 << 32, 0}, {0, 1 << 32}, {math.MinInt, math.MaxInt},
		} {
			if by, ok := impl.NoticedBy(m, list, p[0], p[1]); ok || len(by) != 0 {
				t.Errorf("NoticedBy of %v at %v = %v, %v", list, p, by, ok)
			}
		}
		for _, array := range []int{-1, 2, 16, math.MaxInt, math.MinInt, 1 << 32} {
			if counts, ok := impl.NoticedCounts(m, list, array); ok || len(counts) != 0 {
				t.Errorf("NoticedCounts of %v on %d = %v, %v", list, array, counts, ok)
			}
			if runs, ok := impl.PartCover(m, list, array); ok || len(runs) != 0 {
				t.Errorf("PartCover of %v on %d = %v, %v", list, array, runs, ok)
			}
		}
	}
}

// TestWrittenIsNoticed writes to each place: the Windows by which it is noticed are just those that
// see another byte than they saw, and so are those that have changed since a snapshot.
func TestWrittenIsNoticed(t *testing.T) { checkWatched(t, checkWrittenIsNoticed) }

func checkWrittenIsNoticed(t *testing.T, m impl.Memory, list []impl.Window) {
	t.Helper()
	shot, _ := impl.TakeSnapshot(m, list)
	for array, bytesOf := range m.Arrays {
		whole, _ := impl.WholeWindow(m, array)
		for place := 0; place < len(bytesOf); place += 1 + place/9 {
			by, ok := impl.NoticedBy(m, list, array, place)
			next, fine := impl.WriteAt(m, whole, place, 250)
			if want := changedIn(m, next, list); !ok || !fine || !slices.Equal(by, want) {
				t.Fatalf("written at %d, %d: noticed by %v of %v, changed are %v", array, place, by, list, want)
			}
			if changed, ok := impl.ChangedSince(next, list, shot); !ok || !slices.Equal(changed, by) {
				t.Fatalf("written at %d, %d: ChangedSince of %v is %v, not %v", array, place, list, changed, by)
			}
		}
	}
}

// changedIn returns the numbers of all Windows that see other bytes on one Memory than on another one.
func changedIn(m, next impl.Memory, list []impl.Window) []int {
	numbers := []int{}
	for i, w := range list {
		if !bytes.Equal(seenIn(m, w), seenIn(next, w)) {
			numbers = append(numbers, i)
		}
	}
	return numbers
}

func TestShareGroups(t *testing.T) { checkWatched(t, checkGroups) }

func checkGroups(t *testing.T, m impl.Memory, list []impl.Window) {
	t.Helper()
	want := groupsOf(m, list)
	got, ok := impl.ShareGroups(m, list)
	if !ok || !slices.EqualFunc(got, want, slices.Equal) {
		t.Fatalf("ShareGroups of %v = %v, %v, not %v", list, got, ok, want)
	}
	if apart, ok := impl.MostApart(m, list); !ok || len(apart) < len(got) {
		t.Fatalf("MostApart of %v = %v, %v, but %d groups", list, apart, ok, len(got))
	}
}

// groupsOf finds all ways from Window to Window, by one more of them at a time, and then the groups.
func groupsOf(m impl.Memory, list []impl.Window) [][]int {
	way := make([][]bool, len(list))
	for i, a := range list {
		way[i] = make([]bool, len(list))
		for j, b := range list {
			way[i][j] = i == j || len(seesBoth(m, a, b)) > 0
		}
	}
	for k := range list {
		for i := range list {
			for j := range list {
				way[i][j] = way[i][j] || way[i][k] && way[k][j]
			}
		}
	}
	groups := [][]int{}
	for i := range list {
		group := []int{}
		for j := range list {
			if way[i][j] {
				group = append(group, j)
			}
		}
		if group[0] == i {
			groups = append(groups, group)
		}
	}
	return groups
}

func TestShareGroupsByHand(t *testing.T) {
	m := memoryOf(6, 6)
	for _, c := range []struct {
		list []impl.Window
		want [][]int
	}{
		{nil, nil},
		{[]impl.Window{{}}, [][]int{{0}}},
		{[]impl.Window{{}, {}, {Start: 6}}, [][]int{{0}, {1}, {2}}},
		{[]impl.Window{{Len: 1, Cap: 1}, {Len: 1, Cap: 6}}, [][]int{{0, 1}}},
		{[]impl.Window{{Len: 1, Cap: 1}, {Array: 1, Len: 1, Cap: 1}}, [][]int{{0}, {1}}},
		{[]impl.Window{{Len: 3, Cap: 3}, {Start: 1, Cap: 1}, {Start: 3, Len: 3, Cap: 3}}, [][]int{{0}, {1}, {2}}},
		// The last one makes one group of two that there were, the one ahead of it joins the later one.
		{[]impl.Window{{Len: 2, Cap: 2}, {Start: 4, Len: 2, Cap: 2}, {Array: 1, Len: 1, Cap: 1}, {Start: 3, Len: 2, Cap: 2}, {Start: 1, Len: 3, Cap: 3}},
			[][]int{{0, 1, 3, 4}, {2}}},
		{[]impl.Window{{Start: 4, Len: 2, Cap: 2}, {Array: 1, Len: 2, Cap: 2}, {Len: 2, Cap: 2}, {Array: 1, Start: 1, Len: 2, Cap: 2}, {Start: 1, Len: 1, Cap: 1}},
			[][]int{{0}, {1, 3}, {2, 4}}},
	} {
		if got, ok := impl.ShareGroups(m, c.list); !ok || !slices.EqualFunc(got, c.want, slices.Equal) {
			t.Errorf("ShareGroups of %v = %v, %v, not %v", c.list, got, ok, c.want)
		}
	}
}

func TestTreading(t *testing.T) { checkWatched(t, checkTreading) }

func checkTreading(t *testing.T, m impl.Memory, list []impl.Window) {
	t.Helper()
	shot, _ := impl.TakeSnapshot(m, list)
	for i, w := range list {
		safe, room := 0, w.Cap-w.Len
		for n := range room + 3 {
			trodden, ok := impl.TroddenBy(m, list, i, n)
			if want := troddenOf(list, i, n); !ok || !slices.Equal(trodden, want) {
				t.Fatalf("TroddenBy of %v at %d by %d = %v, %v, not %v", list, i, n, trodden, ok, want)
			}
			if n <= room && len(trodden) == 0 {
				safe = n
			}
			checkAppendTreads(t, m, list, i, n, trodden, shot)
		}
		if got, ok := impl.SafeToAppend(m, list, i); !ok || got != safe {
			t.Fatalf("SafeToAppend of %v at %d = %d, %v, not %d", list, i, got, ok, safe)
		}
	}
}

// troddenOf returns the numbers of all Windows that see one of the n places behind those that the
// Window i sees, or none if its room is not enough.
func troddenOf(list []impl.Window, i, n int) []int {
	numbers := []int{}
	w := list[i]
	if n > w.Cap-w.Len {
		return numbers
	}
	for k := range n {
		numbers = append(numbers, seersOf(list, w.Array, w.Start+w.Len+k)...)
	}
	slices.Sort(numbers)
	return slices.Compact(numbers)
}

// checkAppendTreads: just the Windows that are trodden on see other bytes behind the append.
func checkAppendTreads(t *testing.T, m impl.Memory, list []impl.Window, i, n int, trodden []int, shot impl.Memory) {
	t.Helper()
	next, _, ok := impl.AppendBytes(m, list[i], bytes.Repeat([]byte{250}, n))
	if !ok {
		return
	}
	if want := changedIn(m, next, list); !slices.Equal(trodden, want) {
		t.Fatalf("%d bytes to %d of %v tread on %v, but change %v", n, i, list, trodden, want)
	}
	if changed, ok := impl.ChangedSince(next, list, shot); !ok || !slices.Equal(changed, trodden) {
		t.Fatalf("%d bytes to %d of %v tread on %v, ChangedSince is %v, %v", n, i, list, trodden, changed, ok)
	}
}

// TestTreadingByHand has what the document names: the room just used up, and appends beyond it.
func TestTreadingByHand(t *testing.T) {
	m := memoryOf(6, 64)
	list := []impl.Window{
		{Len: 3, Cap: 6}, {Start: 2, Len: 2, Cap: 2}, {Start: 4, Len: 2, Cap: 2}, {Cap: 2}, {Start: 3, Cap: 3},
		{Array: 1, Len: 64, Cap: 64}, {Array: 1, Start: 60, Cap: 4}, {Len: 3, Cap: 6}, {Array: 1, Start: 5, Len: 5, Cap: 7},
		{Start: 5, Cap: 1},
	}
	for _, c := range []struct {
		i, n int
		want []int
		safe int
	}{
		{0, 0, nil, 0}, {0, 1, []int{1}, 0}, {0, 2, []int{1, 2}, 0}, {0, 3, []int{1, 2}, 0}, {0, 4, nil, 0},
		{0, 62, nil, 0}, {0, math.MaxInt, nil, 0}, {0, math.MaxInt - 2, nil, 0}, {1, 0, nil, 0}, {1, 1, nil, 0},
		{3, 0, nil, 0}, {3, 1, []int{0, 7}, 0}, {3, 2, []int{0, 7}, 0}, {3, 3, nil, 0}, {4, 1, []int{1}, 0},
		{5, 1, nil, 0}, {5, 1000, nil, 0}, {6, 4, []int{5}, 0}, {6, 5, nil, 0}, {7, 2, []int{1, 2}, 0}, {8, 2, []int{5}, 0},
		{8, 3, nil, 0}, {9, 1, []int{2}, 0},
	} {
		if got, ok := impl.TroddenBy(m, list, c.i, c.n); !ok || !slices.Equal(got, c.want) {
			t.Errorf("TroddenBy at %d by %d = %v, %v", c.i, c.n, got, ok)
		}
		if got, ok := impl.SafeToAppend(m, list, c.i); !ok || got != c.safe {
			t.Errorf("SafeToAppend at %d = %d, %v", c.i, got, ok)
		}
	}
}

func TestSafeToAppendByHand(t *testing.T) {
	m := memoryOf(64, 3)
	for _, c := range []struct {
		list []impl.Window
		want int
	}{
		{[]impl.Window{{Cap: 64}}, 64},
		{[]impl.Window{{Len: 64, Cap: 64}}, 0},
		{[]impl.Window{{Len: 10, Cap: 20}}, 10},
		{[]impl.Window{{Len: 10, Cap: 20}, {Start: 20, Len: 44, Cap: 44}}, 10},
		{[]impl.Window{{Len: 10, Cap: 20}, {Start: 19, Len: 1, Cap: 1}}, 9},
		{[]impl.Window{{Len: 10, Cap: 20}, {Start: 18, Cap: 46}, {Start: 15, Len: 1, Cap: 1}, {Start: 17, Len: 1, Cap: 1}}, 5},
		{[]impl.Window{{Len: 10, Cap: 20}, {Len: 10, Cap: 20}, {Len: 10, Cap: 10}}, 10},
		{[]impl.Window{{Len: 10, Cap: 20}, {Len: 11, Cap: 20}}, 0},
		{[]impl.Window{{Len: 10, Cap: 20}, {Array: 1, Len: 3, Cap: 3}, {Start: 12}}, 10},
		{[]impl.Window{{Cap: 64}, {Start: 63, Len: 1, Cap: 1}}, 63},
	} {
		if got, ok := impl.SafeToAppend(m, c.list, 0); !ok || got != c.want {
			t.Errorf("SafeToAppend of %v = %d, %v, not %d", c.list, got, ok, c.want)
		}
		trodden, ok := impl.TroddenBy(m, c.list, 0, c.want)
		if !ok || len(trodden) != 0 {
			t.Errorf("TroddenBy of %v by %d = %v, %v", c.list, c.want, trodden, ok)
		}
	}
}

func TestNoOtherNumbers(t *testing.T) {
	m := memoryOf(4, 2)
	list := []impl.Window{{Len: 1, Cap: 4}, {Array: 1, Cap: 2}}
	for _, c := range [][2]int{
		{-1, 0}, {2, 0}, {2, 1}, {12, 0}, {math.MaxInt, 0}, {math.MinInt, 0}, {1 << 32, 0},
		{0, -1}, {1, -1}, {0, math.MinInt}, {1, -1 << 32}, {-1, -1}, {2, math.MaxInt},
	} {
		if got, ok := impl.TroddenBy(m, list, c[0], c[1]); ok || len(got) != 0 {
			t.Errorf("TroddenBy at %d by %d = %v, %v", c[0], c[1], got, ok)
		}
		if got, ok := impl.SafeToAppend(m, list, c[0]); c[1] >= 0 && (ok || got != 0) {
			t.Errorf("SafeToAppend at %d = %d, %v", c[0], got, ok)
		}
	}
	if got, ok := impl.TroddenBy(m, nil, 0, 0); ok || len(got) != 0 {
		t.Errorf("TroddenBy of no Windows = %v, %v", got, ok)
	}
	if got, ok := impl.SafeToAppend(m, nil, 0); ok || got != 0 {
		t.Errorf("SafeToAppend of no Windows = %v, %v", got, ok)
	}
}

func TestMostApart(t *testing.T) { checkWatched(t, checkMostApart) }

func checkMostApart(t *testing.T, m impl.Memory, list []impl.Window) {
	t.Helper()
	want := mostApartOf(m, list)
	if got, ok := impl.MostApart(m, list); !ok || !slices.Equal(got, want) {
		t.Fatalf("MostApart of %v = %v, %v, not %v", list, got, ok, want)
	}
}

// mostApartOf goes through all sets of numbers, each of which is one of the bits of a number.
func mostApartOf(m impl.Memory, list []impl.Window) []int {
	share := make([]int, len(list)) // the set of all others with which one shares
	for i, a := range list {
		for j, b := range list {
			if i != j && len(seesBoth(m, a, b)) > 0 {
				share[i] |= 1 << j
			}
		}
	}
	best := []int{}
	for set := range 1 << len(list) {
		numbers := []int{}
		for i := range list {
			if set>>i&1 == 1 && share[i]&set == 0 {
				numbers = append(numbers, i)
			} else if set>>i&1 == 1 {
				numbers = nil
				break
			}
		}
		if len(numbers) > len(best) || len(numbers) == len(best) && slices.Compare(numbers, best) < 0 {
			best = numbers
		}
	}
	return best
}

func TestMostApartByHand(t *testing.T) {
	m := memoryOf(6, 6)
	for _, c := range []struct {
		list []impl.Window
		want []int
	}{
		{nil, nil},
		{[]impl.Window{{}, {}, {Start: 6}, {Len: 6, Cap: 6}}, []int{0, 1, 2, 3}},
		{[]impl.Window{{Len: 3, Cap: 6}, {Start: 2, Len: 2, Cap: 2}, {Start: 4, Len: 2, Cap: 2}}, []int{0, 2}},
		{[]impl.Window{{Len: 2, Cap: 2}, {Len: 2, Cap: 2}, {Start: 2, Len: 2, Cap: 2}, {Start: 2, Len: 2, Cap: 2}}, []int{0, 2}},
		// The first one is left out for a longer list.
		{[]impl.Window{{Len: 6, Cap: 6}, {Len: 2, Cap: 2}, {Start: 4, Len: 2, Cap: 2}}, []int{1, 2}},
		{[]impl.Window{{Len: 6, Cap: 6}, {Start: 1, Len: 4, Cap: 4}, {Array: 1, Len: 1, Cap: 1}}, []int{0, 2}},
		{[]impl.Window{{Len: 3, Cap: 3}, {Start: 2, Len: 2, Cap: 2}, {Start: 3, Len: 3, Cap: 3}, {Len: 2, Cap: 2}, {Start: 4, Len: 2, Cap: 2}},
			[]int{1, 3, 4}},
	} {
		if got, ok := impl.MostApart(m, c.list); !ok || !slices.Equal(got, c.want) {
			t.Errorf("MostApart of %v = %v, %v, not %v", c.list, got, ok, c.want)
		}
	}
}

func TestPartCover(t *testing.T) { checkWatched(t, checkCover) }

func checkCover(t *testing.T, m impl.Memory, list []impl.Window) {
	t.Helper()
	for array, size := range []int{9, 4, 64} {
		want := [][2]int{}
		for first := range size {
			for last := first; last < size; last++ {
				// A run of seen places, with none that is seen ahead of it or behind it.
				run := len(seersOf(list, array, first-1)) == 0 && len(seersOf(list, array, last+1)) == 0
				for place := first; place <= last && run; place++ {
					run = len(seersOf(list, array, place)) > 0
				}
				if run {
					want = append(want, [2]int{first, last})
				}
			}
		}
		if got, ok := impl.PartCover(m, list, array); !ok || !slices.Equal(got, want) {
			t.Fatalf("PartCover of %v on %d = %v, %v, not %v", list, array, got, ok, want)
		}
	}
}

func TestPartCoverByHand(t *testing.T) {
	m := memoryOf(6, 64)
	for _, c := range []struct {
		list  []impl.Window
		array int
		want  [][2]int
	}{
		{nil, 0, nil},
		{[]impl.Window{{Cap: 6}, {Start: 3}, {Array: 1, Len: 1, Cap: 1}}, 0, nil},
		{[]impl.Window{{Len: 6, Cap: 6}}, 0, [][2]int{{0, 5}}},
		{[]impl.Window{{Start: 3, Len: 3, Cap: 3}, {Len: 3, Cap: 3}}, 0, [][2]int{{0, 5}}},
		{[]impl.Window{{Start: 4, Len: 2, Cap: 2}, {Len: 3, Cap: 6}}, 0, [][2]int{{0, 2}, {4, 5}}},
		{[]impl.Window{{Start: 5, Len: 1, Cap: 1}, {Start: 1, Len: 1, Cap: 1}, {Start: 3, Len: 1, Cap: 1}}, 0, [][2]int{{1, 1}, {3, 3}, {5, 5}}},
		{[]impl.Window{{Array: 1, Start: 63, Len: 1, Cap: 1}, {Array: 1, Len: 62, Cap: 64}}, 1, [][2]int{{0, 61}, {63, 63}}},
	} {
		if got, ok := impl.PartCover(m, c.list, c.array); !ok || !slices.Equal(got, c.want) {
			t.Errorf("PartCover of %v on %d = %v, %v, not %v", c.list, c.array, got, ok, c.want)
		}
	}
}

func TestSnapshots(t *testing.T) { checkWatched(t, checkSnapshot) }

func checkSnapshot(t *testing.T, m impl.Memory, list []impl.Window) {
	t.Helper()
	want := impl.Memory{}
	for _, w := range list {
		array := seenIn(m, w)
		if w.Len == 0 {
			array = []byte{0}
		}
		want.Arrays = append(want.Arrays, array)
	}
	shot, ok := impl.TakeSnapshot(m, list)
	if !ok || !equalMemories(shot, want) || !impl.IsMemory(shot) {
		t.Fatalf("TakeSnapshot of %v = %v, %v, not %v", list, shot, ok, want)
	}
	if changed, ok := impl.ChangedSince(m, list, shot); !ok || len(changed) != 0 {
		t.Fatalf("ChangedSince of %v at once = %v, %v", list, changed, ok)
	}
	for i, array := range shot.Arrays {
		// Each byte in turn, by just one bit, and the snapshot as it was behind this.
		for k := 0; k < len(array); k += 1 + k/4 {
			array[k] ^= 128
			changed, ok := impl.ChangedSince(m, list, shot)
			if one := []int{i}[:min(list[i].Len, 1)]; !ok || !slices.Equal(changed, one) {
				t.Fatalf("ChangedSince of %v with byte %d of %d other = %v, %v", list, k, i, changed, ok)
			}
			array[k] ^= 128
		}
	}
}

// TestChangedSinceRefusesOtherMemories: other numbers of arrays, and arrays of other sizes.
func TestChangedSinceRefusesOtherMemories(t *testing.T) {
	m := memoryOf(64, 2)
	list := []impl.Window{{Len: 3, Cap: 5}, {Array: 1, Start: 1, Cap: 1}, {Start: 1, Len: 63, Cap: 63}}
	shot, ok := impl.TakeSnapshot(m, list)
	if !ok || len(shot.Arrays) != 3 {
		t.Fatal("TakeSnapshot", shot, ok)
	}
	refused := append(badMemories(), impl.Memory{}, memoryOf(3, 1), memoryOf(3, 1, 63, 1), memoryOf(1, 3, 63), m, fullMemory())
	for i := range list {
		for _, size := range []int{0, 1, 2, 3, 4, 5, 62, 63, 64, 65} {
			if size != len(shot.Arrays[i]) {
				other := cloned(shot)
				other.Arrays[i] = make([]byte, size)
				refused = append(refused, other)
			}
		}
	}
	for _, other := range refused {
		if changed, ok := impl.ChangedSince(m, list, other); ok || len(changed) != 0 {
			t.Errorf("ChangedSince %v = %v, %v", other, changed, ok)
		}
	}
	if changed, ok := impl.ChangedSince(m, list, memoryOf(3, 1, 63)); !ok || !slices.Equal(changed, []int{2}) {
		t.Errorf("ChangedSince another Memory = %v, %v", changed, ok)
	}
	if changed, ok := impl.ChangedSince(m, nil, memoryOf(1)); ok || len(changed) != 0 {
		t.Errorf("ChangedSince with no Windows = %v, %v", changed, ok)
	}
}

// sharingArguments are what the functions of chapter 3 have as arguments.
type sharingArguments struct {
	m    impl.Memory
	list []impl.Window
	n    [2]int
	shot impl.Memory
}

// pair returns the two first Windows of the list, or zero Windows in their place.
func (x sharingArguments) pair() (impl.Window, impl.Window) {
	list := append(slices.Clone(x.list), impl.Window{}, impl.Window{})
	return list[0], list[1]
}

// sharingCall calls one function of chapter 3 with those of the arguments that it has. It fails
// unless the pair is one of Windows, or the list is watched, if it needs that.
type sharingCall struct {
	name    string
	pair    bool
	watched bool
	call    func(x sharingArguments) []any
}

// sharingCalls has all functions of chapter 3.
func sharingCalls() []sharingCall {
	type arguments = sharingArguments
	return []sharingCall{
		{"AreWatched", false, false, func(x arguments) []any { return resultsOf(impl.AreWatched(x.m, x.list)) }},
		{"CommonPlaces", true, false, func(x arguments) []any {
			a, b := x.pair()
			return resultsOf(impl.CommonPlaces(x.m, a, b))
		}},
		{"DoShare", true, false, func(x arguments) []any {
			a, b := x.pair()
			return resultsOf(impl.DoShare(x.m, a, b))
		}},
		{"AreNear", true, false, func(x arguments) []any {
			a, b := x.pair()
			return resultsOf(impl.AreNear(x.m, a, b))
		}},
		{"NoticedBy", false, true, func(x arguments) []any { return resultsOf(impl.NoticedBy(x.m, x.list, x.n[0], x.n[1])) }},
		{"NoticedCounts", false, true, func(x arguments) []any { return resultsOf(impl.NoticedCounts(x.m, x.list, x.n[0])) }},
		{"ShareGroups", false, true, func(x arguments) []any { return resultsOf(impl.ShareGroups(x.m, x.list)) }},
		{"TroddenBy", false, true, func(x arguments) []any { return resultsOf(impl.TroddenBy(x.m, x.list, x.n[0], x.n[1])) }},
		{"SafeToAppend", false, true, func(x arguments) []any { return resultsOf(impl.SafeToAppend(x.m, x.list, x.n[0])) }},
		{"MostApart", false, true, func(x arguments) []any { return resultsOf(impl.MostApart(x.m, x.list)) }},
		{"PartCover", false, true, func(x arguments) []any { return resultsOf(impl.PartCover(x.m, x.list, x.n[0])) }},
		{"TakeSnapshot", false, true, func(x arguments) []any { return resultsOf(impl.TakeSnapshot(x.m, x.list)) }},
		{"ChangedSince", false, true, func(x arguments) []any { return resultsOf(impl.ChangedSince(x.m, x.list, x.shot)) }},
	}
}

// TestChapter3ReturnsForAll calls each function with arguments of all kinds, valid ones and others.
func TestChapter3ReturnsForAll(t *testing.T) {
	memories := append(badMemories(), impl.Memory{}, memoryOf(4, 2), memoryOf(64, 64), fullMemory(), overlaid())
	lists := [][]impl.Window{
		nil, {{}}, {{Len: 3, Cap: 3}, {Start: 1, Len: 2, Cap: 2}}, {{Array: 1, Start: 1, Cap: 1}, {Array: 1, Len: 2, Cap: 2}, {}},
		slices.Repeat([]impl.Window{{}}, 12), slices.Repeat([]impl.Window{{}}, 13),
		slices.Repeat([]impl.Window{{Len: 2, Cap: 3}, {Start: 2, Len: 1, Cap: 1}}, 6), slices.Repeat([]impl.Window{{Len: 2, Cap: 3}}, 13),
		make([]impl.Window, 10000),
	}
	for _, bad := range badWindows() {
		lists = append(lists, []impl.Window{bad}, []impl.Window{{Len: 2, Cap: 2}, bad}, []impl.Window{bad, {Len: 2, Cap: 2}})
	}
	numbers := [][2]int{{0, 0}, {0, 1}, {1, 1}, {1, 0}, {0, 100}, {-1, 0}, {0, -1}, {64, 65}, {15, 2},
		{math.MaxInt, math.MinInt}, {math.MinInt, math.MaxInt}, {0, math.MaxInt}, {1, math.MinInt}}
	for _, m := range memories {
		for i, list := range lists {
			shots := []impl.Memory{{}, memories[i%len(memories)], memoryOf(slices.Repeat([]int{1}, min(len(list), 20))...)}
			if shot, ok := impl.TakeSnapshot(m, list); ok {
				shots = append(shots, shot)
			}
			for j, n := range numbers {
				checkSharingCalls(t, sharingArguments{m, list, n, shots[j%len(shots)]})
			}
		}
	}
}

// checkSharingCalls calls all functions with the same arguments.
func checkSharingCalls(t *testing.T, x sharingArguments) {
	t.Helper()
	m, list, shot := cloned(x.m), slices.Clone(x.list), cloned(x.shot)
	kept := func() bool {
		return equalMemories(x.m, m) && slices.Equal(x.list, list) && equalMemories(x.shot, shot)
	}
	a, b := x.pair()
	pair := fitArguments(m, []impl.Window{a, b})
	watched := len(list) <= impl.MaxWatched && fitArguments(m, list)
	for _, c := range sharingCalls() {
		ok := checkResults(t, c.name, func() []any { return c.call(x) }, kept)
		if ok && (c.pair && !pair || c.watched && !watched) {
			t.Fatalf("%s of %v on %v does not fail", c.name, list, m)
		}
		if !ok && c.name == "AreWatched" && impl.IsMemory(m) {
			t.Fatalf("%s of %v on %v fails", c.name, list, m)
		}
	}
}
