package tests

import (
	"math"
	"slices"
	"testing"

	"loop.example/g01179/impl"
)

// belongs reports whether a time belongs to a Loan.
func belongs(a impl.Loan, t int) bool { return a.From <= t && t < a.To }

// lent reports whether a Loan is held at a time and its View sees a place.
func lent(a impl.Loan, array, place, t int) bool {
	return belongs(a, t) && sees(a.View, array, place)
}

// clashTime returns the first time that belongs to both of two Loans in conflict, or -1 if they are in none.
func clashTime(m impl.Memory, a, b impl.Loan) int {
	if !a.Own && !b.Own || len(seesBoth(m, a.View, b.View)) == 0 {
		return -1
	}
	for t := range impl.MaxHours {
		if belongs(a, t) && belongs(b, t) {
			return t
		}
	}
	return -1
}

// clashesOf returns all pairs in conflict, the less number first, in lexicographic order.
func clashesOf(m impl.Memory, list []impl.Loan) [][2]int {
	pairs := [][2]int{}
	for i := range list {
		for j := range list {
			if i < j && clashTime(m, list[i], list[j]) >= 0 {
				pairs = append(pairs, [2]int{i, j})
			}
		}
	}
	return pairs
}

// spans are times of Loans: empty ones, those that touch, and those at the limits.
func spans() [][2]int {
	return [][2]int{
		{0, 0}, {60, 60}, {10, 10}, {0, 60}, {0, 1}, {59, 60}, {5, 10}, {10, 15}, {9, 11}, {10, 11}, {9, 10}, {11, 12}, {5, 15}, {0, 30}, {30, 60}, {29, 31}, {1, 59}, {20, 50},
	}
}

// loanAt returns a Loan of places of the array 0, without room.
func loanAt(start, length int, own bool, from, to int) impl.Loan {
	return impl.Loan{View: impl.Window{Start: start, Len: length, Cap: length}, Own: own, From: from, To: to}
}

// loansMemory is the Memory that loanLists are on.
func loansMemory() impl.Memory { return memoryOf(6, 3, 64) }

// pickedLoan returns any Loan by a rule: sparse ones lend few places for short times, so that many are clean together.
func pickedLoan(pick func(int) int, views []impl.Window, sparse bool) impl.Loan {
	a := impl.Loan{View: views[pick(len(views))], Own: pick(3) > 0}
	if sparse {
		a.View.Len = min(a.View.Len, pick(3))
		a.From = pick(58)
		a.To = a.From + pick(4)
		return a
	}
	span := spans()[pick(len(spans()))]
	a.From, a.To = span[0], span[1]
	if pick(3) == 0 {
		a.From = pick(61)
		a.To = a.From + pick(61-a.From)
	}
	return a
}

// loanLists returns lists of Loans of all kinds on loansMemory: named ones, and many that a fixed rule picks, of up
// to MaxLoans.
func loanLists() [][]impl.Loan {
	lists := [][]impl.Loan{
		nil, {}, {loanAt(0, 6, true, 0, 60)}, {loanAt(0, 0, true, 0, 60)}, {loanAt(0, 6, true, 7, 7)}, {loanAt(0, 6, false, 0, 60)},
		slices.Repeat([]impl.Loan{loanAt(0, 6, true, 0, 60)}, impl.MaxLoans), slices.Repeat([]impl.Loan{loanAt(0, 6, false, 0, 60)}, impl.MaxLoans),
		slices.Repeat([]impl.Loan{loanAt(6, 0, true, 0, 60)}, impl.MaxLoans), slices.Repeat([]impl.Loan{loanAt(0, 6, true, 60, 60)}, impl.MaxLoans),
		slices.Repeat([]impl.Loan{loanAt(0, 6, true, 10, 20), loanAt(0, 6, true, 20, 30)}, 2),
		{loanAt(0, 6, true, 0, 20), loanAt(0, 6, true, 20, 40), loanAt(0, 6, true, 40, 60)},
		{loanAt(0, 2, true, 0, 60), loanAt(2, 2, true, 0, 60), loanAt(4, 2, true, 0, 60)},
		{loanAt(0, 6, false, 0, 60), loanAt(0, 6, false, 0, 60), loanAt(5, 1, true, 59, 60)},
		{loanAt(0, 6, true, 0, 60), loanAt(0, 1, false, 1, 2), loanAt(1, 1, false, 1, 2), loanAt(2, 1, true, 3, 4)},
	}
	pick, views := pickBy(10), allWindows(memoryOf(6, 3))
	great := []impl.Window{{Array: 2, Len: 64, Cap: 64}, {Array: 2, Len: 32, Cap: 64}, {Array: 2, Start: 32, Len: 32, Cap: 32}, {Array: 2, Start: 63, Len: 1, Cap: 1}, {Array: 2, Start: 64}, {Array: 2, Start: 31, Len: 2, Cap: 33}}
	for i := range 4000 {
		list := []impl.Loan{}
		for range i%impl.MaxLoans + 1 {
			from := views
			if pick(7) == 0 {
				from = great
			}
			list = append(list, pickedLoan(pick, from, i%3 == 0))
		}
		lists = append(lists, list)
	}
	return lists
}

// checkLoans makes a check for all of loanLists.
func checkLoans(t *testing.T, check func(t *testing.T, m impl.Memory, list []impl.Loan)) {
	t.Helper()
	m := loansMemory()
	for _, list := range loanLists() {
		check(t, m, list)
	}
}

// badLoans returns Loans of all kinds that are not valid on memoryOf(4, 2).
func badLoans() []impl.Loan {
	bad := []impl.Loan{}
	for _, w := range badWindows() {
		bad = append(bad, impl.Loan{View: w}, impl.Loan{View: w, Own: true, From: 3, To: 9})
	}
	for _, span := range [][2]int{
		{-1, 0}, {-1, 5}, {-1, -1}, {0, 61}, {60, 61}, {61, 61}, {1, 0}, {60, 0}, {60, 59}, {31, 30}, {0, -1}, {5, -5}, {61, 60}, {-5, 70}, {0, math.MaxInt}, {math.MaxInt, math.MaxInt},
		{math.MinInt, 0}, {math.MinInt, math.MinInt}, {math.MinInt, math.MaxInt}, {math.MaxInt, math.MinInt}, {0, 1 << 32}, {1 << 32, 1 << 32}, {1, math.MinInt}, {math.MaxInt, 1},
	} {
		for _, own := range []bool{false, true} {
			bad = append(bad, loanAt(0, 4, own, span[0], span[1]), loanAt(1, 0, own, span[0], span[1]))
		}
	}
	return bad
}

// badLists returns lists of any Loans that are no Loans on memoryOf(4, 2).
func badLists() [][]impl.Loan {
	lists := [][]impl.Loan{
		make([]impl.Loan, impl.MaxLoans+1), make([]impl.Loan, 1000), slices.Repeat([]impl.Loan{loanAt(0, 4, false, 0, 60)}, 9), slices.Repeat([]impl.Loan{loanAt(0, 4, true, 0, 60)}, 9),
	}
	for _, bad := range badLoans() {
		lists = append(lists, []impl.Loan{bad}, []impl.Loan{loanAt(0, 1, true, 0, 5), bad}, []impl.Loan{bad, loanAt(0, 4, true, 0, 60), {}},
			append(make([]impl.Loan, 7), bad))
	}
	return lists
}

// checkListFails checks that all functions fail for a list that is none of Loans on a Memory.
func checkListFails(t *testing.T, m impl.Memory, list []impl.Loan) {
	t.Helper()
	if pairs, ok := impl.ConflictsOf(m, list); ok || len(pairs) != 0 {
		t.Fatalf("ConflictsOf of %v = %v, %v", list, pairs, ok)
	}
	checkNoClash(t, m, list)
	for _, time := range []int{0, 7, 60} {
		checkNotHeld(t, m, list, time)
	}
	if can, ok := impl.CanLend(m, list, impl.Loan{}); ok || can {
		t.Fatalf("CanLend of %v = %v, %v", list, can, ok)
	}
	if delay, ok := impl.DelayOf(m, list, impl.Loan{}); ok || delay != 0 {
		t.Fatalf("DelayOf of %v = %v, %v", list, delay, ok)
	}
	if most, ok := impl.MostClean(m, list); ok || len(most) != 0 {
		t.Fatalf("MostClean of %v = %v, %v", list, most, ok)
	}
	if k, ok := impl.RunClean(m, list); ok || k != 0 {
		t.Fatalf("RunClean of %v = %v, %v", list, k, ok)
	}
}

func checkNoClash(t *testing.T, m impl.Memory, list []impl.Loan) {
	t.Helper()
	if time, pair, ok := impl.FirstClash(m, list); ok || time != 0 || pair != [2]int{} {
		t.Fatalf("FirstClash of %v = %v, %v, %v", list, time, pair, ok)
	}
}

func checkNotHeld(t *testing.T, m impl.Memory, list []impl.Loan, time int) {
	t.Helper()
	if held, ok := impl.HeldAt(m, list, time); ok || len(held) != 0 {
		t.Fatalf("HeldAt of %v at %d = %v, %v", list, time, held, ok)
	}
	if lenders, ok := impl.LendersOf(m, list, time); ok || len(lenders) != 0 {
		t.Fatalf("LendersOf of %v at %d = %v, %v", list, time, lenders, ok)
	}
}

// checkLoanFails checks that all functions fail for a Loan that is none on a Memory.
func checkLoanFails(t *testing.T, m impl.Memory, a impl.Loan) {
	t.Helper()
	for _, b := range []impl.Loan{a, {}, loanAt(0, 2, true, 0, 60)} {
		one, fine := impl.InConflict(m, a, b)
		two, ok := impl.InConflict(m, b, a)
		if one || two || fine || ok {
			t.Fatalf("InConflict of %v and %v = %v, %v; %v, %v", a, b, one, fine, two, ok)
		}
	}
	for _, list := range [][]impl.Loan{nil, {loanAt(0, 1, true, 0, 5)}, {a}} {
		can, fine := impl.CanLend(m, list, a)
		delay, ok := impl.DelayOf(m, list, a)
		if can || delay != 0 || fine || ok {
			t.Fatalf("%v beside %v: CanLend = %v, %v; DelayOf = %v, %v", a, list, can, fine, delay, ok)
		}
	}
	for _, at := range [][2]int{{0, 0}, {1, 5}, {0, 60}, {3, 3}, {a.View.Start, a.From}} {
		checkNoRight(t, m, a, at[0], at[1])
	}
	for _, k := range []int{0, 1, a.View.Len} {
		checkNotSplit(t, m, a, k)
	}
	for _, times := range [][2]int{{0, 0}, {a.From, a.To}, {a.From, a.From}, {5, 9}} {
		checkNotShared(t, m, a, times[0], times[1])
	}
}

func checkNoRight(t *testing.T, m impl.Memory, a impl.Loan, place, time int) {
	t.Helper()
	if may, ok := impl.MayWrite(m, a, place, time); ok || may {
		t.Fatalf("MayWrite by %v at %d, %d = %v, %v", a, place, time, may, ok)
	}
	if may, ok := impl.MayRead(m, a, place, time); ok || may {
		t.Fatalf("MayRead by %v at %d, %d = %v, %v", a, place, time, may, ok)
	}
}

func checkNotSplit(t *testing.T, m impl.Memory, a impl.Loan, k int) {
	t.Helper()
	if first, second, ok := impl.SplitLoan(m, a, k); ok || first != (impl.Loan{}) || second != (impl.Loan{}) {
		t.Fatalf("SplitLoan of %v at %d = %v, %v, %v", a, k, first, second, ok)
	}
}

func checkNotShared(t *testing.T, m impl.Memory, a impl.Loan, from, to int) {
	t.Helper()
	if first, shared, last, ok := impl.ShareLoan(m, a, from, to); ok || first != (impl.Loan{}) || shared != (impl.Loan{}) || last != (impl.Loan{}) {
		t.Fatalf("ShareLoan of %v from %d to %d = %v, %v, %v, %v", a, from, to, first, shared, last, ok)
	}
}

// TestBadLoans has Memories, lists and Loans that are not valid, for all functions.
func TestBadLoans(t *testing.T) {
	m := memoryOf(4, 2)
	for _, list := range badLists() {
		checkListFails(t, m, list)
	}
	for _, a := range badLoans() {
		checkLoanFails(t, m, a)
	}
	checkLoanFails(t, impl.Memory{}, impl.Loan{})
	checkLoanFails(t, impl.Memory{}, loanAt(0, 1, true, 0, 60))
	for _, m := range badMemories() {
		for _, list := range [][]impl.Loan{nil, {{}}, {loanAt(0, 1, true, 0, 60)}, {loanAt(0, 1, true, 0, 60), loanAt(0, 1, true, 3, 5)}} {
			checkListFails(t, m, list)
		}
		checkLoanFails(t, m, impl.Loan{})
		checkLoanFails(t, m, loanAt(0, 1, true, 0, 60))
	}
}

func TestAreLoans(t *testing.T) {
	checkLoans(t, func(t *testing.T, m impl.Memory, list []impl.Loan) {
		if are, ok := impl.AreLoans(m, list); !are || !ok {
			t.Fatalf("AreLoans of %v = %v, %v", list, are, ok)
		}
	})
	m := memoryOf(4, 2)
	for _, list := range badLists() {
		if are, ok := impl.AreLoans(m, list); are || !ok {
			t.Fatalf("AreLoans of %v = %v, %v", list, are, ok)
		}
	}
	for n, want := range map[int]bool{0: true, 1: true, 7: true, 8: true, 9: false, 16: false, 100: false} {
		if are, ok := impl.AreLoans(m, make([]impl.Loan, n)); are != want || !ok {
			t.Errorf("AreLoans of %d Loans = %v, %v", n, are, ok)
		}
	}
	for from := -2; from <= impl.MaxHours+2; from++ {
		for to := -2; to <= impl.MaxHours+2; to++ {
			if are, ok := impl.AreLoans(m, []impl.Loan{loanAt(0, 1, true, from, to)}); are != (from >= 0 && from <= to && to <= 60) || !ok {
				t.Errorf("AreLoans from %d to %d = %v, %v", from, to, are, ok)
			}
		}
	}
	if are, ok := impl.AreLoans(impl.Memory{}, nil); !are || !ok {
		t.Error("AreLoans of none on no arrays", are, ok)
	}
	if are, ok := impl.AreLoans(impl.Memory{}, []impl.Loan{{}}); are || !ok {
		t.Error("AreLoans of one on no arrays", are, ok)
	}
	for _, bad := range badMemories() {
		for _, list := range [][]impl.Loan{nil, {}, {{}}, {loanAt(0, 1, true, 0, 60)}, make([]impl.Loan, 9), {{From: -1}}} {
			if are, ok := impl.AreLoans(bad, list); are || ok {
				t.Errorf("AreLoans of %v on no Memory = %v, %v", list, are, ok)
			}
		}
	}
}

// TestInConflict has all pairs of Windows on small arrays with pairs of times, exclusive and shared.
func TestInConflict(t *testing.T) {
	turn, times := 0, spans()
	checkPairs(t, func(t *testing.T, m impl.Memory, a, b impl.Window) {
		// The pairs of times take turns; all of them meet each kind of pair of Windows.
		for range 20 {
			turn++
			one, two := times[turn%len(times)], times[turn/len(times)%len(times)]
			for _, own := range [][2]bool{{false, false}, {false, true}, {true, false}, {true, true}} {
				checkInConflict(t, m, impl.Loan{View: a, Own: own[0], From: one[0], To: one[1]}, impl.Loan{View: b, Own: own[1], From: two[0], To: two[1]})
			}
		}
	})
}

func checkInConflict(t *testing.T, m impl.Memory, a, b impl.Loan) {
	t.Helper()
	got, ok := impl.InConflict(m, a, b)
	if !ok || got != (clashTime(m, a, b) >= 0) {
		t.Fatalf("InConflict of %v and %v = %v, %v", a, b, got, ok)
	}
	if got && (a.From == a.To || b.From == b.To || a.View.Len == 0 || b.View.Len == 0 || !a.Own && !b.Own) {
		t.Fatalf("%v and %v are in conflict, but one is empty or both are shared", a, b)
	}
}

// TestAllTimesInConflict has all times of a Loan beside all others of a range, up to the last one.
func TestAllTimesInConflict(t *testing.T) {
	m := memoryOf(3)
	for _, first := range []int{0, 30, 55} {
		for from := first; from <= first+5; from++ {
			for to := from; to <= first+5; to++ {
				for start := first; start <= first+5; start++ {
					for end := start; end <= first+5; end++ {
						checkInConflict(t, m, loanAt(0, 2, true, from, to), loanAt(1, 2, false, start, end))
						checkInConflict(t, m, loanAt(0, 2, false, from, to), loanAt(1, 2, true, start, end))
					}
				}
			}
		}
	}
}

func TestInConflictByHand(t *testing.T) {
	m := memoryOf(6, 6)
	other := loanAt(0, 4, true, 0, 5)
	other.View.Array = 1
	room := loanAt(0, 2, true, 0, 60)
	room.View.Cap = 6
	for _, c := range []struct {
		name string
		a, b impl.Loan
		want bool
	}{
		{"an exclusive and a shared one", loanAt(0, 4, true, 0, 5), loanAt(2, 3, false, 3, 8), true},
		{"two exclusive ones", loanAt(0, 4, true, 0, 5), loanAt(2, 3, true, 3, 8), true},
		{"two shared ones", loanAt(0, 4, false, 0, 5), loanAt(2, 3, false, 3, 8), false},
		{"the same one, exclusive", loanAt(0, 4, true, 0, 5), loanAt(0, 4, true, 0, 5), true},
		{"the same one, shared", loanAt(0, 4, false, 0, 5), loanAt(0, 4, false, 0, 5), false},
		{"one ends as the other begins", loanAt(0, 4, true, 0, 5), loanAt(0, 4, true, 5, 9), false},
		{"one ends just behind this", loanAt(0, 4, true, 0, 6), loanAt(0, 4, true, 5, 9), true},
		{"one place in common", loanAt(0, 4, true, 0, 5), loanAt(3, 3, true, 0, 5), true},
		{"places that touch", loanAt(0, 3, true, 0, 5), loanAt(3, 3, true, 0, 5), false},
		{"one sees what is room", room, loanAt(2, 4, true, 0, 60), false},
		{"one sees a place and the room", room, loanAt(1, 5, false, 0, 60), true},
		{"another array", loanAt(0, 4, true, 0, 5), other, false},
		{"empty times inside the other ones", loanAt(0, 4, true, 0, 60), loanAt(0, 4, true, 30, 30), false},
		{"empty times at the beginning", loanAt(0, 4, true, 0, 60), loanAt(0, 4, true, 0, 0), false},
		{"empty times at the end", loanAt(0, 4, true, 0, 60), loanAt(0, 4, true, 60, 60), false},
		{"the same empty times", loanAt(0, 4, true, 7, 7), loanAt(0, 4, true, 7, 7), false},
		{"no bytes inside the others", loanAt(0, 6, true, 0, 60), loanAt(3, 0, true, 0, 60), false},
		{"no bytes in both", loanAt(3, 0, true, 0, 60), loanAt(3, 0, true, 0, 60), false},
		{"the last time", loanAt(0, 6, true, 59, 60), loanAt(0, 6, true, 0, 60), true},
		{"the first time", loanAt(0, 6, true, 0, 1), loanAt(0, 6, false, 0, 60), true},
	} {
		one, fine := impl.InConflict(m, c.a, c.b)
		two, ok := impl.InConflict(m, c.b, c.a)
		if one != c.want || two != c.want || !fine || !ok {
			t.Errorf("%s: %v, %v; %v, %v", c.name, one, fine, two, ok)
		}
	}
}

func TestConflictsOf(t *testing.T) {
	many := 0
	checkLoans(t, func(t *testing.T, m impl.Memory, list []impl.Loan) {
		want := clashesOf(m, list)
		if pairs, ok := impl.ConflictsOf(m, list); !ok || !slices.Equal(pairs, want) {
			t.Fatalf("ConflictsOf of %v = %v, %v, not %v", list, pairs, ok, want)
		}
		many = max(many, len(want))
	})
	if many != 28 {
		t.Errorf("no list of %d Loans has all pairs in conflict, but %d at most", impl.MaxLoans, many)
	}
}

// firstClashOf goes from time to time, and at each one from pair to pair.
func firstClashOf(m impl.Memory, list []impl.Loan) (int, [2]int, bool) {
	for time := range impl.MaxHours {
		for _, pair := range clashesOf(m, list) {
			if belongs(list[pair[0]], time) && belongs(list[pair[1]], time) {
				return time, pair, true
			}
		}
	}
	return 0, [2]int{}, false
}

func TestFirstClash(t *testing.T) {
	checkLoans(t, func(t *testing.T, m impl.Memory, list []impl.Loan) {
		time, pair, fine := firstClashOf(m, list)
		if got, p, ok := impl.FirstClash(m, list); ok != fine || got != time || p != pair {
			t.Fatalf("FirstClash of %v = %v, %v, %v, not %v, %v, %v", list, got, p, ok, time, pair, fine)
		}
	})
}

func TestFirstClashByHand(t *testing.T) {
	m := memoryOf(6, 6)
	for _, c := range []struct {
		list []impl.Loan
		time int
		pair [2]int
	}{
		{[]impl.Loan{loanAt(0, 4, true, 0, 5), loanAt(2, 3, false, 3, 8)}, 3, [2]int{0, 1}},
		{[]impl.Loan{loanAt(2, 3, false, 3, 8), loanAt(0, 4, true, 0, 5)}, 3, [2]int{0, 1}},
		{[]impl.Loan{loanAt(0, 1, true, 0, 60), loanAt(0, 1, true, 0, 60)}, 0, [2]int{0, 1}},
		{[]impl.Loan{loanAt(0, 1, true, 59, 60), loanAt(0, 1, false, 59, 60)}, 59, [2]int{0, 1}},
		{[]impl.Loan{loanAt(0, 1, true, 0, 60), loanAt(0, 1, false, 59, 60)}, 59, [2]int{0, 1}},
		// A later pair clashes first, and then the first pair of all that clash at a time.
		{[]impl.Loan{loanAt(0, 6, true, 20, 60), loanAt(0, 6, true, 30, 60), loanAt(0, 6, false, 5, 15), loanAt(1, 1, true, 10, 40)}, 10, [2]int{2, 3}},
		{[]impl.Loan{loanAt(0, 2, true, 9, 20), loanAt(3, 2, true, 4, 8), loanAt(4, 2, true, 6, 9), loanAt(0, 6, false, 6, 7)}, 6, [2]int{1, 2}},
		{[]impl.Loan{loanAt(5, 1, false, 0, 60), loanAt(0, 6, true, 2, 2), loanAt(0, 0, true, 0, 60), loanAt(5, 1, false, 1, 60), loanAt(4, 2, true, 12, 13)}, 12, [2]int{0, 4}},
	} {
		if time, pair, ok := impl.FirstClash(m, c.list); !ok || time != c.time || pair != c.pair {
			t.Errorf("FirstClash of %v = %v, %v, %v, not %v, %v", c.list, time, pair, ok, c.time, c.pair)
		}
	}
	checkNoClash(t, m, nil)
	checkNoClash(t, m, []impl.Loan{loanAt(0, 6, true, 0, 60)})
	checkNoClash(t, m, []impl.Loan{loanAt(0, 6, true, 0, 30), loanAt(0, 6, true, 30, 60), loanAt(0, 6, true, 30, 30)})
	checkNoClash(t, m, []impl.Loan{loanAt(0, 6, false, 0, 30), loanAt(0, 6, false, 0, 60)})
}

// TestHeldAndLenders has all times, and some that are none.
func TestHeldAndLenders(t *testing.T) {
	none := []int{-1, 61, math.MinInt, math.MaxInt, 1 << 32}
	checkLoans(t, func(t *testing.T, m impl.Memory, list []impl.Loan) {
		for time := 0; time <= impl.MaxHours; time++ {
			want := []int{}
			for i, a := range list {
				if belongs(a, time) {
					want = append(want, i)
				}
			}
			if held, ok := impl.HeldAt(m, list, time); !ok || !slices.Equal(held, want) {
				t.Fatalf("HeldAt of %v at %d = %v, %v, not %v", list, time, held, ok, want)
			}
			// All places of an array are many: the times take turns.
			if (time+len(list))%7 == 0 || time == 0 || time > 58 {
				checkLenders(t, m, list, time)
			}
		}
		for _, time := range none {
			checkNotHeld(t, m, list, time)
		}
	})
}

// lendersOf returns what the document tells of LendersOf, loan by loan.
func lendersOf(m impl.Memory, list []impl.Loan, time int) [][]int {
	lenders := [][]int{}
	for array, bytesOf := range m.Arrays {
		lenders = append(lenders, make([]int, len(bytesOf)))
		for place := range bytesOf {
			own := false
			for _, a := range list {
				if lent(a, array, place, time) {
					lenders[array][place]++
					own = own || a.Own
				}
			}
			if own {
				lenders[array][place] *= -1
			}
		}
	}
	return lenders
}

func checkLenders(t *testing.T, m impl.Memory, list []impl.Loan, time int) {
	t.Helper()
	want := lendersOf(m, list, time)
	if lenders, ok := impl.LendersOf(m, list, time); !ok || !slices.EqualFunc(lenders, want, slices.Equal) {
		t.Fatalf("LendersOf of %v at %d = %v, %v, not %v", list, time, lenders, ok, want)
	}
}

func TestLendersByHand(t *testing.T) {
	m := memoryOf(6, 2)
	list := []impl.Loan{loanAt(0, 4, true, 0, 5), loanAt(2, 3, false, 3, 8), loanAt(4, 2, false, 4, 60), loanAt(3, 0, true, 0, 60), loanAt(0, 6, true, 4, 4)}
	for _, c := range []struct {
		time  int
		held  []int
		first []int
	}{
		{0, []int{0, 3}, []int{-1, -1, -1, -1, 0, 0}},
		{3, []int{0, 1, 3}, []int{-1, -1, -2, -2, 1, 0}},
		{4, []int{0, 1, 2, 3}, []int{-1, -1, -2, -2, 2, 1}},
		{5, []int{1, 2, 3}, []int{0, 0, 1, 1, 2, 1}},
		{8, []int{2, 3}, []int{0, 0, 0, 0, 1, 1}},
		{59, []int{2, 3}, []int{0, 0, 0, 0, 1, 1}},
		{60, nil, []int{0, 0, 0, 0, 0, 0}},
	} {
		held, fine := impl.HeldAt(m, list, c.time)
		lenders, ok := impl.LendersOf(m, list, c.time)
		if !fine || !ok || !slices.Equal(held, c.held) || len(lenders) != 2 || !slices.Equal(lenders[0], c.first) || !slices.Equal(lenders[1], []int{0, 0}) {
			t.Errorf("at %d: held are %v, %v, lenders are %v, %v", c.time, held, fine, lenders, ok)
		}
	}
	// The exclusive one may be the last of some, or the only one.
	some := []impl.Loan{loanAt(0, 1, false, 0, 60), loanAt(0, 2, false, 0, 60), loanAt(0, 3, true, 0, 60), loanAt(0, 1, false, 0, 60)}
	if lenders, ok := impl.LendersOf(m, some, 30); !ok || !slices.Equal(lenders[0], []int{-4, -2, -1, 0, 0, 0}) {
		t.Error("four Loans", lenders, ok)
	}
	if lenders, ok := impl.LendersOf(impl.Memory{}, nil, 60); !ok || len(lenders) != 0 {
		t.Error("no arrays", lenders, ok)
	}
	if lenders, ok := impl.LendersOf(m, nil, 0); !ok || !slices.EqualFunc(lenders, [][]int{make([]int, 6), make([]int, 2)}, slices.Equal) {
		t.Error("no Loans", lenders, ok)
	}
}

// TestOneLenderOrSharedOnes goes to each place at each time: Loans are clean exactly if each one has either one
// exclusive lender or shared ones alone, and then who may write there is the only one who may read.
func TestOneLenderOrSharedOnes(t *testing.T) {
	clean, other := 0, 0
	checkLoans(t, func(t *testing.T, m impl.Memory, list []impl.Loan) {
		k, ok := impl.RunClean(m, list)
		if !ok {
			t.Fatalf("RunClean of %v fails", list)
		}
		alone := true
		for time := 0; time <= impl.MaxHours; time++ {
			lenders, ok := impl.LendersOf(m, list, time)
			if !ok {
				t.Fatalf("LendersOf of %v at %d fails", list, time)
			}
			for _, array := range lenders {
				alone = alone && (len(array) == 0 || slices.Min(array) >= -1)
			}
		}
		if alone != (k == len(list)) {
			t.Fatalf("RunClean of %v is %d, but one lender alone: %v", list, k, alone)
		}
		if !alone {
			other++
			return
		}
		clean++
		checkRightAlone(t, m, list)
	})
	if clean < 500 || other < 500 {
		t.Errorf("%d lists are clean, %d are not", clean, other)
	}
}

// checkRightAlone checks at places of clean Loans that a writer is the only reader.
func checkRightAlone(t *testing.T, m impl.Memory, list []impl.Loan) {
	t.Helper()
	for _, a := range list {
		for place := a.View.Start; place < min(a.View.Start+a.View.Len, a.View.Start+5); place++ {
			for time := a.From; time < a.To; time += 1 + (a.To-a.From)/5 {
				writers, readers := 0, 0
				for _, b := range list {
					if b.View.Array != a.View.Array {
						continue
					}
					if may, _ := impl.MayWrite(m, b, place, time); may {
						writers++
					}
					if may, _ := impl.MayRead(m, b, place, time); may {
						readers++
					}
				}
				if readers < 1 || writers > 0 && readers > 1 {
					t.Fatalf("%v at %d, %d: %d writers, %d readers", list, place, time, writers, readers)
				}
			}
		}
	}
}

func TestCanLend(t *testing.T) {
	pick, views := pickBy(11), allWindows(memoryOf(6, 3))
	yes, no := 0, 0
	checkLoans(t, func(t *testing.T, m impl.Memory, list []impl.Loan) {
		fine := len(clashesOf(m, list)) == 0 && len(list) < 8
		for i := range 4 {
			a := pickedLoan(pick, views, i%2 == 0)
			want := fine && len(clashesOf(m, append(slices.Clone(list), a))) == 0
			if can, ok := impl.CanLend(m, list, a); can != want || ok != fine {
				t.Fatalf("CanLend of %v with %v = %v, %v, not %v, %v", list, a, can, ok, want, fine)
			}
			if want {
				yes++
			} else if fine {
				no++
			}
		}
	})
	if yes < 500 || no < 500 {
		t.Errorf("%d Loans can be lent, %d cannot", yes, no)
	}
}

func TestCanLendByHand(t *testing.T) {
	m := memoryOf(6, 6)
	a, b := loanAt(0, 4, true, 0, 5), loanAt(2, 3, false, 3, 8)
	empty, shared := loanAt(0, 6, true, 3, 3), loanAt(0, 6, false, 0, 60)
	for _, c := range []struct {
		name     string
		list     []impl.Loan
		a        impl.Loan
		can, was bool
	}{
		{"to none", nil, a, true, true},
		{"in conflict", []impl.Loan{a}, b, false, true},
		{"in conflict with the last one", []impl.Loan{empty, loanAt(5, 1, true, 0, 60), a}, b, false, true},
		{"in conflict with the first one", []impl.Loan{a, empty, loanAt(5, 1, true, 0, 60)}, b, false, true},
		{"behind it", []impl.Loan{a}, loanAt(0, 6, true, 5, 60), true, true},
		{"the same one", []impl.Loan{a}, a, false, true},
		{"shared ones", []impl.Loan{shared, b}, shared, true, true},
		{"not clean before", []impl.Loan{a, b}, loanAt(5, 1, true, 0, 60), false, false},
		{"not clean before, and empty", []impl.Loan{a, b}, empty, false, false},
		{"not clean before, and in conflict", []impl.Loan{a, b}, a, false, false},
		{"one fewer than there can be", slices.Repeat([]impl.Loan{shared}, impl.MaxLoans-1), shared, true, true},
		{"one fewer, and in conflict", slices.Repeat([]impl.Loan{shared}, impl.MaxLoans-1), a, false, true},
		{"as many as there can be", slices.Repeat([]impl.Loan{shared}, impl.MaxLoans), shared, false, false},
		{"as many, and empty", slices.Repeat([]impl.Loan{empty}, impl.MaxLoans), empty, false, false},
		{"an empty one", []impl.Loan{a, loanAt(0, 6, true, 5, 60)}, empty, true, true},
		{"one without bytes", []impl.Loan{a}, loanAt(2, 0, true, 0, 60), true, true},
	} {
		if can, ok := impl.CanLend(m, c.list, c.a); can != c.can || ok != c.was {
			t.Errorf("%s: %v, %v", c.name, can, ok)
		}
	}
}

// delayOf tries one number after the other.
func delayOf(m impl.Memory, list []impl.Loan, a impl.Loan) (int, bool) {
	for delay := 0; a.To+delay <= 60; delay++ {
		late, free := impl.Loan{View: a.View, Own: a.Own, From: a.From + delay, To: a.To + delay}, true
		for _, b := range list {
			free = free && clashTime(m, late, b) < 0
		}
		if free {
			return delay, true
		}
	}
	return 0, false
}

func TestDelayOf(t *testing.T) {
	pick, views := pickBy(12), allWindows(memoryOf(6, 3))
	late, none := 0, 0
	checkLoans(t, func(t *testing.T, m impl.Memory, list []impl.Loan) {
		for i := range 3 {
			a := pickedLoan(pick, views, i%2 == 0)
			want, fine := delayOf(m, list, a)
			if delay, ok := impl.DelayOf(m, list, a); delay != want || ok != fine {
				t.Fatalf("DelayOf of %v beside %v = %v, %v, not %v, %v", a, list, delay, ok, want, fine)
			}
			if want > 0 {
				late++
			} else if !fine {
				none++
			}
		}
	})
	if late < 200 || none < 200 {
		t.Errorf("%d Loans are late, %d do not fit", late, none)
	}
}

func TestDelayOfByHand(t *testing.T) {
	m := memoryOf(6, 6)
	for _, c := range []struct {
		name  string
		list  []impl.Loan
		a     impl.Loan
		delay int
		fine  bool
	}{
		{"beside none", nil, loanAt(0, 6, true, 0, 60), 0, true},
		{"behind one", []impl.Loan{loanAt(0, 4, true, 0, 5)}, loanAt(2, 3, false, 3, 8), 2, true},
		{"at once, as the one ends", []impl.Loan{loanAt(0, 4, true, 0, 5)}, loanAt(0, 4, true, 5, 8), 0, true},
		{"ahead of one", []impl.Loan{loanAt(0, 4, true, 8, 20)}, loanAt(0, 4, true, 3, 8), 0, true},
		{"into a gap of just that many hours", []impl.Loan{loanAt(0, 4, true, 13, 60), loanAt(0, 4, true, 2, 10)}, loanAt(0, 4, true, 1, 4), 9, true},
		{"beyond a gap of too few hours", []impl.Loan{loanAt(0, 4, true, 12, 30), loanAt(0, 4, true, 2, 10)}, loanAt(0, 4, true, 1, 4), 29, true},
		{"by gaps, from one to another", []impl.Loan{loanAt(0, 2, true, 20, 30), loanAt(1, 2, true, 0, 10), loanAt(2, 2, false, 10, 20)}, loanAt(0, 4, true, 5, 10), 25, true},
		{"up to the last time", []impl.Loan{loanAt(0, 1, true, 0, 50)}, loanAt(0, 6, false, 0, 10), 50, true},
		{"one time too few", []impl.Loan{loanAt(0, 1, true, 0, 51)}, loanAt(0, 6, false, 0, 10), 0, false},
		{"never", []impl.Loan{loanAt(0, 1, true, 0, 60)}, loanAt(0, 6, false, 0, 1), 0, false},
		{"at the last time already", []impl.Loan{loanAt(0, 1, true, 59, 60)}, loanAt(0, 1, true, 59, 60), 0, false},
		{"from the first time to the last one", []impl.Loan{loanAt(0, 1, true, 0, 59)}, loanAt(0, 1, true, 0, 1), 59, true},
		{"shared ones", slices.Repeat([]impl.Loan{loanAt(0, 6, false, 0, 60)}, impl.MaxLoans), loanAt(0, 6, false, 0, 60), 0, true},
		{"empty times", []impl.Loan{loanAt(0, 6, true, 0, 60)}, loanAt(0, 6, true, 30, 30), 0, true},
		{"empty times at the end", []impl.Loan{loanAt(0, 6, true, 0, 60)}, loanAt(0, 6, true, 60, 60), 0, true},
		{"no bytes", []impl.Loan{loanAt(0, 6, true, 0, 60)}, loanAt(3, 0, true, 0, 60), 0, true},
		{"beside empty ones", []impl.Loan{loanAt(3, 0, true, 0, 60), loanAt(0, 6, true, 30, 30)}, loanAt(0, 6, true, 0, 60), 0, true},
		{"beside Loans that are not clean", []impl.Loan{loanAt(0, 2, true, 0, 5), loanAt(1, 2, true, 3, 8)}, loanAt(1, 1, false, 0, 1), 8, true},
		{"beside as many as there can be", slices.Repeat([]impl.Loan{loanAt(0, 2, true, 0, 5)}, impl.MaxLoans), loanAt(1, 1, false, 0, 1), 5, true},
	} {
		if delay, ok := impl.DelayOf(m, c.list, c.a); delay != c.delay || ok != c.fine {
			t.Errorf("%s: %v, %v", c.name, delay, ok)
		}
	}
}

// mostCleanOf goes through all sets of numbers, each of which is one of the bits of a number.
func mostCleanOf(m impl.Memory, list []impl.Loan) []int {
	best := []int{}
	for set := range 1 << len(list) {
		numbers, some := []int{}, []impl.Loan{}
		for i, a := range list {
			if set>>i&1 == 1 {
				numbers, some = append(numbers, i), append(some, a)
			}
		}
		longer := len(numbers) > len(best) || len(numbers) == len(best) && slices.Compare(numbers, best) < 0
		if longer && len(clashesOf(m, some)) == 0 {
			best = numbers
		}
	}
	return best
}

func TestMostClean(t *testing.T) {
	m := loansMemory()
	for i, list := range loanLists() {
		// Long lists have many sets: they take turns.
		if len(list) > 6 && i%5 != 0 {
			continue
		}
		want := mostCleanOf(m, list)
		if most, ok := impl.MostClean(m, list); !ok || !slices.Equal(most, want) {
			t.Fatalf("MostClean of %v = %v, %v, not %v", list, most, ok, want)
		}
	}
}

func TestMostCleanByHand(t *testing.T) {
	m := memoryOf(6, 6)
	all := loanAt(0, 6, true, 0, 60)
	for _, c := range []struct {
		list []impl.Loan
		want []int
	}{
		{nil, nil}, {[]impl.Loan{all}, []int{0}}, {[]impl.Loan{all, all}, []int{0}}, {slices.Repeat([]impl.Loan{all}, impl.MaxLoans), []int{0}},
		{slices.Repeat([]impl.Loan{loanAt(0, 6, false, 0, 60)}, impl.MaxLoans), []int{0, 1, 2, 3, 4, 5, 6, 7}},
		{slices.Repeat([]impl.Loan{loanAt(0, 6, true, 9, 9)}, impl.MaxLoans), []int{0, 1, 2, 3, 4, 5, 6, 7}},
		{[]impl.Loan{loanAt(0, 4, true, 0, 5), loanAt(2, 3, false, 3, 8)}, []int{0}},
		// The first one is left out for more of the others, but taken where there are as many with it.
		{[]impl.Loan{all, loanAt(0, 1, true, 0, 1), loanAt(1, 1, true, 0, 1)}, []int{1, 2}},
		{[]impl.Loan{all, loanAt(0, 0, true, 0, 60), loanAt(0, 1, true, 0, 1), loanAt(0, 1, false, 0, 1)}, []int{0, 1}},
		{[]impl.Loan{loanAt(0, 2, true, 0, 5), loanAt(0, 2, true, 5, 9), loanAt(0, 2, true, 4, 6), loanAt(0, 2, true, 9, 10)}, []int{0, 1, 3}},
		{[]impl.Loan{loanAt(0, 2, true, 0, 5), loanAt(1, 2, true, 0, 5), loanAt(2, 2, true, 0, 5), loanAt(3, 2, true, 0, 5), loanAt(4, 2, true, 0, 5)}, []int{0, 2, 4}},
		{[]impl.Loan{loanAt(0, 2, true, 0, 5), loanAt(1, 2, true, 0, 5), loanAt(2, 2, true, 0, 5), loanAt(3, 2, true, 0, 5)}, []int{0, 2}},
		{append(slices.Repeat([]impl.Loan{loanAt(0, 6, false, 0, 60)}, 4), slices.Repeat([]impl.Loan{loanAt(0, 1, true, 3, 4)}, 4)...), []int{0, 1, 2, 3}},
		{append(slices.Repeat([]impl.Loan{all}, 7), loanAt(0, 6, true, 60, 60)), []int{0, 7}},
	} {
		if most, ok := impl.MostClean(m, c.list); !ok || !slices.Equal(most, c.want) {
			t.Errorf("MostClean of %v = %v, %v, not %v", c.list, most, ok, c.want)
		}
	}
}

// TestRights has all places of the array of a View, and those beside it, at all times.
func TestRights(t *testing.T) {
	for _, m := range []impl.Memory{memoryOf(4, 2), fullMemory()} {
		for _, w := range allWindows(m) {
			for i, span := range spans() {
				for _, own := range []bool{false, true} {
					// Many arrays are alike: the times take turns.
					if (w.Array+i)%max(1, len(m.Arrays)/2) == 0 {
						checkRights(t, m, impl.Loan{View: w, Own: own, From: span[0], To: span[1]})
					}
				}
			}
		}
	}
}

func checkRights(t *testing.T, m impl.Memory, a impl.Loan) {
	t.Helper()
	size := len(m.Arrays[a.View.Array])
	for _, time := range []int{-1, 0, 1, 5, 9, 10, 11, 15, 29, 30, 31, 58, 59, 60, 61} {
		for place := -1; place <= size; place++ {
			if place < 0 || place == size || time < 0 || time > 60 {
				checkNoRight(t, m, a, place, time)
				continue
			}
			want := lent(a, a.View.Array, place, time)
			write, fine := impl.MayWrite(m, a, place, time)
			read, ok := impl.MayRead(m, a, place, time)
			if !fine || !ok || write != (want && a.Own) || read != want {
				t.Fatalf("by %v at %d, %d: MayWrite = %v, %v; MayRead = %v, %v", a, place, time, write, fine, read, ok)
			}
		}
	}
	for _, n := range []int{math.MinInt, math.MaxInt, 1 << 32, -1 << 32} {
		checkNoRight(t, m, a, n, a.From)
		checkNoRight(t, m, a, 0, n)
		checkNoRight(t, m, a, n, n)
	}
}

func TestRightsByHand(t *testing.T) {
	m := memoryOf(6, 3)
	own, shared := loanAt(2, 2, true, 3, 8), loanAt(2, 2, false, 3, 8)
	// The room, with the places 4 and 5, is not lent.
	own.View.Cap, shared.View.Cap = 4, 4
	for _, c := range []struct {
		place, time int
		want        bool
	}{
		{2, 3, true}, {3, 7, true}, {2, 7, true}, {3, 3, true}, {2, 2, false}, {2, 8, false}, {3, 60, false}, {3, 0, false}, {1, 5, false}, {4, 5, false}, {5, 5, false}, {0, 5, false},
	} {
		write, one := impl.MayWrite(m, own, c.place, c.time)
		read, two := impl.MayRead(m, own, c.place, c.time)
		none, three := impl.MayWrite(m, shared, c.place, c.time)
		other, four := impl.MayRead(m, shared, c.place, c.time)
		if !one || !two || !three || !four || write != c.want || read != c.want || none || other != c.want {
			t.Errorf("at %d, %d: %v, %v; %v, %v", c.place, c.time, write, read, none, other)
		}
	}
	for _, at := range [][2]int{{6, 5}, {-1, 5}, {2, -1}, {2, 61}, {6, 61}} {
		checkNoRight(t, m, own, at[0], at[1])
		checkNoRight(t, m, shared, at[0], at[1])
	}
	// The places are those of the array of the View, as many as there are.
	own.View = impl.Window{Array: 1, Len: 3, Cap: 3}
	checkNoRight(t, m, own, 3, 5)
	if may, ok := impl.MayWrite(m, own, 2, 5); !may || !ok {
		t.Error("the last place", may, ok)
	}
}

func TestSplitLoan(t *testing.T) {
	for _, m := range []impl.Memory{memoryOf(5, 2), fullMemory()} {
		for i, w := range allWindows(m) {
			span := spans()[i%len(spans())]
			for _, own := range []bool{false, true} {
				checkSplit(t, m, impl.Loan{View: w, Own: own, From: span[0], To: span[1]})
			}
		}
	}
	m := memoryOf(64, 64)
	for _, pair := range somePairs() {
		checkSplit(t, m, impl.Loan{View: pair[0], Own: true, To: 60})
	}
}

func checkSplit(t *testing.T, m impl.Memory, a impl.Loan) {
	t.Helper()
	for k := 0; k <= a.View.Len; k++ {
		w := a.View
		one, two := a, a
		one.View = impl.Window{Array: w.Array, Start: w.Start, Len: k, Cap: k}
		two.View = impl.Window{Array: w.Array, Start: w.Start + k, Len: w.Len - k, Cap: w.Cap - k}
		first, second, ok := impl.SplitLoan(m, a, k)
		if !ok || first != one || second != two {
			t.Fatalf("SplitLoan of %v at %d = %v, %v, %v", a, k, first, second, ok)
		}
		// Both lend what the one did, and are clean.
		if run, ok := impl.RunClean(m, []impl.Loan{first, second}); !ok || run != 2 {
			t.Fatalf("SplitLoan of %v at %d: %v and %v are not clean, %d, %v", a, k, first, second, run, ok)
		}
		lenders, ok := impl.LendersOf(m, []impl.Loan{second, first}, a.From)
		if !ok || !slices.EqualFunc(lenders, lendersOf(m, []impl.Loan{a}, a.From), slices.Equal) {
			t.Fatalf("SplitLoan of %v at %d: the lenders are %v, %v", a, k, lenders, ok)
		}
	}
	// More bytes than it sees are none of the Loan, even if there is room.
	for _, k := range []int{-1, a.View.Len + 1, a.View.Cap + 1, 65, math.MinInt, math.MaxInt, 1 << 32} {
		checkNotSplit(t, m, a, k)
	}
}

func TestSplitLoanByHand(t *testing.T) {
	m := memoryOf(6)
	a := impl.Loan{View: impl.Window{Start: 1, Len: 3, Cap: 5}, Own: true, From: 2, To: 7}
	for k, want := range [][2]impl.Window{
		{{Start: 1}, {Start: 1, Len: 3, Cap: 5}}, {{Start: 1, Len: 1, Cap: 1}, {Start: 2, Len: 2, Cap: 4}}, {{Start: 1, Len: 2, Cap: 2}, {Start: 3, Len: 1, Cap: 3}},
		{{Start: 1, Len: 3, Cap: 3}, {Start: 4, Cap: 2}},
	} {
		first, second, ok := impl.SplitLoan(m, a, k)
		if !ok || first != (impl.Loan{View: want[0], Own: true, From: 2, To: 7}) || second != (impl.Loan{View: want[1], Own: true, From: 2, To: 7}) {
			t.Errorf("at %d: %v, %v, %v", k, first, second, ok)
		}
	}
	checkNotSplit(t, m, a, 4)
	checkNotSplit(t, m, a, 5)
	checkNotSplit(t, m, a, -1)
}

func TestShareLoan(t *testing.T) {
	m := memoryOf(5, 2)
	views := allWindows(m)
	for i, span := range append(spans(), [2]int{3, 7}, [2]int{54, 60}) {
		w := views[7*i%len(views)]
		for from := -1; from <= impl.MaxHours+1; from++ {
			for to := -1; to <= impl.MaxHours+1; to++ {
				checkShare(t, m, impl.Loan{View: w, Own: true, From: span[0], To: span[1]}, from, to)
				checkNotShared(t, m, impl.Loan{View: w, From: span[0], To: span[1]}, from, to)
			}
		}
		for _, far := range []int{math.MinInt, math.MaxInt, 1 << 32} {
			checkNotShared(t, m, impl.Loan{View: w, Own: true, From: span[0], To: span[1]}, far, span[1])
			checkNotShared(t, m, impl.Loan{View: w, Own: true, From: span[0], To: span[1]}, span[0], far)
		}
	}
}

func checkShare(t *testing.T, m impl.Memory, a impl.Loan, from, to int) {
	t.Helper()
	if from < a.From || from > to || to > a.To {
		checkNotShared(t, m, a, from, to)
		return
	}
	first, shared, last, ok := impl.ShareLoan(m, a, from, to)
	want := []impl.Loan{{View: a.View, Own: true, From: a.From, To: from}, {View: a.View, From: from, To: to}, {View: a.View, Own: true, From: to, To: a.To}}
	if got := []impl.Loan{first, shared, last}; !ok || !slices.Equal(got, want) {
		t.Fatalf("ShareLoan of %v from %d to %d = %v, %v", a, from, to, got, ok)
	}
	// They are clean, and each time of the one belongs to one of them.
	if run, ok := impl.RunClean(m, want); !ok || run != 3 {
		t.Fatalf("ShareLoan of %v from %d to %d: %v are not clean, %d, %v", a, from, to, want, run, ok)
	}
	for _, time := range []int{a.From - 1, a.From, from - 1, from, to - 1, to, a.To - 1, a.To} {
		if time < 0 {
			continue
		}
		held, ok := impl.HeldAt(m, []impl.Loan{first, shared, last}, time)
		if !ok || len(held) > 1 || len(held) == 1 != belongs(a, time) || len(held) == 1 && (held[0] == 1) != (time >= from && time < to) {
			t.Fatalf("ShareLoan of %v from %d to %d: at %d, %v are held, %v", a, from, to, time, held, ok)
		}
	}
}

func TestShareLoanByHand(t *testing.T) {
	m := memoryOf(6)
	a := impl.Loan{View: impl.Window{Start: 1, Len: 3, Cap: 5}, Own: true, From: 2, To: 7}
	for _, c := range [][2]int{{2, 7}, {2, 2}, {7, 7}, {3, 5}, {4, 4}, {2, 3}, {6, 7}} {
		first, shared, last, ok := impl.ShareLoan(m, a, c[0], c[1])
		if !ok || first != (impl.Loan{View: a.View, Own: true, From: 2, To: c[0]}) || shared != (impl.Loan{View: a.View, From: c[0], To: c[1]}) || last != (impl.Loan{View: a.View, Own: true, From: c[1], To: 7}) {
			t.Errorf("from %d to %d: %v, %v, %v, %v", c[0], c[1], first, shared, last, ok)
		}
	}
	for _, c := range [][2]int{{1, 5}, {1, 1}, {3, 8}, {8, 8}, {5, 3}, {7, 2}, {7, 6}, {0, 60}, {-1, 3}, {3, -1}} {
		checkNotShared(t, m, a, c[0], c[1])
	}
	a.Own = false
	checkNotShared(t, m, a, 3, 5)
	checkNotShared(t, m, a, 2, 7)
}

// TestSharedMeanwhile lends to others what a Loan shares for some time, and to none before this and behind it.
func TestSharedMeanwhile(t *testing.T) {
	m := memoryOf(6)
	first, shared, last, ok := impl.ShareLoan(m, loanAt(0, 6, true, 10, 50), 20, 30)
	list := []impl.Loan{first, shared, last}
	if !ok {
		t.Fatal("ShareLoan", list)
	}
	for from := 0; from <= impl.MaxHours; from++ {
		for to := from + 1; to <= impl.MaxHours; to++ {
			outside := to <= 10 || from >= 50
			for _, own := range []bool{false, true} {
				want := outside || !own && from >= 20 && to <= 30
				if can, ok := impl.CanLend(m, list, loanAt(2, 2, own, from, to)); can != want || !ok {
					t.Errorf("from %d to %d, exclusive %v: %v, %v", from, to, own, can, ok)
				}
			}
		}
	}
}

func TestRunClean(t *testing.T) {
	runs := map[int]int{}
	checkLoans(t, func(t *testing.T, m impl.Memory, list []impl.Loan) {
		want := 0
		for want < len(list) && len(clashesOf(m, list[:want+1])) == 0 {
			want++
		}
		if k, ok := impl.RunClean(m, list); !ok || k != want {
			t.Fatalf("RunClean of %v = %d, %v, not %d", list, k, ok, want)
		}
		runs[want]++
	})
	for k := range impl.MaxLoans + 1 {
		if runs[k] == 0 {
			t.Errorf("no list has a run of %d", k)
		}
	}
}

func TestRunCleanByHand(t *testing.T) {
	m := memoryOf(6)
	all, empty := loanAt(0, 6, true, 0, 60), loanAt(0, 6, true, 5, 5)
	for _, c := range []struct {
		list []impl.Loan
		want int
	}{
		{nil, 0}, {[]impl.Loan{all}, 1}, {[]impl.Loan{all, all}, 1}, {[]impl.Loan{all, empty}, 2}, {[]impl.Loan{empty, all, all}, 2}, {[]impl.Loan{all, empty, all, empty}, 2},
		{[]impl.Loan{loanAt(0, 1, true, 0, 1), loanAt(1, 1, true, 0, 1), loanAt(2, 1, true, 0, 1), loanAt(0, 3, false, 0, 1), loanAt(3, 1, true, 0, 1)}, 3},
		// The last pair is in conflict, or the first one with the last one.
		{[]impl.Loan{loanAt(0, 1, true, 0, 1), loanAt(1, 1, true, 0, 1), loanAt(1, 1, false, 0, 1)}, 2},
		{[]impl.Loan{loanAt(0, 1, true, 0, 1), loanAt(1, 1, true, 0, 1), loanAt(0, 1, false, 0, 1)}, 2},
		{slices.Repeat([]impl.Loan{empty}, 8), 8}, {append(slices.Repeat([]impl.Loan{empty}, 7), all), 8}, {append(slices.Repeat([]impl.Loan{loanAt(0, 6, false, 0, 60)}, 7), all), 7},
	} {
		if k, ok := impl.RunClean(m, c.list); !ok || k != c.want {
			t.Errorf("RunClean of %v = %d, %v, not %d", c.list, k, ok, c.want)
		}
	}
}

// TestLentOneByOne lends what can be lent, delays what cannot, and lets each Loan write to what its View sees once it
// is held: where all of them are exclusive, each one reads at its end what it wrote, as nobody else may write there.
func TestLentOneByOne(t *testing.T) {
	pick, views, m := pickBy(13), allWindows(memoryOf(6, 3)), memoryOf(6, 3)
	delayed := 0
	for range 300 {
		list := []impl.Loan{}
		for range 20 {
			a := impl.Loan{View: views[pick(len(views))], Own: true, From: pick(40)}
			a.To = a.From + pick(12)
			can, ok := impl.CanLend(m, list, a)
			if !ok {
				break
			}
			delay, fits := impl.DelayOf(m, list, a)
			if can && delay != 0 || can && !fits || !can && fits && delay == 0 {
				t.Fatalf("%v beside %v: CanLend is %v, but DelayOf %d, %v", a, list, can, delay, fits)
			}
			if fits {
				a.From, a.To = a.From+delay, a.To+delay
				list = append(list, a)
			}
			if delay > 0 {
				delayed++
			}
		}
		if pairs, ok := impl.ConflictsOf(m, list); !ok || len(pairs) != 0 {
			t.Fatalf("%v are in conflict: %v, %v", list, pairs, ok)
		}
		checkNoClash(t, m, list)
		checkRightAlone(t, m, list)
		if most, ok := impl.MostClean(m, list); !ok || len(most) != len(list) {
			t.Fatalf("%v are not clean together, but %v, %v", list, most, ok)
		}
		checkWrittenIsKept(t, m, list)
	}
	if delayed < 300 {
		t.Errorf("only %d Loans are delayed", delayed)
	}
}

// checkWrittenIsKept goes from time to time: as a Loan begins, its number is written wherever this is right, and at
// its last time its View sees nothing else.
func checkWrittenIsKept(t *testing.T, m impl.Memory, list []impl.Loan) {
	t.Helper()
	for time := range impl.MaxHours {
		for i, a := range list {
			for place := range m.Arrays[a.View.Array] {
				if may, _ := impl.MayWrite(m, a, place, time); !may {
					continue
				}
				number := byte(100 + i)
				if time == a.From {
					next, ok := impl.WriteAt(m, a.View, place-a.View.Start, number)
					if !ok {
						t.Fatalf("%v may write at %d, but cannot", a, place)
					}
					m = next
				}
				if read := m.Arrays[a.View.Array][place]; time == a.To-1 && read != number {
					t.Fatalf("%v: %v reads %d at %d, %d", list, a, read, place, time)
				}
			}
		}
	}
}

// loanArguments are what the functions of chapter 10 have as arguments.
type loanArguments struct {
	m    impl.Memory
	list []impl.Loan
	a, b impl.Loan
	n    [2]int
}

// loanCall calls one function of chapter 10 with those of the arguments that it has. It fails unless the Memory is
// valid, and the list and the first Loans, as many as it needs, are, too.
type loanCall struct {
	name  string
	list  bool
	loans int
	call  func(x loanArguments) []any
}

// loanCalls has all functions of chapter 10.
func loanCalls() []loanCall {
	type arguments = loanArguments
	return []loanCall{
		{"AreLoans", false, 0, func(x arguments) []any { return resultsOf(impl.AreLoans(x.m, x.list)) }},
		{"InConflict", false, 2, func(x arguments) []any { return resultsOf(impl.InConflict(x.m, x.a, x.b)) }},
		{"ConflictsOf", true, 0, func(x arguments) []any { return resultsOf(impl.ConflictsOf(x.m, x.list)) }},
		{"FirstClash", true, 0, func(x arguments) []any { return resultsOf(impl.FirstClash(x.m, x.list)) }},
		{"HeldAt", true, 0, func(x arguments) []any { return resultsOf(impl.HeldAt(x.m, x.list, x.n[0])) }},
		{"LendersOf", true, 0, func(x arguments) []any { return resultsOf(impl.LendersOf(x.m, x.list, x.n[0])) }},
		{"CanLend", true, 1, func(x arguments) []any { return resultsOf(impl.CanLend(x.m, x.list, x.a)) }},
		{"DelayOf", true, 1, func(x arguments) []any { return resultsOf(impl.DelayOf(x.m, x.list, x.a)) }},
		{"MostClean", true, 0, func(x arguments) []any { return resultsOf(impl.MostClean(x.m, x.list)) }},
		{"MayWrite", false, 1, func(x arguments) []any { return resultsOf(impl.MayWrite(x.m, x.a, x.n[0], x.n[1])) }},
		{"MayRead", false, 1, func(x arguments) []any { return resultsOf(impl.MayRead(x.m, x.a, x.n[0], x.n[1])) }},
		{"SplitLoan", false, 1, func(x arguments) []any { return resultsOf(impl.SplitLoan(x.m, x.a, x.n[0])) }},
		{"ShareLoan", false, 1, func(x arguments) []any { return resultsOf(impl.ShareLoan(x.m, x.a, x.n[0], x.n[1])) }},
		{"RunClean", true, 0, func(x arguments) []any { return resultsOf(impl.RunClean(x.m, x.list)) }},
	}
}

// TestChapter10ReturnsForAll calls each function with arguments of all kinds, valid ones and others.
func TestChapter10ReturnsForAll(t *testing.T) {
	memories := append(badMemories(), impl.Memory{}, memoryOf(4, 2), memoryOf(64, 64), fullMemory(), overlaid(), loansMemory())
	lists := append(badLists(), loanLists()[:100]...)
	lists = append(lists, make([]impl.Loan, 10000), make([]impl.Loan, 3, 9), make([]impl.Loan, 8, 8))
	loans := append(badLoans(), impl.Loan{}, loanAt(0, 2, true, 0, 60), loanAt(0, 2, false, 5, 9), loanAt(1, 1, true, 3, 30), loanAt(2, 0, true, 3, 30), loanAt(0, 3, true, 7, 7))
	numbers := [][2]int{{0, 0}, {0, 60}, {1, 5}, {5, 9}, {2, 61}, {-1, 3}, {3, -1}, {60, 60}, {3, 4}, {1, 1}, {64, 64}, {math.MaxInt, math.MinInt}, {math.MinInt, math.MaxInt},
		{0, math.MaxInt}, {1, math.MinInt}}
	for i, m := range memories {
		for j, list := range lists {
			for k, a := range loans {
				// All combinations are many: they take turns, valid Loans more often.
				if (i+j+k)%37 == 0 || k >= len(loans)-6 && (i+j+k)%4 == 0 {
					checkLoanCalls(t, loanArguments{m, withSpareLoans(list), a, loans[(5*i+3*j+k)%len(loans)], numbers[(i+j+k)%len(numbers)]})
				}
			}
		}
	}
}

// withSpareLoans returns the same Loans with others behind them, which are no part of the list.
func withSpareLoans(list []impl.Loan) []impl.Loan {
	return slices.Concat(list, slices.Repeat([]impl.Loan{{Own: true, To: 60}}, 3))[:len(list)]
}

// checkLoanCalls calls all functions with the same arguments.
func checkLoanCalls(t *testing.T, x loanArguments) {
	t.Helper()
	list := x.list[:cap(x.list)]
	m, listWas := cloned(x.m), slices.Clone(list)
	kept := func() bool { return equalMemories(x.m, m) && slices.Equal(list, listWas) }
	areLoans := func(list ...impl.Loan) bool {
		are, _ := impl.AreLoans(x.m, list)
		return are
	}
	for _, c := range loanCalls() {
		ok := checkResults(t, c.name, func() []any { return c.call(x) }, kept)
		if ok && (!impl.IsMemory(m) || c.list && !areLoans(x.list...) || !areLoans([]impl.Loan{x.a, x.b}[:c.loans]...)) {
			t.Fatalf("%s of %v, %v, %v, %v does not fail", c.name, x.m, x.list, x.a, x.b)
		}
		if !ok && c.name == "AreLoans" && impl.IsMemory(m) {
			t.Fatalf("%s of %v on %v fails", c.name, x.list, m)
		}
	}
}
