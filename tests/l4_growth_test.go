package tests

import (
	"bytes"
	"math"
	"slices"
	"testing"

	"loop.example/g01179/impl"
)

// allRules returns all valid rules.
func allRules() []impl.GrowRule {
	rules := []impl.GrowRule{}
	for num := 1; num <= impl.MaxFactor; num++ {
		for den := 1; den <= num; den++ {
			for add := 0; add <= impl.MaxSize; add++ {
				rules = append(rules, impl.GrowRule{Num: num, Den: den, Add: add})
			}
		}
	}
	return rules
}

// someRules returns rules of all kinds: those that double, others that grow by a factor, also one that
// is no whole number, and those that add only.
func someRules() []impl.GrowRule {
	return []impl.GrowRule{
		{Num: 2, Den: 1}, {Num: 2, Den: 1, Add: 3}, {Num: 8, Den: 4}, {Num: 8, Den: 1}, {Num: 8, Den: 1, Add: 64}, {Num: 3, Den: 2},
		{Num: 5, Den: 4, Add: 1}, {Num: 8, Den: 7}, {Num: 8, Den: 7, Add: 2}, {Num: 7, Den: 3, Add: 10}, {Num: 1, Den: 1},
		{Num: 1, Den: 1, Add: 1}, {Num: 1, Den: 1, Add: 2}, {Num: 5, Den: 5, Add: 7}, {Num: 8, Den: 8, Add: 64}, {Num: 1, Den: 1, Add: 64},
	}
}

// badRules returns rules of all kinds that are not valid.
func badRules() []impl.GrowRule {
	return []impl.GrowRule{
		{}, {Num: 1}, {Den: 1}, {Add: 1}, {Num: 1, Den: 2}, {Num: 7, Den: 8, Add: 64}, {Num: 9, Den: 1}, {Num: 9, Den: 9}, {Num: 8, Den: 9},
		{Num: 2, Den: 1, Add: -1}, {Num: 2, Den: 1, Add: 65}, {Num: -2, Den: -1}, {Num: -1, Den: -2}, {Num: 2, Den: -1}, {Num: 2},
		{Num: math.MaxInt, Den: 1}, {Num: math.MaxInt, Den: math.MaxInt}, {Num: math.MinInt, Den: math.MinInt}, {Num: 2, Den: math.MinInt},
		{Num: 2, Den: 1, Add: math.MaxInt}, {Num: 2, Den: 1, Add: math.MinInt}, {Num: 1<<32 + 2, Den: 1}, {Num: 2, Den: 1<<32 + 1},
	}
}

// told is what the document tells of a list: the cap behind each change, and the numbers of it all.
type told struct {
	caps   []int
	length int
	moves  int
	cost   int
	waste  int
	sum    int // of the appended bytes
}

// cap returns the cap behind the changes so far.
func (x *told) cap() int { return append([]int{0}, x.caps...)[len(x.caps)] }

// change makes one change, with shrinking by s, or without shrinking for an s of 0, and reports whether
// it can be and fits.
func (x *told) change(g impl.GrowRule, s int, n int) bool {
	if n > impl.MaxGrown || n < 0 && s == 0 || n < -x.length {
		return false
	}
	length, next := x.length+n, x.cap()
	if length > next {
		x.moves++
		x.cost += x.length
		scaled := 0 // counted up to, so that nothing is rounded
		for (scaled+1)*g.Den <= next*g.Num {
			scaled++
		}
		next = slices.Max([]int{scaled + g.Add, length, next + 1})
	}
	if n < 0 && next >= 2 && next >= s*length {
		x.moves++
		x.cost += length
		next = slices.Max([]int{(next - next%2) / 2, length})
	}
	x.length = length
	x.caps = append(x.caps, next)
	x.cost += max(n, 0)
	x.sum += max(n, 0)
	x.waste = max(x.waste, next-length)
	return next <= impl.MaxGrown
}

// tell makes all changes of a list.
func tell(g impl.GrowRule, s int, list []int) (told, bool) {
	x := told{}
	if len(list) > impl.MaxAppends {
		return told{}, false
	}
	for _, n := range list {
		if !x.change(g, s, n) {
			return told{}, false
		}
	}
	return x, true
}

// appendLists returns lists of appends, each of which fits by each rule: named ones, and many that a
// fixed rule picks, up to lists of MaxAppends.
func appendLists() [][]int {
	lists := [][]int{
		nil, {}, {0}, {1}, {0, 0, 0}, {5, 0}, {0, 5, 0, 1}, {1, 1, 1, 2}, {64}, {100, 1}, {3, 3, 3, 1000}, {1000, 1, 1},
		slices.Repeat([]int{0}, impl.MaxAppends), slices.Repeat([]int{1}, impl.MaxAppends), slices.Repeat([]int{17}, impl.MaxAppends),
		slices.Repeat([]int{0, 1, 0, 9}, 10), {impl.MaxGrown}, {0, impl.MaxGrown, 0, 0},
	}
	seed := uint32(7)
	for i := range 300 {
		list := []int{}
		for range i % (impl.MaxAppends + 1) {
			seed = seed*1664525 + 1013904223
			list = append(list, int(seed>>8)%([]int{2, 5, 20, 300}[i%4]))
		}
		lists = append(lists, list)
	}
	return lists
}

// changeLists returns lists of changes, with takings of all sizes, and to nothing.
func changeLists() [][]int {
	lists := [][]int{
		{4, -3}, {4, -4}, {4, -4, 0, 1}, {1, -1}, {2, -2}, {3, -1, -1, -1}, {64, -64, 1, -1, 2, -2}, {100, -99, -1},
		{8, -1, -1, -1, -1, -1, -1, -1, -1}, {7, -4, 4, -4, 4}, {16, -12, 0, -2, 0, -2, 0},
		slices.Repeat([]int{9, -9}, impl.MaxAppends/2), slices.Repeat([]int{9, -8}, impl.MaxAppends/2),
	}
	seed := uint32(11)
	for i := range 300 {
		list, length := []int{}, 0
		for range i % (impl.MaxAppends + 1) {
			seed = seed*1664525 + 1013904223
			n := int(seed>>8) % ([]int{3, 12, 40, 200}[i%4])
			switch {
			case seed>>28 == 0:
				n = -length
			case seed>>28 < 9:
				n = -min(n, length)
			}
			list, length = append(list, n), length+n
		}
		lists = append(lists, list)
	}
	return lists
}

func TestIsGrowRule(t *testing.T) {
	numbers := []int{math.MinInt, -8, -1, 0, 1, 2, 3, 7, 8, 9, 10, 63, 64, 65, 1<<32 + 1, math.MaxInt}
	for _, num := range numbers {
		for _, den := range numbers {
			for _, add := range numbers {
				want := num >= 1 && num <= 8 && den >= 1 && den <= num && add >= 0 && add <= 64
				if is := impl.IsGrowRule(impl.GrowRule{Num: num, Den: den, Add: add}); is != want {
					t.Errorf("IsGrowRule of %d, %d, %d = %v", num, den, add, is)
				}
			}
		}
	}
	for _, g := range append(allRules(), someRules()...) {
		if !impl.IsGrowRule(g) {
			t.Errorf("no rule: %v", g)
		}
	}
	for _, g := range badRules() {
		if impl.IsGrowRule(g) {
			t.Errorf("a rule: %v", g)
		}
	}
}

// TestNextCap compares stores of all small sizes with what the document tells.
func TestNextCap(t *testing.T) {
	for i, g := range allRules() {
		for length := range 7 {
			for room := range 6 {
				n := (i + length + 3*room) % 12
				x := told{caps: []int{length + room}, length: length}
				if fits := x.change(g, 0, n); !fits {
					t.Fatal("this fits")
				}
				if next, ok := impl.NextCap(g, length, room, n); !ok || next != x.cap() {
					t.Fatalf("NextCap by %v of %d, %d and %d = %d, %v, not %d", g, length, room, n, next, ok, x.cap())
				}
			}
		}
	}
}

// TestNextCapByHand has what the document names: nothing appended, room that is just enough, rules
// that add only, each one of the three numbers as the greatest one, and the limits.
func TestNextCapByHand(t *testing.T) {
	double, only, slow := impl.GrowRule{Num: 2, Den: 1}, impl.GrowRule{Num: 1, Den: 1, Add: 5}, impl.GrowRule{Num: 8, Den: 8}
	for _, c := range []struct {
		g               impl.GrowRule
		length, room, n int
		want            int
		fine            bool
	}{
		{double, 0, 0, 0, 0, true}, {double, 0, 0, 1, 1, true}, {double, 3, 0, 1, 6, true}, {double, 3, 0, 3, 6, true},
		{double, 3, 0, 4, 7, true}, {double, 3, 2, 2, 5, true}, {double, 3, 2, 3, 10, true}, {double, 0, 4, 4, 4, true},
		{double, 0, 4, 5, 8, true}, {double, 5, 0, 0, 5, true}, {double, 1, 0, 99, 100, true},
		{only, 0, 0, 1, 5, true}, {only, 0, 0, 6, 6, true}, {only, 5, 0, 1, 10, true}, {only, 4, 1, 1, 5, true}, {only, 4, 1, 2, 10, true},
		{slow, 0, 0, 1, 1, true}, {slow, 9, 0, 1, 10, true}, {slow, 3, 6, 7, 10, true}, {slow, 9, 0, 2, 11, true},
		{impl.GrowRule{Num: 3, Den: 2}, 5, 0, 1, 7, true}, {impl.GrowRule{Num: 3, Den: 2}, 1, 0, 1, 2, true},
		{impl.GrowRule{Num: 3, Den: 2, Add: 1}, 5, 2, 3, 11, true}, {impl.GrowRule{Num: 8, Den: 7}, 6, 0, 1, 7, true},
		{impl.GrowRule{Num: 8, Den: 7}, 13, 1, 2, 16, true}, {impl.GrowRule{Num: 8, Den: 1, Add: 64}, 1, 0, 1, 72, true},
		{double, 500000, 0, 1, 1000000, true}, {double, 500001, 0, 1, 0, false}, {double, 500001, 1, 1, 500002, true},
		{double, 0, 500001, 500002, 0, false}, {slow, 999999, 0, 1, 1000000, true}, {slow, 1000000, 0, 0, 1000000, true},
		{slow, 1000000, 0, 1, 0, false}, {slow, 0, 0, 1000000, 1000000, true}, {slow, 0, 1000000, 1000000, 1000000, true},
		{slow, 1, 999999, 999999, 1000000, true}, {slow, 1, 999999, 1000000, 0, false}, {slow, 1, 0, 1000000, 0, false},
		{only, 999995, 0, 1, 1000000, true}, {only, 999996, 0, 1, 0, false}, {only, 999996, 4, 4, 1000000, true},
		{slow, 0, 0, 1000001, 0, false}, {slow, 1000001, 0, 0, 0, false}, {slow, 0, 1000001, 0, 0, false}, {slow, 1000000, 1, 0, 0, false},
		{slow, 500000, 500001, 0, 0, false}, {slow, -1, 0, 0, 0, false}, {slow, -1, 1, 0, 0, false}, {slow, 0, -1, 0, 0, false},
		{slow, 1, -1, 0, 0, false}, {slow, 5, -1, 1, 0, false}, {slow, 0, 0, -1, 0, false}, {slow, 5, 5, -1, 0, false},
		{slow, math.MaxInt, math.MaxInt, 0, 0, false}, {slow, 1, math.MaxInt, 0, 0, false}, {slow, math.MinInt, math.MinInt, 0, 0, false},
		{slow, 1, 0, math.MaxInt, 0, false}, {slow, 0, 0, math.MinInt, 0, false}, {slow, math.MinInt, math.MaxInt, 1, 0, false},
	} {
		if next, ok := impl.NextCap(c.g, c.length, c.room, c.n); ok != c.fine || next != c.want {
			t.Errorf("NextCap by %v of %d, %d and %d = %d, %v", c.g, c.length, c.room, c.n, next, ok)
		}
	}
}

// checkRules makes a check by many rules for all of some lists.
func checkRules(t *testing.T, lists [][]int, check func(t *testing.T, g impl.GrowRule, list []int)) {
	t.Helper()
	rules := someRules()
	for _, list := range lists {
		for _, g := range rules {
			check(t, g, list)
		}
	}
	all := allRules()
	for i, g := range all {
		check(t, g, lists[i%len(lists)])
	}
}

func TestAppendLists(t *testing.T) { checkRules(t, appendLists(), checkAppends) }

func checkAppends(t *testing.T, g impl.GrowRule, list []int) {
	t.Helper()
	want, fine := tell(g, 0, list)
	caps, one := impl.CapsOf(g, list)
	moves, two := impl.MovesOf(g, list)
	cost, three := impl.CostOf(g, list)
	waste, four := impl.WorstWaste(g, list)
	if one != fine || two != fine || three != fine || four != fine {
		t.Fatalf("%v of %v: %v, %v, %v, %v, not %v", g, list, one, two, three, four, fine)
	}
	if !slices.Equal(caps, want.caps) || moves != want.moves || cost != want.cost || waste != want.waste {
		t.Fatalf("%v of %v: %v, %d, %d, %d, not %v", g, list, caps, moves, cost, waste, want)
	}
}

// TestMovesAreWhereCapsGrow: a store moves at just the appends behind which its cap is greater, and
// each cap is NextCap of what was there before.
func TestMovesAreWhereCapsGrow(t *testing.T) {
	checkRules(t, appendLists(), func(t *testing.T, g impl.GrowRule, list []int) {
		t.Helper()
		caps, ok := impl.CapsOf(g, list)
		if !ok {
			t.Fatalf("CapsOf %v of %v fails", g, list)
		}
		grown, copied, sum, last := 0, 0, 0, 0
		for i, n := range list {
			if next, ok := impl.NextCap(g, sum, last-sum, n); !ok || next != caps[i] || next < last || next < sum+n {
				t.Fatalf("CapsOf %v of %v is %v, but NextCap of %d and %d by %d is %d, %v", g, list, caps, sum, last-sum, n, next, ok)
			}
			if caps[i] > last {
				grown, copied = grown+1, copied+sum
			}
			sum, last = sum+n, caps[i]
		}
		moves, ok := impl.MovesOf(g, list)
		cost, fine := impl.CostOf(g, list)
		if !ok || !fine || moves != grown || cost != sum+copied || cost < sum {
			t.Fatalf("%v of %v: caps %v, %d moves, %v, cost %d, %v", g, list, caps, moves, ok, cost, fine)
		}
	})
}

func TestAppendListsByHand(t *testing.T) {
	for _, c := range []struct {
		g                  impl.GrowRule
		list, caps         []int
		moves, cost, waste int
	}{
		{impl.GrowRule{Num: 2, Den: 1}, nil, nil, 0, 0, 0},
		{impl.GrowRule{Num: 2, Den: 1, Add: 64}, []int{0, 0}, []int{0, 0}, 0, 0, 0},
		{impl.GrowRule{Num: 2, Den: 1}, []int{1, 1, 1, 2}, []int{1, 2, 4, 8}, 4, 11, 3},
		{impl.GrowRule{Num: 2, Den: 1, Add: 4}, []int{0, 1, 0, 4}, []int{0, 4, 4, 12}, 2, 6, 7},
		// The worst waste is that behind the append itself, not that behind all of them.
		{impl.GrowRule{Num: 2, Den: 1}, []int{5, 1, 4}, []int{5, 10, 10}, 2, 15, 4},
		{impl.GrowRule{Num: 1, Den: 1}, []int{1, 1, 1, 0, 3}, []int{1, 2, 3, 3, 6}, 4, 12, 0},
		{impl.GrowRule{Num: 1, Den: 1, Add: 3}, []int{1, 1, 1, 1, 1}, []int{3, 3, 3, 6, 6}, 2, 8, 2},
		{impl.GrowRule{Num: 4, Den: 4, Add: 3}, []int{10, 1, 5}, []int{10, 13, 16}, 3, 37, 2},
		{impl.GrowRule{Num: 3, Den: 2}, []int{1, 1, 1, 1, 1, 1}, []int{1, 2, 3, 4, 6, 6}, 5, 16, 1},
		{impl.GrowRule{Num: 8, Den: 1}, []int{1, 1, 7}, []int{1, 8, 64}, 3, 12, 55},
		{impl.GrowRule{Num: 8, Den: 1}, []int{125000, 1}, []int{125000, 1000000}, 2, 250001, 874999},
		{impl.GrowRule{Num: 1, Den: 1}, []int{1000000, 0}, []int{1000000, 1000000}, 1, 1000000, 0},
	} {
		caps, one := impl.CapsOf(c.g, c.list)
		moves, two := impl.MovesOf(c.g, c.list)
		cost, three := impl.CostOf(c.g, c.list)
		waste, four := impl.WorstWaste(c.g, c.list)
		if !one || !two || !three || !four || !slices.Equal(caps, c.caps) || moves != c.moves || cost != c.cost || waste != c.waste {
			t.Errorf("%v of %v: %v, %d, %d, %d", c.g, c.list, caps, moves, cost, waste)
		}
		checkAppends(t, c.g, c.list)
	}
}

// checkAppendsFail checks that all functions of lists of appends fail, with zero values.
func checkAppendsFail(t *testing.T, g impl.GrowRule, list []int) {
	t.Helper()
	caps, one := impl.CapsOf(g, list)
	moves, two := impl.MovesOf(g, list)
	cost, three := impl.CostOf(g, list)
	waste, four := impl.WorstWaste(g, list)
	if one || two || three || four || len(caps) != 0 || moves != 0 || cost != 0 || waste != 0 {
		t.Errorf("%v of %d appends %v: %v, %d, %d, %d", g, len(list), list[:min(len(list), 50)], caps, moves, cost, waste)
	}
}

func TestAppendListsThatFail(t *testing.T) {
	for _, g := range someRules() {
		for _, list := range [][]int{
			{-1}, {1, -1}, {5, -1, 5}, {math.MinInt}, {math.MaxInt}, {impl.MaxGrown + 1}, {1 << 32}, {1, math.MaxInt}, {1, math.MinInt},
			{impl.MaxGrown, 1}, {1, impl.MaxGrown}, {1, 0, 0, impl.MaxGrown, 0}, slices.Repeat([]int{25001}, impl.MaxAppends),
			slices.Repeat([]int{math.MaxInt}, 4), make([]int, impl.MaxAppends+1), slices.Repeat([]int{1}, impl.MaxAppends+1), make([]int, 100000),
		} {
			checkAppendsFail(t, g, list)
		}
		if _, ok := impl.CapsOf(g, make([]int, impl.MaxAppends)); !ok {
			t.Errorf("MaxAppends appends by %v fail", g)
		}
	}
	for _, g := range badRules() {
		for _, list := range [][]int{nil, {}, {0}, {1}, {1, 2, 3}} {
			checkAppendsFail(t, g, list)
		}
	}
	// The length fits, but the cap does not.
	checkAppendsFail(t, impl.GrowRule{Num: 2, Den: 1}, []int{500001, 1})
	checkAppendsFail(t, impl.GrowRule{Num: 1, Den: 1, Add: 1}, []int{impl.MaxGrown - 64, 1, 62, 1, 1, 1})
	checkAppendsFail(t, impl.GrowRule{Num: 8, Den: 1}, []int{125001, 1, 0})
	checkAppendsFail(t, impl.GrowRule{Num: 1, Den: 1, Add: 64}, []int{impl.MaxGrown - 63, 1})
}

// TestSingles compares bytes that are appended one by one with what the document tells, up to MaxSteps.
func TestSingles(t *testing.T) {
	for _, g := range someRules() {
		x := told{}
		for k := range impl.MaxSteps + 1 {
			if k > 0 && !x.change(g, 0, 1) {
				t.Fatal("one byte more fits")
			}
			x.caps = x.caps[max(0, len(x.caps)-1):] // the last one is all that counts
			checkSingles(t, g, k, x.cost, x.moves)
		}
	}
}

func checkSingles(t *testing.T, g impl.GrowRule, k, wantCost, wantMoves int) {
	t.Helper()
	cost, one := impl.SingleCost(g, k)
	moves, two := impl.SingleMoves(g, k)
	if !one || !two || cost != wantCost || moves != wantMoves {
		t.Fatalf("%d bytes by %v: cost %d, %v, moves %d, %v, not %d and %d", k, g, cost, one, moves, two, wantCost, wantMoves)
	}
}

// TestSinglesAreLists: bytes one by one are a list of appends of 1.
func TestSinglesAreLists(t *testing.T) {
	for i, g := range allRules() {
		k := i % (impl.MaxAppends + 1)
		list := slices.Repeat([]int{1}, k)
		cost, one := impl.CostOf(g, list)
		moves, two := impl.MovesOf(g, list)
		if !one || !two {
			t.Fatalf("%v of %v fails", g, list)
		}
		checkSingles(t, g, k, cost, moves)
	}
}

// TestSinglesAreCheap: with doubling, or by rules that grow faster, a byte costs 3 at most.
func TestSinglesAreCheap(t *testing.T) {
	steps := []int{}
	for k := 0; k <= impl.MaxSteps; k += 1 + k/6 {
		steps = append(steps, k)
	}
	for power := 1; power < impl.MaxSteps; power *= 2 {
		steps = append(steps, power, power+1)
	}
	for _, g := range allRules() {
		if g.Num < 2*g.Den {
			continue
		}
		for _, k := range append(steps, impl.MaxSteps) {
			if cost, ok := impl.SingleCost(g, k); !ok || cost > 3*k || cost < k {
				t.Fatalf("SingleCost of %d by %v = %d, %v", k, g, cost, ok)
			}
		}
	}
}

func TestSinglesByHand(t *testing.T) {
	for _, c := range []struct {
		g              impl.GrowRule
		k, cost, moves int
	}{
		{impl.GrowRule{Num: 2, Den: 1}, 0, 0, 0},
		{impl.GrowRule{Num: 2, Den: 1}, 1, 1, 1},
		{impl.GrowRule{Num: 2, Den: 1}, 4, 7, 3},
		{impl.GrowRule{Num: 2, Den: 1}, 5, 12, 4},
		{impl.GrowRule{Num: 2, Den: 1}, 1024, 2047, 11},
		{impl.GrowRule{Num: 2, Den: 1}, 1025, 3072, 12},
		{impl.GrowRule{Num: 2, Den: 1}, 2000, 4047, 12},
		{impl.GrowRule{Num: 1, Den: 1}, 2000, 2001000, 2000},
		{impl.GrowRule{Num: 1, Den: 1, Add: 1}, 2000, 2001000, 2000},
		{impl.GrowRule{Num: 1, Den: 1, Add: 64}, 64, 64, 1},
		{impl.GrowRule{Num: 1, Den: 1, Add: 64}, 65, 129, 2},
		{impl.GrowRule{Num: 1, Den: 1, Add: 50}, 2000, 41000, 40},
		{impl.GrowRule{Num: 8, Den: 1, Add: 64}, 2000, 2640, 3},
		{impl.GrowRule{Num: 8, Den: 1, Add: 64}, 576, 640, 2},
	} {
		checkSingles(t, c.g, c.k, c.cost, c.moves)
	}
}

func TestSinglesThatFail(t *testing.T) {
	check := func(g impl.GrowRule, k int) {
		cost, one := impl.SingleCost(g, k)
		moves, two := impl.SingleMoves(g, k)
		if one || two || cost != 0 || moves != 0 {
			t.Errorf("%d bytes by %v: cost %d, %v, moves %d, %v", k, g, cost, one, moves, two)
		}
	}
	for _, g := range someRules() {
		for _, k := range []int{-1, impl.MaxSteps + 1, impl.MaxGrown, 1 << 32, math.MaxInt, math.MinInt, -impl.MaxSteps} {
			check(g, k)
		}
	}
	for _, g := range badRules() {
		for _, k := range []int{0, 1, 5, impl.MaxSteps, -1, math.MaxInt} {
			check(g, k)
		}
	}
}

// TestGrowsFast: also, that rules that add only move at each byte, or once for each Add bytes.
func TestGrowsFast(t *testing.T) {
	for i, g := range allRules() {
		fast, ok := impl.GrowsFast(g)
		if !ok || fast != (g.Num-g.Den > 0) {
			t.Fatalf("GrowsFast of %v = %v, %v", g, fast, ok)
		}
		if fast {
			continue
		}
		for _, k := range []int{0, 1, g.Add, g.Add + 1, 2 * g.Add, i % 2001, impl.MaxSteps} {
			each := max(g.Add, 1)
			want := (k + each - 1) / each
			if moves, ok := impl.SingleMoves(g, k); !ok || moves != want {
				t.Fatalf("SingleMoves of %d by %v = %d, %v, not %d", k, g, moves, ok, want)
			}
		}
	}
	for _, g := range badRules() {
		if fast, ok := impl.GrowsFast(g); fast || ok {
			t.Errorf("GrowsFast of %v = %v, %v", g, fast, ok)
		}
	}
}

func TestShrinking(t *testing.T) {
	for s := 2; s <= impl.MaxFactor; s++ {
		checkRules(t, changeLists(), func(t *testing.T, g impl.GrowRule, list []int) {
			t.Helper()
			checkShrinking(t, g, s, list)
		})
	}
}

func checkShrinking(t *testing.T, g impl.GrowRule, s int, list []int) {
	t.Helper()
	want, fine := tell(g, s, list)
	caps, one := impl.ShrinkCaps(g, s, list)
	cost, two := impl.ShrinkCost(g, s, list)
	if one != fine || two != fine || !slices.Equal(caps, want.caps) || cost != want.cost || cost < want.sum {
		t.Fatalf("%v of %v, shrinking by %d: %v, %v, %d, %v, not %v", g, list, s, caps, one, cost, two, want)
	}
	length := 0
	for i, n := range list {
		if length += n; fine && caps[i] < length {
			t.Fatalf("%v of %v, shrinking by %d: %v is too little", g, list, s, caps)
		}
	}
}

// TestShrinkingWithoutTakings: without takings nothing shrinks, also if nothing is appended.
func TestShrinkingWithoutTakings(t *testing.T) {
	for i, list := range appendLists() {
		for _, g := range someRules() {
			s := 2 + i%(impl.MaxFactor-1)
			want, one := impl.CapsOf(g, list)
			sum, two := impl.CostOf(g, list)
			caps, three := impl.ShrinkCaps(g, s, list)
			cost, four := impl.ShrinkCost(g, s, list)
			if !one || !two || !three || !four || !slices.Equal(caps, want) || cost != sum {
				t.Fatalf("%v of %v, shrinking by %d: %v, %d, not %v, %d", g, list, s, caps, cost, want, sum)
			}
		}
	}
}

// TestShrinkingByHand has what the document names: takings to nothing, a cap that is just s times the
// length, or one less, caps less than 2, one move behind each taking, and appends of nothing.
func TestShrinkingByHand(t *testing.T) {
	double := impl.GrowRule{Num: 2, Den: 1}
	for _, c := range []struct {
		g          impl.GrowRule
		s          int
		list, caps []int
		cost       int
	}{
		{double, 4, nil, nil, 0},
		{double, 4, []int{4, -3}, []int{4, 2}, 5},
		{double, 4, []int{4, -2}, []int{4, 4}, 4},
		{double, 4, []int{8, -6}, []int{8, 4}, 10},
		{double, 4, []int{7, -5}, []int{7, 7}, 7},
		{double, 4, []int{7, -6}, []int{7, 3}, 8},
		{double, 2, []int{4, -2}, []int{4, 2}, 6},
		{double, 2, []int{3, -1}, []int{3, 3}, 3},
		{double, 2, []int{3, -2}, []int{3, 1}, 4},
		{double, 8, []int{16, -14, -1, -1}, []int{16, 8, 4, 2}, 19},
		{double, 8, []int{15, -13}, []int{15, 15}, 15},
		// To nothing: once behind each taking, and not below 1.
		{double, 2, []int{64, -64}, []int{64, 32}, 64},
		{double, 8, []int{5, -5, 0, 0}, []int{5, 2, 2, 2}, 5},
		{double, 8, []int{2, -2, 1, -1, 1}, []int{2, 1, 1, 1, 1}, 4},
		{double, 2, []int{1, -1, 1, -1}, []int{1, 1, 1, 1}, 2},
		{double, 2, []int{3, -3, 1, -1}, []int{3, 1, 1, 1}, 4},
		{double, 3, []int{0, 0}, []int{0, 0}, 0},
		// An append moves by the cap behind shrinking.
		{double, 4, []int{4, -3, 2}, []int{4, 2, 4}, 8},
		{impl.GrowRule{Num: 1, Den: 1, Add: 10}, 2, []int{1, -1, 1, -1}, []int{10, 5, 5, 2}, 2},
		{impl.GrowRule{Num: 1, Den: 1, Add: 10}, 5, []int{1, 1, -1, 0, 5, -4}, []int{10, 10, 5, 5, 15, 7}, 11},
		{impl.GrowRule{Num: 1, Den: 1}, 2, []int{6, -3, -1, -1}, []int{6, 3, 3, 1}, 10},
		{impl.GrowRule{Num: 1, Den: 1}, 2, []int{1000000, -1000000, 500000, 1}, []int{1000000, 500000, 500000, 500001}, 2000001},
		{double, 2, []int{1000000, -500000, 1}, []int{1000000, 500000, 1000000}, 2000001},
	} {
		caps, one := impl.ShrinkCaps(c.g, c.s, c.list)
		cost, two := impl.ShrinkCost(c.g, c.s, c.list)
		if !one || !two || !slices.Equal(caps, c.caps) || cost != c.cost {
			t.Errorf("%v of %v, shrinking by %d: %v, %v, %d, %v", c.g, c.list, c.s, caps, one, cost, two)
		}
	}
}

func TestShrinkingThatFails(t *testing.T) {
	check := func(g impl.GrowRule, s int, list []int) {
		caps, one := impl.ShrinkCaps(g, s, list)
		cost, two := impl.ShrinkCost(g, s, list)
		if one || two || len(caps) != 0 || cost != 0 {
			t.Errorf("%v of %v, shrinking by %d: %v, %v, %d, %v", g, list[:min(len(list), 50)], s, caps, one, cost, two)
		}
	}
	for _, g := range someRules() {
		for _, s := range []int{-2, -1, 0, 1, impl.MaxFactor + 1, 64, 1<<32 + 2, math.MaxInt, math.MinInt} {
			check(g, s, nil)
			check(g, s, []int{4, -3})
		}
		for s := 2; s <= impl.MaxFactor; s++ {
			for _, list := range [][]int{
				{-1}, {0, -1}, {4, -5}, {4, -4, -1}, {4, -2, -3, 9}, {4, math.MinInt}, {math.MinInt}, {math.MaxInt}, {4, math.MaxInt},
				{impl.MaxGrown + 1}, {impl.MaxGrown, 1}, {impl.MaxGrown, -impl.MaxGrown - 1}, {5, -1, 1 << 40}, {1, math.MinInt + 1},
				make([]int, impl.MaxAppends+1), append(slices.Repeat([]int{1, -1}, impl.MaxAppends/2), 1), make([]int, 100000),
			} {
				check(g, s, list)
			}
		}
	}
	for _, g := range badRules() {
		check(g, 2, nil)
		check(g, 4, []int{4, -3})
	}
	// The length fits, but the cap does not.
	check(impl.GrowRule{Num: 2, Den: 1}, 8, []int{500002, -1, 2})
	if caps, ok := impl.ShrinkCaps(impl.GrowRule{Num: 2, Den: 1}, 2, []int{500002, -250001, 250001}); !ok || caps[2] != 500002 {
		t.Error("a cap that fits behind shrinking", caps, ok)
	}
}

// growLists returns lists of lists of bytes that are appended to a Window.
func growLists() [][][]byte {
	long := bytes.Repeat([]byte{7, 0, 9}, 30)
	return [][][]byte{
		nil, {}, {nil}, {{}, nil, {}}, {{7}}, {{7}, {8}}, {{7}, nil, {8}, {}, {9}}, {{7, 8, 9}}, {{7, 8}, {9, 10}, {11}}, {long[:20]},
		{long[:20], long[:20]}, {long[:20], long[:20], long[:20]}, {long[:61]}, {long[:62], {1}}, {long[:64]}, {long[:65]}, {{1}, long[:64]},
		{long}, slices.Repeat([][]byte{{5}}, impl.MaxAppends), slices.Repeat([][]byte{{5, 6}}, 32), slices.Repeat([][]byte{nil, {4}}, impl.MaxAppends/2),
		make([][]byte, impl.MaxAppends),
	}
}

// TestGrowWindow appends the lists one by one, and compares what is there behind them.
func TestGrowWindow(t *testing.T) {
	for _, m := range []impl.Memory{memoryOf(4, 2), memoryOf(1), memoryOf(3, 64), fullMemory(), memoryOf(slices.Repeat([]int{3}, 14)...)} {
		for i, w := range allWindows(m) {
			if len(m.Arrays[w.Array]) == impl.MaxSize && i%997 != 0 {
				continue // there are too many of these for all lists
			}
			for _, list := range growLists() {
				checkGrown(t, m, w, list)
			}
		}
	}
}

func checkGrown(t *testing.T, m impl.Memory, w impl.Window, list [][]byte) {
	t.Helper()
	want, v, fine := m, w, true
	for _, part := range list {
		if fine {
			want, v, fine = appended(want, v, part)
		}
	}
	moves := len(want.Arrays) - len(m.Arrays)
	if !fine {
		want, v, moves = impl.Memory{}, impl.Window{}, 0
	}
	got, u, many, ok := impl.GrowWindow(m, w, list)
	if ok != fine || u != v || many != moves || !equalMemories(got, want) {
		t.Fatalf("GrowWindow of %v by %v = %v, %v, %d, %v, not %v, %v, %d", w, list, got, u, many, ok, want, v, moves)
	}
	if !ok {
		return
	}
	bytesOf := slices.Concat(list...)
	if seen, ok := impl.WindowBytes(got, u); !ok || !bytes.Equal(seen, append(seenIn(m, w), bytesOf...)) {
		t.Fatalf("GrowWindow of %v by %v sees %v", w, list, seen)
	}
	// What is appended to room alone never moves.
	if len(bytesOf) <= w.Cap-w.Len && (many != 0 || u.Array != w.Array) {
		t.Fatalf("GrowWindow of %v by %v moves %d times", w, list, many)
	}
}

// TestGrowWindowMovesAsCapsGrow: a Window that begins without room grows as a store does that doubles,
// but for caps of more than MaxSize.
func TestGrowWindowMovesAsCapsGrow(t *testing.T) {
	double := impl.GrowRule{Num: 2, Den: 1}
	for size := range 20 {
		for _, n := range []int{1, 2, 3, 7} {
			m := memoryOf(64)
			w := impl.Window{Start: 2, Len: size, Cap: size}
			list, numbers, caps := [][]byte{}, []int{size}, []int{}
			for range 4 {
				list, numbers = append(list, make([]byte, n)), append(numbers, n)
				_, v, _, ok := impl.GrowWindow(m, w, list)
				if !ok {
					t.Fatalf("%d bytes, %d at a time: fails", size, n)
				}
				caps = append(caps, v.Cap)
			}
			moves, one := impl.MovesOf(double, numbers)
			want, two := impl.CapsOf(double, numbers)
			for i := range want {
				want[i] = min(want[i], impl.MaxSize)
			}
			_, _, many, ok := impl.GrowWindow(m, w, list)
			if !one || !two || !ok || many != moves-min(size, 1) || !slices.Equal(caps, want[1:]) {
				t.Errorf("%d bytes, %d at a time: %d moves, caps %v, not %d, %v", size, n, many, caps, moves, want)
			}
		}
	}
}

func TestGrowWindowByHand(t *testing.T) {
	m := impl.Memory{Arrays: [][]byte{{1, 2, 3, 4}}}
	got, w, n, ok := impl.GrowWindow(m, impl.Window{Start: 1, Len: 1, Cap: 2}, [][]byte{{7}, {8}})
	want := impl.Memory{Arrays: [][]byte{{1, 2, 7, 4}, {2, 7, 8, 0}}}
	if !ok || n != 1 || w != (impl.Window{Array: 1, Len: 3, Cap: 4}) || !equalMemories(got, want) {
		t.Error("to the room, and then to a new array", got, w, n, ok)
	}
	got, w, n, ok = impl.GrowWindow(m, impl.Window{Start: 4}, [][]byte{{7}, {8}, nil, {9}, {10}, {11}})
	want = impl.Memory{Arrays: [][]byte{{1, 2, 3, 4}, {7}, {7, 8}, {7, 8, 9, 10}, {7, 8, 9, 10, 11, 0, 0, 0}}}
	if !ok || n != 4 || w != (impl.Window{Array: 4, Len: 5, Cap: 8}) || !equalMemories(got, want) {
		t.Error("from nothing", got, w, n, ok)
	}
	// The lists lie in the Memory itself, where the first one is written over the second one.
	got, w, n, ok = impl.GrowWindow(m, impl.Window{Len: 1, Cap: 4}, [][]byte{m.Arrays[0][2:], m.Arrays[0][1:2]})
	want = impl.Memory{Arrays: [][]byte{{1, 3, 4, 2}}}
	if !ok || n != 0 || w != (impl.Window{Len: 4, Cap: 4}) || !equalMemories(got, want) {
		t.Error("of own bytes", got, w, n, ok)
	}
	if !bytes.Equal(m.Arrays[0], []byte{1, 2, 3, 4}) {
		t.Error("the argument is changed", m)
	}
}

func TestGrowWindowThatFails(t *testing.T) {
	check := func(m impl.Memory, w impl.Window, list [][]byte) {
		if got, v, n, ok := impl.GrowWindow(m, w, list); ok || len(got.Arrays) != 0 || v != (impl.Window{}) || n != 0 {
			t.Errorf("GrowWindow of %v by %d lists = %v, %v, %d, %v", w, len(list), got, v, n, ok)
		}
	}
	m := memoryOf(4, 2)
	lists := [][][]byte{nil, {}, {nil}, {{1}}, {{1}, {2}}}
	for _, w := range badWindows() {
		for _, list := range lists {
			check(m, w, list)
		}
	}
	for _, bad := range badMemories() {
		for _, list := range lists {
			check(bad, impl.Window{}, list)
			check(bad, impl.Window{Len: 1, Cap: 1}, list)
		}
	}
	check(impl.Memory{}, impl.Window{}, nil)
	// One list too many, even if there is nothing in it.
	check(m, impl.Window{}, make([][]byte, impl.MaxAppends+1))
	check(m, impl.Window{}, slices.Repeat([][]byte{{1}}, impl.MaxAppends+1))
	check(m, impl.Window{Len: 1, Cap: 4}, make([][]byte, 100000))
	// An append fails behind others that do not: too many bytes, and too many arrays.
	check(m, impl.Window{Len: 1, Cap: 4}, [][]byte{{1}, make([]byte, 62), {2}})
	check(m, impl.Window{Len: 1, Cap: 4}, [][]byte{{1}, make([]byte, 63), nil})
	check(fullMemory(), impl.Window{Len: 1, Cap: 3}, [][]byte{{1}, {2}, {3}})
	check(memoryOf(slices.Repeat([]int{3}, 15)...), impl.Window{Len: 3, Cap: 3}, [][]byte{{1}, {2, 3}, {4}})
}

// growthArguments are what the functions of chapter 4 have as arguments.
type growthArguments struct {
	g       impl.GrowRule
	n       [3]int
	numbers []int
	m       impl.Memory
	w       impl.Window
	lists   [][]byte
}

// growthCall calls one function of chapter 4 with those of the arguments that it has.
type growthCall struct {
	name string
	call func(x growthArguments) []any
}

// growthCalls has all functions of chapter 4 that return whether they fail.
func growthCalls() []growthCall {
	type arguments = growthArguments
	return []growthCall{
		{"NextCap", func(x arguments) []any { return resultsOf(impl.NextCap(x.g, x.n[0], x.n[1], x.n[2])) }},
		{"CapsOf", func(x arguments) []any { return resultsOf(impl.CapsOf(x.g, x.numbers)) }},
		{"MovesOf", func(x arguments) []any { return resultsOf(impl.MovesOf(x.g, x.numbers)) }},
		{"CostOf", func(x arguments) []any { return resultsOf(impl.CostOf(x.g, x.numbers)) }},
		{"WorstWaste", func(x arguments) []any { return resultsOf(impl.WorstWaste(x.g, x.numbers)) }},
		{"SingleCost", func(x arguments) []any { return resultsOf(impl.SingleCost(x.g, x.n[0])) }},
		{"SingleMoves", func(x arguments) []any { return resultsOf(impl.SingleMoves(x.g, x.n[0])) }},
		{"GrowsFast", func(x arguments) []any { return resultsOf(impl.GrowsFast(x.g)) }},
		{"ShrinkCaps", func(x arguments) []any { return resultsOf(impl.ShrinkCaps(x.g, x.n[1], x.numbers)) }},
		{"ShrinkCost", func(x arguments) []any { return resultsOf(impl.ShrinkCost(x.g, x.n[1], x.numbers)) }},
		{"GrowWindow", func(x arguments) []any { return resultsOf(impl.GrowWindow(x.m, x.w, x.lists)) }},
	}
}

// TestChapter4ReturnsForAll calls each function with arguments of all kinds, valid ones and others.
func TestChapter4ReturnsForAll(t *testing.T) {
	numbers := [][3]int{{0, 2, 0}, {3, 4, 2}, {1, 8, 3}, {-1, 1, 0}, {2000, 9, 1}, {2001, 2, 2}, {1000000, 0, 1}, {5, 1000000, 1},
		{math.MaxInt, math.MaxInt, math.MaxInt}, {math.MinInt, math.MinInt, math.MinInt}, {0, math.MaxInt, 1}, {1, 3, math.MinInt}}
	lists := slices.Concat(appendLists()[:40], changeLists()[:40], [][]int{{-1}, {math.MinInt}, {math.MaxInt, 1}, {3, math.MinInt, 3}, make([]int, 41)})
	memories := append(badMemories(), impl.Memory{}, memoryOf(4, 2), memoryOf(64, 64), fullMemory(), overlaid())
	windows := append(badWindows(), impl.Window{}, impl.Window{Len: 2, Cap: 3}, impl.Window{Array: 1, Start: 1, Cap: 1}, impl.Window{Start: 4})
	parts := append(growLists(), make([][]byte, impl.MaxAppends+1))
	for i, g := range append(badRules(), someRules()...) {
		for j, list := range lists {
			for k, n := range numbers {
				at := 7*i + 3*j + k
				checkGrowthCalls(t, growthArguments{g, n, list, memories[at%len(memories)], windows[(at/2)%len(windows)], parts[(at/3)%len(parts)]})
			}
		}
	}
}

// checkGrowthCalls calls all functions with the same arguments.
func checkGrowthCalls(t *testing.T, x growthArguments) {
	t.Helper()
	numbers, m := slices.Clone(x.numbers), cloned(x.m)
	lists := [][]byte{}
	for _, part := range x.lists {
		lists = append(lists, bytes.Clone(part))
	}
	kept := func() bool {
		return slices.Equal(x.numbers, numbers) && equalMemories(x.m, m) && slices.EqualFunc(x.lists, lists, bytes.Equal)
	}
	for _, c := range growthCalls() {
		ok := checkResults(t, c.name, func() []any { return c.call(x) }, kept)
		if ok && c.name != "GrowWindow" && !impl.IsGrowRule(x.g) {
			t.Fatalf("%s by %v does not fail", c.name, x.g)
		}
		if ok && c.name == "GrowWindow" && !fitArguments(m, []impl.Window{x.w}) {
			t.Fatalf("GrowWindow of %v on %v does not fail", x.w, m)
		}
	}
}
