package tests

import (
	"bytes"
	"math"
	"math/big"
	"slices"
	"testing"

	"loop.example/g01179/impl"
)

// key is short for what the functions of chapter 9 have as keys.
type key = [impl.KeySize]byte

// pickBy returns a function that picks numbers in 0..n-1 by a fixed rule.
func pickBy(seed uint32) func(n int) int {
	return func(n int) int {
		seed = seed*1664525 + 1013904223
		return int(seed>>8) % n
	}
}

// lastKey returns the key whose bytes are all 255.
func lastKey() key { return key(bytes.Repeat([]byte{255}, impl.KeySize)) }

// someKeys returns keys with a single bit, without a single bit, with bytes at the limits, and any others.
func someKeys() []key {
	keys := []key{
		{}, lastKey(), {0: 127}, {0: 128}, {0: 255}, {15: 127}, {15: 255}, {14: 1}, {14: 1, 15: 255}, {14: 255}, {14: 255, 15: 255}, {14: 254, 15: 255},
		{7: 127, 8: 255}, {7: 128}, {0: 1, 15: 1}, {0: 1, 15: 2}, {0: 2, 15: 1}, {0: 127, 1: 255, 15: 255}, {0: 128, 15: 1}, {0: 5, 8: 7}, {0: 5, 8: 7, 15: 9},
	}
	for i := range 8 * impl.KeySize {
		one, other := key{}, lastKey()
		one[i/8] ^= 128 >> (i % 8)
		other[i/8] ^= 128 >> (i % 8)
		keys = append(keys, one, other)
	}
	pick := pickBy(9)
	for n := range impl.KeySize + 1 {
		k := key{}
		for i := range k {
			k[i] = byte(pick(256))
		}
		keys = append(keys, k)
		// So many bytes at the end are 255, as far as there are any.
		for i := range n {
			k[impl.KeySize-1-i] = 255
		}
		keys = append(keys, k)
	}
	return keys
}

// greatNumber returns the number of which the bytes of a key are the digits.
func greatNumber(k key) *big.Int { return new(big.Int).SetBytes(k[:]) }

// lessKey compares two keys as the document tells, byte by byte.
func lessKey(a, b key) bool {
	for i := range a {
		if a[i] != b[i] {
			return a[i] < b[i]
		}
	}
	return false
}

func TestKeyAt(t *testing.T) {
	numbers := []int{math.MinInt, math.MinInt + 1, math.MinInt + 16, -17, -16, -15, -1, 1 << 32, math.MaxInt - 16, math.MaxInt - 15, math.MaxInt - 14, math.MaxInt}
	for n := range 20 {
		numbers = append(numbers, n)
	}
	for _, m := range []impl.Memory{memoryOf(18, 15), memoryOf(1, 16, 17)} {
		for _, w := range allWindows(m) {
			for _, i := range numbers {
				checkKeyAt(t, m, w, i)
			}
		}
	}
	for _, pair := range somePairs() {
		for i := range 66 {
			checkKeyAt(t, memoryOf(64, 64), pair[0], i)
		}
	}
	for _, i := range numbers {
		for _, w := range append(badWindows(), impl.Window{}) {
			checkNoKey(t, memoryOf(4, 2), w, i)
		}
		checkNoKey(t, memoryOf(32), impl.Window{Array: 1, Len: 20, Cap: 20}, i)
		checkNoKey(t, memoryOf(32), impl.Window{Start: 1, Len: 32, Cap: 32}, i)
		checkNoKey(t, memoryOf(32), impl.Window{Len: 20, Cap: 16}, i)
		checkNoKey(t, impl.Memory{}, impl.Window{}, i)
		for _, m := range badMemories() {
			checkNoKey(t, m, impl.Window{Len: 2, Cap: 2}, i)
		}
		checkNoKey(t, memoryOf(32, 65), impl.Window{Len: 32, Cap: 32}, i)
		checkNoKey(t, impl.Memory{Arrays: [][]byte{make([]byte, 32), nil}}, impl.Window{Len: 32, Cap: 32}, i)
	}
}

func checkKeyAt(t *testing.T, m impl.Memory, w impl.Window, i int) {
	t.Helper()
	if i < 0 || i > 64 || i+16 > w.Len {
		checkNoKey(t, m, w, i)
		return
	}
	want := key{}
	for k := range want {
		want[k] = m.Arrays[w.Array][w.Start+i+k]
	}
	if got, ok := impl.KeyAt(m, w, i); !ok || got != want {
		t.Fatalf("KeyAt of %v at %d = %v, %v, not %v", w, i, got, ok, want)
	}
}

func checkNoKey(t *testing.T, m impl.Memory, w impl.Window, i int) {
	t.Helper()
	if got, ok := impl.KeyAt(m, w, i); ok || got != (key{}) {
		t.Fatalf("KeyAt of %v on %v at %d = %v, %v", w, m, i, got, ok)
	}
}

// TestKeyAtByHand: what a Window does not see is no part of a key, even if it is room.
func TestKeyAtByHand(t *testing.T) {
	m := memoryOf(20)
	want := key{3, 4, 5, 6, 7, 8, 9, 10, 11, 12, 13, 14, 15, 16, 17, 18}
	if got, ok := impl.KeyAt(m, impl.Window{Start: 1, Len: 17, Cap: 19}, 1); !ok || got != want {
		t.Error("the last key", got, ok)
	}
	checkNoKey(t, m, impl.Window{Start: 1, Len: 17, Cap: 19}, 2)
	checkNoKey(t, m, impl.Window{Start: 1, Len: 17, Cap: 19}, -1)
	checkNoKey(t, m, impl.Window{Len: 15, Cap: 20}, 0)
}

func TestLessKeyAndCommonBits(t *testing.T) {
	keys := someKeys()
	for _, a := range keys {
		for _, b := range keys {
			one, two := greatNumber(a), greatNumber(b)
			if got, want := impl.LessKey(a, b), one.Cmp(two) < 0; got != want {
				t.Fatalf("LessKey of %v, %v is %v", a, b, got)
			}
			want := 8*impl.KeySize - new(big.Int).Xor(one, two).BitLen()
			got := impl.CommonBits(a, b)
			if got != want {
				t.Fatalf("CommonBits of %v, %v is %d, not %d", a, b, got, want)
			}
			if (got == 128) != (a == b) {
				t.Fatalf("CommonBits of %v, %v is %d", a, b, got)
			}
		}
	}
}

func TestKeysByHand(t *testing.T) {
	for _, c := range []struct {
		a, b key
		less bool
		bits int
	}{
		{key{}, key{}, false, 128}, {lastKey(), lastKey(), false, 128}, {key{}, lastKey(), true, 0}, {key{15: 1}, key{15: 2}, true, 126},
		{key{15: 255}, key{14: 1}, true, 119}, {key{0: 127}, key{0: 128}, true, 0}, {key{0: 128}, key{0: 129}, true, 7}, {key{3: 64}, key{3: 63}, false, 25},
		{key{1: 1}, key{2: 255}, false, 15}, {key{0: 9, 15: 8}, key{0: 9, 15: 9}, true, 127}, {key{0: 1, 15: 9}, key{0: 2}, true, 6}, {key{8: 16}, key{8: 16, 9: 16}, true, 75},
	} {
		if less, more := impl.LessKey(c.a, c.b), impl.LessKey(c.b, c.a); less != c.less || more != (!c.less && c.bits < 128) {
			t.Errorf("LessKey of %v, %v is %v, and the other way round %v", c.a, c.b, less, more)
		}
		if one, two := impl.CommonBits(c.a, c.b), impl.CommonBits(c.b, c.a); one != c.bits || two != c.bits {
			t.Errorf("CommonBits of %v, %v is %d, and the other way round %d", c.a, c.b, one, two)
		}
	}
}

func TestNextKey(t *testing.T) {
	for _, k := range someKeys() {
		want := new(big.Int).Add(greatNumber(k), big.NewInt(1))
		got, ok := impl.NextKey(k)
		if k == lastKey() {
			if ok || got != (key{}) {
				t.Errorf("NextKey of the last key is %v, %v", got, ok)
			}
			continue
		}
		if !ok || greatNumber(got).Cmp(want) != 0 || !impl.LessKey(k, got) {
			t.Fatalf("NextKey of %v is %v, %v", k, got, ok)
		}
	}
	for k, want := range map[key]key{
		{}: {15: 1}, {15: 255}: {14: 1}, {14: 255, 15: 255}: {13: 1}, {0: 1, 15: 254}: {0: 1, 15: 255}, {14: 255}: {14: 255, 15: 1}, {15: 127}: {15: 128},
		{0: 254, 1: 255, 15: 255}: {0: 254, 1: 255, 14: 1}, {13: 255, 15: 255}: {13: 255, 14: 1},
	} {
		if got, ok := impl.NextKey(k); !ok || got != want {
			t.Errorf("NextKey of %v is %v, %v", k, got, ok)
		}
	}
	// One byte alone is not 255.
	for i := range impl.KeySize {
		k, want := lastKey(), lastKey()
		k[i] = 7
		want[i] = 8
		for j := i + 1; j < impl.KeySize; j++ {
			want[j] = 0
		}
		if got, ok := impl.NextKey(k); !ok || got != want {
			t.Errorf("NextKey of %v is %v, %v", k, got, ok)
		}
	}
}

// poolOfKeys returns 20 keys in ascending order, from which tables are made. Some of them have common beginnings.
func poolOfKeys() []key {
	return []key{
		{}, {15: 1}, {15: 128}, {15: 255}, {14: 1}, {14: 1, 15: 3}, {8: 1}, {7: 127}, {7: 128}, {1: 1}, {0: 1}, {0: 1, 15: 1},
		{0: 127}, {0: 127, 1: 255}, {0: 128}, {0: 128, 5: 7}, {0: 200}, {0: 254, 15: 255}, {0: 255}, lastKey(),
	}
}

// pickedTables returns tables on a Memory with any keys of the pool, of 0 to MaxEntries Entries, and any Values.
func pickedTables(m impl.Memory, many int) [][]impl.Entry {
	pick, pool, windows := pickBy(uint32(3+many)), poolOfKeys(), allWindows(m)
	tables := [][]impl.Entry{nil, {}}
	for n := range many {
		table := []impl.Entry{}
		// Few of the keys make short tables, and all of them ones that are full.
		of := 1 + n%len(pool)
		for _, k := range pool {
			if pick(len(pool)) < of && len(table) < impl.MaxEntries {
				table = append(table, impl.Entry{Key: k, Value: windows[pick(len(windows))]})
			}
		}
		tables = append(tables, table)
	}
	return tables
}

// tableOf returns a table with the keys of the pool with these numbers, all with other Values on memoryOf(5, 2).
func tableOf(numbers ...int) []impl.Entry {
	table, pool, windows := []impl.Entry{}, poolOfKeys(), allWindows(memoryOf(5, 2))
	for i, n := range numbers {
		table = append(table, impl.Entry{Key: pool[n], Value: windows[(5*n+i)%len(windows)]})
	}
	return table
}

// badTables returns lists of Entries of all kinds that are no table on memoryOf(4, 2), none of which has the key {9}.
func badTables() [][]impl.Entry {
	one := impl.Window{Len: 1, Cap: 1}
	tables := [][]impl.Entry{
		{{Key: key{1}}, {Key: key{1}}}, {{Key: key{2}}, {Key: key{1}}}, {{Key: key{15: 1}}, {}}, {{}, {}}, {{Key: key{0: 128}}, {Key: key{0: 127}}},
		{{Key: key{1}}, {Key: key{2}}, {Key: key{2}}}, {{Key: key{1}, Value: one}, {Key: key{3}}, {Key: key{2}, Value: one}}, {{Key: lastKey()}, {Key: key{0: 1}}},
		{{Key: key{2}}, {Key: key{1}}, {Key: key{3}}}, {{Key: key{14: 1}}, {Key: key{15: 255}}}, make([]impl.Entry, impl.MaxEntries+1), make([]impl.Entry, 1000),
		{{Key: key{1}, Value: one}, {Key: key{1}, Value: one}}, {{Key: key{1}, Value: one}, {Key: key{1}}},
	}
	long := []impl.Entry{}
	for i := range 13 {
		long = append(long, impl.Entry{Key: key{byte(10 + i)}, Value: one})
	}
	for _, bad := range badWindows() {
		last := slices.Clone(long[:12])
		last[11].Value = bad
		tables = append(tables, []impl.Entry{{Value: bad}}, []impl.Entry{{Key: key{1}, Value: bad}, {Key: key{2}, Value: one}},
			[]impl.Entry{{Key: key{1}, Value: one}, {Key: key{2}, Value: bad}, {Key: key{3}}}, last)
	}
	return append(tables, long)
}

// equalTables compares all keys and Values.
func equalTables(a, b []impl.Entry) bool { return slices.Equal(a, b) }

// checkIsTable checks IsTable, and that the functions that need a table fail if it is none.
func checkIsTable(t *testing.T, m impl.Memory, table []impl.Entry, want bool) {
	t.Helper()
	if is, ok := impl.IsTable(m, table); is != want || !ok {
		t.Fatalf("IsTable of %v is %v, %v", table, is, ok)
	}
	if !want {
		checkNoTable(t, m, table)
	}
}

// checkNoTable checks that all functions fail that need a table.
func checkNoTable(t *testing.T, m impl.Memory, table []impl.Entry) {
	t.Helper()
	keys := []key{{}, {9}, lastKey()}
	for _, e := range table[:min(len(table), 3)] {
		keys = append(keys, e.Key)
	}
	for _, k := range keys {
		checkNotFound(t, m, table, k)
		checkNotDropped(t, m, table, k)
		checkNotPut(t, m, table, k, impl.Window{})
		checkNoneBetween(t, m, table, key{}, k)
		checkNoneBetween(t, m, table, k, k)
	}
	for _, other := range [][]impl.Entry{nil, {{}}, {{Key: key{9}}, {Key: key{10}}}, table} {
		checkNotMerged(t, m, table, other)
		checkNotMerged(t, m, other, table)
	}
}

func checkNotFound(t *testing.T, m impl.Memory, table []impl.Entry, k key) {
	t.Helper()
	if w, ok := impl.FindEntry(m, table, k); ok || w != (impl.Window{}) {
		t.Fatalf("FindEntry of %v in %v = %v, %v", k, table, w, ok)
	}
}

func checkNotDropped(t *testing.T, m impl.Memory, table []impl.Entry, k key) {
	t.Helper()
	if got, ok := impl.DropEntry(m, table, k); ok || len(got) != 0 {
		t.Fatalf("DropEntry of %v in %v = %v, %v", k, table, got, ok)
	}
}

func checkNotPut(t *testing.T, m impl.Memory, table []impl.Entry, k key, w impl.Window) {
	t.Helper()
	if got, ok := impl.PutEntry(m, table, k, w); ok || len(got) != 0 {
		t.Fatalf("PutEntry of %v, %v in %v = %v, %v", k, w, table, got, ok)
	}
}

func checkNoneBetween(t *testing.T, m impl.Memory, table []impl.Entry, low, high key) {
	t.Helper()
	if got, ok := impl.EntriesBetween(m, table, low, high); ok || len(got) != 0 {
		t.Fatalf("EntriesBetween %v and %v of %v = %v, %v", low, high, table, got, ok)
	}
}

func checkNotMerged(t *testing.T, m impl.Memory, a, b []impl.Entry) {
	t.Helper()
	if got, ok := impl.MergeTables(m, a, b); ok || len(got) != 0 {
		t.Fatalf("MergeTables of %v and %v = %v, %v", a, b, got, ok)
	}
}

func TestIsTable(t *testing.T) {
	m := memoryOf(4, 2)
	keys := []key{{}, {15: 1}, {0: 1}, {0: 128}}
	windows := []impl.Window{{}, {Len: 4, Cap: 4}, {Len: 4, Cap: 5}, {Array: 1, Len: 1, Cap: 2}, {Array: 2}}
	fine := func(w int) bool { return w != 2 && w != 4 }
	entry := func(k, w int) impl.Entry { return impl.Entry{Key: keys[k], Value: windows[w]} }
	for n := range 20 * 20 * 20 {
		k1, w1, k2, w2, k3, w3 := n%4, n/4%5, n/20%4, n/80%5, n/400%4, n/1600%5
		one, two := []impl.Entry{entry(k1, w1)}, []impl.Entry{entry(k1, w1), entry(k2, w2)}
		checkIsTable(t, m, one, fine(w1))
		checkIsTable(t, m, two, fine(w1) && fine(w2) && k1 < k2)
		checkIsTable(t, m, append(two, entry(k3, w3)), fine(w1) && fine(w2) && fine(w3) && k1 < k2 && k2 < k3)
	}
	for _, table := range badTables() {
		checkIsTable(t, m, table, false)
	}
	for _, m := range []impl.Memory{memoryOf(5, 2), fullMemory()} {
		for _, table := range pickedTables(m, 200) {
			checkIsTable(t, m, table, true)
			if len(table) > 1 {
				slices.Reverse(table)
				checkIsTable(t, m, table, false)
			}
		}
	}
}

func TestIsTableByHand(t *testing.T) {
	m := memoryOf(5, 2)
	checkIsTable(t, m, nil, true)
	checkIsTable(t, impl.Memory{}, nil, true)
	checkIsTable(t, impl.Memory{}, []impl.Entry{}, true)
	checkIsTable(t, impl.Memory{}, []impl.Entry{{}}, false)
	checkIsTable(t, m, tableOf(0, 1, 2, 3, 4, 5, 6, 7, 8, 9, 10, 11), true)
	checkIsTable(t, m, tableOf(8, 9, 10, 11, 12, 13, 14, 15, 16, 17, 18, 19), true)
	checkIsTable(t, m, tableOf(0, 1, 2, 3, 4, 5, 6, 7, 8, 9, 10, 11, 12), false)
	checkIsTable(t, m, tableOf(0, 1, 2, 3, 4, 5, 6, 7, 8, 9, 11, 10), false)
	checkIsTable(t, m, tableOf(1, 0, 2, 3), false)
	// The same Window may be there again.
	checkIsTable(t, m, []impl.Entry{{Key: key{1}}, {Key: key{2}}, {Key: key{3}, Value: impl.Window{Len: 5, Cap: 5}}, {Key: key{4}, Value: impl.Window{Len: 5, Cap: 5}}}, true)
	for _, m := range badMemories() {
		for _, table := range [][]impl.Entry{nil, {{}}, {{}, {}}, {{Value: impl.Window{Len: 1, Cap: 1}}}, tableOf(0, 1)} {
			if is, ok := impl.IsTable(m, table); is || ok {
				t.Fatalf("IsTable of %v on %v is %v, %v", table, m, is, ok)
			}
			checkNoTable(t, m, table)
		}
	}
}

// withEntry returns what the document tells of putting an Entry into a table, of any length.
func withEntry(table []impl.Entry, put impl.Entry) []impl.Entry {
	ahead, behind := []impl.Entry{}, []impl.Entry{}
	for _, e := range table {
		if lessKey(e.Key, put.Key) {
			ahead = append(ahead, e)
		}
		if lessKey(put.Key, e.Key) {
			behind = append(behind, e)
		}
	}
	return append(append(ahead, put), behind...)
}

// mergedTable returns what the document tells of merging two tables, of any length.
func mergedTable(a, b []impl.Entry) []impl.Entry {
	merged := slices.Clone(a)
	for _, e := range b {
		merged = withEntry(merged, e)
	}
	return merged
}

// checkTables makes a check for tables on a small Memory, and on one with MaxArrays arrays.
func checkTables(t *testing.T, check func(t *testing.T, m impl.Memory, table []impl.Entry)) {
	t.Helper()
	for _, m := range []impl.Memory{memoryOf(5, 2), fullMemory()} {
		for _, table := range pickedTables(m, 200) {
			check(t, m, table)
		}
	}
}

func TestFindPutAndDrop(t *testing.T) {
	checkTables(t, func(t *testing.T, m impl.Memory, table []impl.Entry) {
		for _, k := range append(poolOfKeys(), key{0: 3}, key{8: 1, 9: 1}, key{15: 2}) {
			checkFindAndDrop(t, m, table, k)
			for _, w := range []impl.Window{{}, {Len: 2, Cap: 3}, {Array: 1, Start: 2}} {
				checkPutEntry(t, m, table, k, w)
			}
		}
	})
}

func checkFindAndDrop(t *testing.T, m impl.Memory, table []impl.Entry, k key) {
	t.Helper()
	for i, e := range table {
		if e.Key != k {
			continue
		}
		if w, ok := impl.FindEntry(m, table, k); !ok || w != e.Value {
			t.Fatalf("FindEntry of %v in %v = %v, %v", k, table, w, ok)
		}
		want := slices.Concat(table[:i], table[i+1:])
		got, ok := impl.DropEntry(m, table, k)
		if !ok || !equalTables(got, want) {
			t.Fatalf("DropEntry of %v in %v = %v, %v", k, table, got, ok)
		}
		checkIsTable(t, m, got, true)
		checkNotFound(t, m, got, k)
		checkNotDropped(t, m, got, k)
		return
	}
	checkNotFound(t, m, table, k)
	checkNotDropped(t, m, table, k)
}

func checkPutEntry(t *testing.T, m impl.Memory, table []impl.Entry, k key, w impl.Window) {
	t.Helper()
	want := withEntry(table, impl.Entry{Key: k, Value: w})
	if len(want) > 12 {
		checkNotPut(t, m, table, k, w)
		return
	}
	got, ok := impl.PutEntry(m, table, k, w)
	if !ok || !equalTables(got, want) {
		t.Fatalf("PutEntry of %v, %v in %v = %v, %v, not %v", k, w, table, got, ok, want)
	}
	checkIsTable(t, m, got, true)
	if found, ok := impl.FindEntry(m, got, k); !ok || found != w {
		t.Fatalf("PutEntry of %v, %v in %v: FindEntry = %v, %v", k, w, table, found, ok)
	}
}

func TestPutByHand(t *testing.T) {
	m, w := memoryOf(5, 2), impl.Window{Array: 1, Start: 1, Cap: 1}
	full, pool := tableOf(0, 1, 3, 4, 5, 6, 7, 8, 9, 10, 11, 12), poolOfKeys()
	// In a full table, a key that is there may have another Value, and no other key can be put.
	for i, e := range full {
		got, ok := impl.PutEntry(m, full, e.Key, w)
		if !ok || len(got) != 12 || got[i] != (impl.Entry{Key: e.Key, Value: w}) {
			t.Errorf("PutEntry at %d: %v, %v", i, got, ok)
		}
	}
	for _, n := range []int{2, 13, 19} {
		checkNotPut(t, m, full, pool[n], w)
	}
	if got, ok := impl.PutEntry(m, full[:11], pool[2], w); !ok || len(got) != 12 || got[2].Key != pool[2] || got[2].Value != w {
		t.Error("PutEntry of the last one that there can be", got, ok)
	}
	if got, ok := impl.PutEntry(m, nil, pool[4], w); !ok || !equalTables(got, []impl.Entry{{Key: pool[4], Value: w}}) {
		t.Error("PutEntry into an empty table", got, ok)
	}
	if got, ok := impl.DropEntry(m, full[:1], pool[0]); !ok || len(got) != 0 {
		t.Error("DropEntry of the only one", got, ok)
	}
	for _, bad := range badWindows() {
		for _, table := range [][]impl.Entry{nil, {{}}, {{Key: key{3}, Value: impl.Window{Len: 2, Cap: 2}}}, {{Key: key{2}}, {Key: key{4}}}} {
			checkNotPut(t, memoryOf(4, 2), table, key{3}, bad)
		}
	}
	for _, bad := range badMemories() {
		checkNotPut(t, bad, nil, key{3}, impl.Window{})
		checkNotPut(t, bad, nil, key{3}, impl.Window{Len: 1, Cap: 1})
	}
}

func TestMergeTables(t *testing.T) {
	for _, m := range []impl.Memory{memoryOf(5, 2), fullMemory()} {
		for _, a := range pickedTables(m, 80) {
			for _, b := range pickedTables(m, 81) {
				checkMerge(t, m, a, b)
			}
			checkMerge(t, m, a, a)
		}
	}
}

func checkMerge(t *testing.T, m impl.Memory, a, b []impl.Entry) {
	t.Helper()
	want := mergedTable(a, b)
	if len(want) > 12 {
		checkNotMerged(t, m, a, b)
		return
	}
	got, ok := impl.MergeTables(m, a, b)
	if !ok || !equalTables(got, want) {
		t.Fatalf("MergeTables of %v and %v = %v, %v, not %v", a, b, got, ok, want)
	}
	checkIsTable(t, m, got, true)
}

func TestMergeTablesByHand(t *testing.T) {
	m, pool := memoryOf(5, 2), poolOfKeys()
	one, two := impl.Window{Len: 1, Cap: 1}, impl.Window{Len: 2, Cap: 2}
	a := []impl.Entry{{Key: pool[1], Value: one}, {Key: pool[3], Value: one}, {Key: pool[7], Value: one}}
	b := []impl.Entry{{Key: pool[0], Value: two}, {Key: pool[3], Value: two}, {Key: pool[9], Value: two}}
	want := []impl.Entry{{Key: pool[0], Value: two}, {Key: pool[1], Value: one}, {Key: pool[3], Value: two}, {Key: pool[7], Value: one}, {Key: pool[9], Value: two}}
	if got, ok := impl.MergeTables(m, a, b); !ok || !equalTables(got, want) {
		t.Error("both have a key", got, ok)
	}
	want[2].Value = one
	if got, ok := impl.MergeTables(m, b, a); !ok || !equalTables(got, want) {
		t.Error("both have a key, the other way round", got, ok)
	}
	low, high := tableOf(0, 1, 2, 3, 4, 5), tableOf(6, 7, 8, 9, 10, 11, 12)
	checkMerge(t, m, low, high[:6])
	checkMerge(t, m, high[1:], low)
	checkNotMerged(t, m, low, high)
	checkNotMerged(t, m, high, low)
	full := mergedTable(low, high[1:])
	for _, table := range [][]impl.Entry{nil, full, low, tableOf(5, 7, 12)} {
		if got, ok := impl.MergeTables(m, full, table); !ok || len(got) != 12 {
			t.Error("with a full table", got, ok)
		}
	}
	checkNotMerged(t, m, full, high[:1])
	checkNotMerged(t, m, high[:1], full)
	checkNotMerged(t, m, full, tableOf(8, 9, 10, 11, 12, 13, 14, 15, 16, 17, 18, 19))
	if got, ok := impl.MergeTables(m, nil, nil); !ok || len(got) != 0 {
		t.Error("empty tables", got, ok)
	}
}

func TestEntriesBetween(t *testing.T) {
	checkTables(t, func(t *testing.T, m impl.Memory, table []impl.Entry) {
		keys := append(poolOfKeys(), key{0: 3}, key{15: 2})
		for _, low := range keys {
			for _, high := range keys {
				want := []impl.Entry{}
				for _, e := range table {
					if (e.Key == low || lessKey(low, e.Key)) && lessKey(e.Key, high) {
						want = append(want, e)
					}
				}
				if got, ok := impl.EntriesBetween(m, table, low, high); !ok || !equalTables(got, want) {
					t.Fatalf("EntriesBetween %v and %v of %v = %v, %v", low, high, table, got, ok)
				}
			}
		}
	})
}

func TestEntriesBetweenByHand(t *testing.T) {
	m, pool, table := memoryOf(5, 2), poolOfKeys(), tableOf(2, 4, 6, 19)
	for numbers, want := range map[[2]int][]impl.Entry{
		{2, 6}: table[:2], {1, 5}: table[:2], {3, 7}: table[1:3], {0, 19}: table[:3], {2, 2}: nil, {6, 2}: nil, {0, 2}: nil, {4, 5}: table[1:2], {7, 19}: nil, {19, 19}: nil,
		{19, 0}: nil, {6, 19}: table[2:3],
	} {
		if got, ok := impl.EntriesBetween(m, table, pool[numbers[0]], pool[numbers[1]]); !ok || !equalTables(got, want) {
			t.Errorf("EntriesBetween of %v = %v, %v", numbers, got, ok)
		}
	}
}

// frameOf returns what the document tells of a frame, for payloads of any length below 256.
func frameOf(tag byte, payload ...byte) []byte {
	frame, check := []byte{tag, byte(len(payload))}, tag^byte(len(payload))
	for _, b := range payload {
		frame, check = append(frame, b), check^b
	}
	return append(frame, check)
}

// anyBytes returns a list of so many bytes that pick picks.
func anyBytes(pick func(int) int, n int) []byte {
	list := make([]byte, n)
	for i := range list {
		list[i] = byte(pick(256))
	}
	return list
}

func TestEncodeFrame(t *testing.T) {
	pick := pickBy(4)
	for n := range impl.MaxPayload + 1 {
		for tag := range 256 {
			payload := anyBytes(pick, n)
			got, ok := impl.EncodeFrame(byte(tag), payload)
			if !ok || !bytes.Equal(got, frameOf(byte(tag), payload...)) {
				t.Fatalf("EncodeFrame of %d, %v = %v, %v", tag, payload, got, ok)
			}
		}
	}
	for _, n := range []int{31, 32, 33, 61, 64, 255, 256, 257, 286, 512, 1 << 20} {
		if got, ok := impl.EncodeFrame(3, make([]byte, n)); ok || len(got) != 0 {
			t.Errorf("EncodeFrame of %d bytes = %v, %v", n, got, ok)
		}
	}
	for want, payload := range map[string][]byte{
		"\x05\x02\x01\x02\x04": {1, 2}, "\x05\x00\x05": nil, "\x05\x01\x00\x04": {0}, "\x05\x01\xff\xfb": {255}, "\x05\x03\x06\x06\x06\x00": {6, 6, 6},
	} {
		if got, ok := impl.EncodeFrame(5, payload); !ok || string(got) != want {
			t.Errorf("EncodeFrame of %v = %q, %v", payload, got, ok)
		}
	}
}

// readFrame is a frame as the document tells that it is read: the place of its payload in a list, the number
// of its bytes, and its tag.
type readFrame struct {
	from, n int
	tag     byte
}

// framesIn returns all frames of a list, and where reading stops.
func framesIn(list []byte) ([]readFrame, int) {
	frames, at := []readFrame{}, 0
	for at+3 <= len(list) {
		n, check := int(list[at+1]), byte(0)
		if n > 30 || at+3+n > len(list) {
			break
		}
		for _, b := range list[at : at+3+n] {
			check ^= b
		}
		if check != 0 {
			break
		}
		frames = append(frames, readFrame{at + 2, n, list[at]})
		at += 3 + n
	}
	return frames, at
}

// checkFrames checks all that is read from a Window.
func checkFrames(t *testing.T, m impl.Memory, w impl.Window) {
	t.Helper()
	frames, stop := framesIn(seenIn(m, w))
	payloads, tags, table := []impl.Window{}, []byte{}, []impl.Entry{}
	for _, f := range frames {
		payload := impl.Window{Array: w.Array, Start: w.Start + f.from, Len: f.n, Cap: f.n}
		payloads, tags = append(payloads, payload), append(tags, f.tag)
		if f.n >= 16 {
			e := impl.Entry{Key: key(seenIn(m, payload)[:16]), Value: impl.Window{Array: w.Array, Start: payload.Start + 16, Len: f.n - 16, Cap: f.n - 16}}
			table = withEntry(table, e)
		}
	}
	if got, at, ok := impl.ParseFrames(m, w); !ok || at != stop || !slices.Equal(got, payloads) {
		t.Fatalf("ParseFrames of %v on %v = %v, %d, %v, not %v, %d", w, m, got, at, ok, payloads, stop)
	}
	if got, ok := impl.TagsOf(m, w); !ok || !bytes.Equal(got, tags) {
		t.Fatalf("TagsOf %v on %v = %v, %v, not %v", w, m, got, ok, tags)
	}
	got, ok := impl.LoadTable(m, w)
	if !ok || !equalTables(got, table) {
		t.Fatalf("LoadTable of %v on %v = %v, %v, not %v", w, m, got, ok, table)
	}
	checkIsTable(t, m, got, true)
}

// checkNoFrames checks that nothing can be read from a Window that is none.
func checkNoFrames(t *testing.T, m impl.Memory, w impl.Window) {
	t.Helper()
	if got, at, ok := impl.ParseFrames(m, w); ok || at != 0 || len(got) != 0 {
		t.Fatalf("ParseFrames of %v on %v = %v, %d, %v", w, m, got, at, ok)
	}
	if got, ok := impl.TagsOf(m, w); ok || len(got) != 0 {
		t.Fatalf("TagsOf %v on %v = %v, %v", w, m, got, ok)
	}
	if got, ok := impl.LoadTable(m, w); ok || len(got) != 0 {
		t.Fatalf("LoadTable of %v on %v = %v, %v", w, m, got, ok)
	}
}

// ofArrays returns the Memory with these arrays, each one cut or filled up with bytes 238 to a length.
func ofArrays(length int, lists ...[]byte) impl.Memory {
	m := impl.Memory{}
	for _, list := range lists {
		m.Arrays = append(m.Arrays, append(bytes.Clone(list), bytes.Repeat([]byte{238}, length)...)[:length])
	}
	return m
}

// keyFrame returns a frame with a key, and a payload with some bytes behind it.
func keyFrame(tag byte, k key, value ...byte) []byte { return frameOf(tag, append(k[:], value...)...) }

// framedArrays returns lists of at most 64 bytes with frames of many kinds.
func framedArrays() [][]byte {
	longest := frameOf(9, anyBytes(pickBy(1), 30)...)
	tooLong, spoilt := frameOf(9, anyBytes(pickBy(2), 31)...), frameOf(1, 2, 3, 4)
	spoilt[3] ^= 64
	one, two := key{0: 200, 15: 1}, key{0: 10, 15: 2}
	return [][]byte{
		make([]byte, 64), bytes.Repeat([]byte{255}, 64), bytes.Repeat(frameOf(7, 0), 16), longest, slices.Concat(longest, frameOf(3, anyBytes(pickBy(3), 28)...)),
		tooLong, slices.Concat(frameOf(1, 5), tooLong, frameOf(2, 6)), slices.Concat(frameOf(1, 5), spoilt, frameOf(2, 6)), slices.Concat(frameOf(1), frameOf(2), frameOf(3, 3, 3)),
		slices.Concat(frameOf(1, 5), []byte{0}, frameOf(2, 6)), slices.Concat(frameOf(1, frameOf(2, frameOf(3, 4)...)...), frameOf(5)),
		slices.Concat(keyFrame(1, one, 4, 5), keyFrame(2, two, 6), keyFrame(3, one)), slices.Concat(keyFrame(1, one), keyFrame(2, one, 7), keyFrame(3, one, 8, 9)),
		slices.Concat(keyFrame(1, two, 1), frameOf(2, one[:15]...), keyFrame(3, one, 2, 3)), slices.Concat(frameOf(4), keyFrame(5, one, anyBytes(pickBy(5), 14)...), keyFrame(6, two)),
		slices.Concat(frameOf(1, one[:15]...), frameOf(2, one[:]...), keyFrame(3, two, 0, 0, 0)), slices.Concat(keyFrame(8, lastKey()), keyFrame(8, key{})),
	}
}

func TestFrames(t *testing.T) {
	m := impl.Memory{}
	for _, list := range framedArrays() {
		for _, length := range []int{64, len(list), max(len(list)-1, 40)} {
			m.Arrays = ofArrays(length, nil, list, nil).Arrays
			for start := range length + 1 {
				for n := range length - start + 1 {
					checkFrames(t, m, impl.Window{Array: 1, Start: start, Len: n, Cap: n})
					if n%7 == start%5 {
						checkFrames(t, m, impl.Window{Array: 1, Start: start, Len: n, Cap: length - start})
					}
				}
			}
		}
	}
	for _, w := range badWindows() {
		checkNoFrames(t, memoryOf(4, 2), w)
		checkNoFrames(t, impl.Memory{Arrays: [][]byte{{0, 0, 0, 0}, {0, 0}}}, w)
	}
	checkNoFrames(t, impl.Memory{}, impl.Window{})
	for _, m := range badMemories() {
		checkNoFrames(t, m, impl.Window{})
		checkNoFrames(t, m, impl.Window{Len: 2, Cap: 2})
	}
	checkNoFrames(t, impl.Memory{Arrays: [][]byte{{0, 0, 0}, {}}}, impl.Window{Len: 3, Cap: 3})
}

// TestShortLists reads all lists of 5 bytes of some, and all Windows on some of them.
func TestShortLists(t *testing.T) {
	some := []byte{0, 1, 2, 3, 30, 31, 32, 255}
	for n := range 1 << 15 {
		list := make([]byte, 5)
		for i := range list {
			list[i] = some[n>>(3*i)&7]
		}
		m := impl.Memory{Arrays: [][]byte{list}}
		checkFrames(t, m, impl.Window{Len: 5, Cap: 5})
		if n%61 == 0 {
			for _, w := range allWindows(m) {
				checkFrames(t, m, w)
			}
		}
	}
}

// TestAllNumbersAndChecks reads frames with each number of bytes, and each check, whether there can be such
// a frame or not.
func TestAllNumbersAndChecks(t *testing.T) {
	for n := range 256 {
		for _, length := range []int{64, n + 3, n + 2, n + 4} {
			if length > 64 {
				continue
			}
			list := frameOf(77, anyBytes(pickBy(uint32(n)), n)...)
			m := ofArrays(length, list)
			w := impl.Window{Len: length, Cap: length}
			checkFrames(t, m, w)
			payloads, _, _ := impl.ParseFrames(m, w)
			if (len(payloads) == 1) != (n <= 30 && length >= n+3) {
				t.Fatalf("%d bytes in a frame, in %d: %v", n, length, payloads)
			}
		}
		m := ofArrays(6, frameOf(77, 1, 2, 3))
		m.Arrays[0][5] = byte(n)
		checkFrames(t, m, impl.Window{Len: 6, Cap: 6})
		if payloads, at, _ := impl.ParseFrames(m, impl.Window{Len: 6, Cap: 6}); (len(payloads) == 1) != (n == 77^3) || at != 6*len(payloads) {
			t.Fatalf("with the check %d: %v, %d", n, payloads, at)
		}
	}
}

// TestChangedByteStopsReading changes each byte of a tag, a payload and a check in turn: reading stops ahead of
// the frame, and what is ahead of this is read as before.
func TestChangedByteStopsReading(t *testing.T) {
	parts := [][]byte{frameOf(1, 5, 6), frameOf(2), keyFrame(3, key{4: 4}, 1, 2, 3), frameOf(4, 0), frameOf(5, 255, 254)}
	list := slices.Concat(parts...)
	w := impl.Window{Start: 3, Len: len(list), Cap: len(list) + 2}
	at := 0
	for number, part := range parts {
		for i := range part {
			for _, change := range []byte{1, 128, 255, 7} {
				m := ofArrays(len(list)+5, append([]byte{9, 9, 9}, list...))
				m.Arrays[0][3+at+i] ^= change
				checkFrames(t, m, w)
				payloads, stop, ok := impl.ParseFrames(m, w)
				if i != 1 && (!ok || stop != at || len(payloads) != number) {
					t.Fatalf("the byte %d of the frame %d is changed: %v, %d, %v", i, number, payloads, stop, ok)
				}
			}
		}
		at += len(part)
	}
}

func TestFramesByHand(t *testing.T) {
	for _, c := range []struct {
		list  []byte
		w     impl.Window
		tags  string
		first impl.Window
		at    int
	}{
		{nil, impl.Window{}, "", impl.Window{}, 0},
		{frameOf(5, 1, 2), impl.Window{Len: 5, Cap: 5}, "\x05", impl.Window{Start: 2, Len: 2, Cap: 2}, 5},
		{frameOf(5, 1, 2), impl.Window{Len: 64, Cap: 64}, "\x05", impl.Window{Start: 2, Len: 2, Cap: 2}, 5},
		{frameOf(5, 1, 2), impl.Window{Len: 4, Cap: 64}, "", impl.Window{}, 0}, // the check is room
		{frameOf(5, 1, 2), impl.Window{Start: 1, Len: 4, Cap: 63}, "", impl.Window{}, 0},
		{slices.Concat([]byte{8}, frameOf(5, 1, 2), frameOf(6)), impl.Window{Start: 1, Len: 9, Cap: 20}, "\x05\x06", impl.Window{Start: 3, Len: 2, Cap: 2}, 8},
		{slices.Concat(frameOf(6), frameOf(5, 1, 2)), impl.Window{Len: 7, Cap: 7}, "\x06", impl.Window{Start: 2}, 3},
		{make([]byte, 64), impl.Window{Len: 64, Cap: 64}, string(make([]byte, 21)), impl.Window{Start: 2}, 63},
		{make([]byte, 64), impl.Window{Start: 60, Len: 2, Cap: 4}, "", impl.Window{}, 0},
		{make([]byte, 64), impl.Window{Start: 60, Len: 3, Cap: 4}, "\x00", impl.Window{Start: 62}, 3},
		{make([]byte, 64), impl.Window{Start: 64}, "", impl.Window{}, 0},
		{frameOf(1, make([]byte, 30)...), impl.Window{Len: 33, Cap: 33}, "\x01", impl.Window{Start: 2, Len: 30, Cap: 30}, 33},
		{frameOf(1, make([]byte, 31)...), impl.Window{Len: 34, Cap: 34}, "", impl.Window{}, 0},
		{frameOf(1, make([]byte, 31)...), impl.Window{Len: 64, Cap: 64}, "", impl.Window{}, 0},
	} {
		m := ofArrays(64, c.list)
		payloads, at, ok := impl.ParseFrames(m, c.w)
		tags, fine := impl.TagsOf(m, c.w)
		if !ok || !fine || at != c.at || string(tags) != c.tags || len(payloads) != len(tags) || len(payloads) > 0 && payloads[0] != c.first {
			t.Errorf("frames of %v on %v: %v, %d, %q, %v, %v", c.w, c.list, payloads, at, tags, ok, fine)
		}
	}
}

func TestLoadTableByHand(t *testing.T) {
	one, two := key{0: 200, 15: 1}, key{0: 10, 15: 2}
	whole := impl.Window{Len: 64, Cap: 64}
	for _, c := range []struct {
		name string
		list []byte
		w    impl.Window
		want []impl.Entry
	}{
		{"two", slices.Concat(keyFrame(1, one, 4, 5), keyFrame(2, two, 6)), whole,
			[]impl.Entry{{Key: two, Value: impl.Window{Start: 39, Len: 1, Cap: 1}}, {Key: one, Value: impl.Window{Start: 18, Len: 2, Cap: 2}}}},
		{"the key is there again", slices.Concat(keyFrame(1, one, 4, 5), keyFrame(1, two, 4), keyFrame(2, one)), whole,
			[]impl.Entry{{Key: two, Value: impl.Window{Start: 39, Len: 1, Cap: 1}}, {Key: one, Value: impl.Window{Start: 59}}}},
		{"a key alone", keyFrame(1, one), impl.Window{Len: 19, Cap: 19}, []impl.Entry{{Key: one, Value: impl.Window{Start: 18}}}},
		{"no key", frameOf(1, one[:15]...), whole, nil},
		{"no key in the first one", slices.Concat(frameOf(1, one[:15]...), keyFrame(2, two, 8)), whole, []impl.Entry{{Key: two, Value: impl.Window{Start: 36, Len: 1, Cap: 1}}}},
		{"the longest", keyFrame(1, two, make([]byte, 14)...), impl.Window{Len: 33, Cap: 64}, []impl.Entry{{Key: two, Value: impl.Window{Start: 18, Len: 14, Cap: 14}}}},
		{"too long", keyFrame(1, two, make([]byte, 15)...), whole, nil},
		{"the check is room", keyFrame(1, one, 4), impl.Window{Len: 19, Cap: 64}, nil},
		{"no frames", bytes.Repeat([]byte{255}, 64), whole, nil},
		{"nothing", nil, impl.Window{Start: 64}, nil},
		{"behind what is no frame", slices.Concat([]byte{1, 2}, keyFrame(1, one)), whole, nil},
		{"from a place on", slices.Concat([]byte{1, 2}, keyFrame(1, one)), impl.Window{Start: 2, Len: 20, Cap: 62}, []impl.Entry{{Key: one, Value: impl.Window{Start: 20}}}},
	} {
		if got, ok := impl.LoadTable(ofArrays(64, c.list), c.w); !ok || !equalTables(got, c.want) {
			t.Errorf("%s: LoadTable = %v, %v, not %v", c.name, got, ok, c.want)
		}
	}
}

// TestPayloadsSeeTheBytesThemselves writes to each byte of a payload, by the payload and by the Window with the
// frames: both notice it, and so does the Value that was loaded from there.
func TestPayloadsSeeTheBytesThemselves(t *testing.T) {
	for _, list := range framedArrays() {
		m := ofArrays(64, nil, list)
		w := impl.Window{Array: 1, Len: len(list), Cap: 64}
		payloads, _, _ := impl.ParseFrames(m, w)
		table, _ := impl.LoadTable(m, w)
		views := slices.Clone(payloads)
		for _, e := range table {
			views = append(views, e.Value)
		}
		for _, view := range views {
			for i := range view.Len {
				b := m.Arrays[1][view.Start+i] ^ 85
				one, fine := impl.WriteAt(m, view, i, b)
				two, ok := impl.WriteAt(m, w, view.Start+i, b)
				seen, fits := impl.ReadAt(two, view, i)
				if !fine || !ok || !fits || seen != b || !equalMemories(one, two) {
					t.Fatalf("%v of %v at %d: written %d, and it sees %d", view, w, i, b, seen)
				}
				if by, ok := impl.NoticedBy(m, []impl.Window{w, view}, 1, view.Start+i); !ok || !slices.Equal(by, []int{0, 1}) {
					t.Fatalf("%v of %v at %d: noticed by %v", view, w, i, by)
				}
			}
		}
	}
}

// TestLoadedInPlace changes a Value, with the check: the table is as it was, and its Value sees the change;
// what changes a key is noticed by loading again.
func TestLoadedInPlace(t *testing.T) {
	one, two := key{0: 200, 15: 1}, key{0: 10, 15: 2}
	m := ofArrays(64, slices.Concat(keyFrame(1, one, 4, 5), keyFrame(2, two, 6)))
	w := impl.Window{Len: 41, Cap: 64}
	table, _ := impl.LoadTable(m, w)
	value, ok := impl.FindEntry(m, table, one)
	if !ok {
		t.Fatal("no Value", table)
	}
	changed, ok := impl.FillWindow(m, value, 9)
	changed, fine := impl.WriteAt(changed, w, 20, m.Arrays[0][20]^4^5^9^9)
	again, done := impl.LoadTable(changed, w)
	if seen, _ := impl.WindowBytes(changed, value); !ok || !fine || !done || !equalTables(again, table) || !bytes.Equal(seen, []byte{9, 9}) {
		t.Errorf("a Value is changed: %v sees %v", again, seen)
	}
	// 2 is the place of the first byte of the key, and 20 that of the check.
	changed, ok = impl.WriteAt(m, w, 2, 5)
	changed, fine = impl.WriteAt(changed, w, 20, m.Arrays[0][20]^200^5)
	again, done = impl.LoadTable(changed, w)
	want := []impl.Entry{{Key: key{0: 5, 15: 1}, Value: value}, {Key: two, Value: impl.Window{Start: 39, Len: 1, Cap: 1}}}
	if !ok || !fine || !done || !equalTables(again, want) {
		t.Errorf("a key is changed: %v", again)
	}
	if k, ok := impl.KeyAt(changed, w, 2); !ok || k != want[0].Key {
		t.Errorf("a key is changed: %v, %v", k, ok)
	}
}

func checkAppendFrame(t *testing.T, m impl.Memory, w impl.Window, tag byte, payload []byte) {
	t.Helper()
	want, v, fine := impl.Memory{}, impl.Window{}, false
	if len(payload) <= 30 {
		want, v, fine = appended(m, w, frameOf(tag, payload...))
	}
	got, u, ok := impl.AppendFrame(m, w, tag, payload)
	if ok != fine || u != v || !equalMemories(got, want) {
		t.Fatalf("AppendFrame of %d, %v to %v = %v, %v, %v, not %v, %v, %v", tag, payload, w, got, u, ok, want, v, fine)
	}
	before, at, _ := impl.ParseFrames(m, w)
	if !ok || at != w.Len {
		return
	}
	// Behind frames alone, there is one payload more.
	after, stop, ok := impl.ParseFrames(got, u)
	if !ok || stop != u.Len || len(after) != len(before)+1 {
		t.Fatalf("AppendFrame of %d, %v to %v: the payloads are %v, %d, %v, not one more than %v", tag, payload, w, after, stop, ok, before)
	}
	for i, p := range before {
		if !bytes.Equal(seenIn(got, after[i]), seenIn(m, p)) {
			t.Fatalf("AppendFrame of %d, %v to %v: the payload %d sees %v", tag, payload, w, i, seenIn(got, after[i]))
		}
	}
	if last := seenIn(got, after[len(before)]); !bytes.Equal(last, payload) {
		t.Fatalf("AppendFrame of %d, %v to %v: the last payload sees %v", tag, payload, w, last)
	}
	if tags, ok := impl.TagsOf(got, u); !ok || len(tags) != len(after) || tags[len(before)] != tag {
		t.Fatalf("AppendFrame of %d, %v to %v: the tags are %v, %v", tag, payload, w, tags, ok)
	}
}

func TestAppendFrame(t *testing.T) {
	pick := pickBy(8)
	payloads := [][]byte{nil, {}, {0}, {7, 8}, anyBytes(pick, 13), anyBytes(pick, 16), anyBytes(pick, 29), anyBytes(pick, 30), anyBytes(pick, 31), anyBytes(pick, 61), make([]byte, 1000)}
	for _, m := range []impl.Memory{memoryOf(6, 2), fullMemory(), memoryOf(slices.Repeat([]int{3}, 15)...), {Arrays: [][]byte{make([]byte, 7), frameOf(4)}}} {
		for _, w := range allWindows(m) {
			for i, payload := range payloads {
				checkAppendFrame(t, m, w, byte(40*i), payload)
			}
		}
	}
	for _, list := range framedArrays() {
		m := ofArrays(64, nil, list)
		for n := range 65 {
			for _, w := range []impl.Window{{Array: 1, Len: n, Cap: 64}, {Array: 1, Len: n, Cap: n}, {Array: 1, Len: n, Cap: min(64, n+5)}, {Array: 1, Start: 64 - n, Len: n, Cap: n}} {
				for i, payload := range payloads {
					checkAppendFrame(t, m, w, byte(200+i), payload)
				}
			}
		}
	}
	for _, w := range badWindows() {
		for _, payload := range payloads {
			checkNotAppended(t, memoryOf(4, 2), w, payload)
		}
	}
	checkNotAppended(t, impl.Memory{}, impl.Window{}, nil)
	for _, m := range badMemories() {
		checkNotAppended(t, m, impl.Window{}, nil)
		checkNotAppended(t, m, impl.Window{Len: 2, Cap: 2}, []byte{1})
	}
}

func checkNotAppended(t *testing.T, m impl.Memory, w impl.Window, payload []byte) {
	t.Helper()
	if got, u, ok := impl.AppendFrame(m, w, 7, payload); ok || u != (impl.Window{}) || len(got.Arrays) != 0 {
		t.Fatalf("AppendFrame of %v to %v on %v = %v, %v, %v", payload, w, m, got, u, ok)
	}
}

func TestAppendFrameByHand(t *testing.T) {
	m := ofArrays(8, frameOf(1, 2))
	w := impl.Window{Len: 4, Cap: 8}
	got, u, ok := impl.AppendFrame(m, w, 3, []byte{9})
	if !ok || u != (impl.Window{Len: 8, Cap: 8}) || !equalMemories(got, impl.Memory{Arrays: [][]byte{{1, 1, 2, 2, 3, 1, 9, 11}}}) {
		t.Error("into room", got, u, ok)
	}
	got, u, ok = impl.AppendFrame(m, w, 3, []byte{9, 9})
	moved := impl.Memory{Arrays: [][]byte{m.Arrays[0], {1, 1, 2, 2, 3, 2, 9, 9, 1, 0, 0, 0, 0, 0, 0, 0}}}
	if !ok || u != (impl.Window{Array: 1, Len: 9, Cap: 16}) || !equalMemories(got, moved) {
		t.Error("moved", got, u, ok)
	}
	// The last frame that there is room for, and one byte more; the longest one to an array of MaxSize bytes.
	zeros := impl.Memory{Arrays: [][]byte{make([]byte, 64)}}
	for n, fine := range map[int]bool{30: true, 31: false} {
		_, u, ok := impl.AppendFrame(zeros, impl.Window{Len: 30, Cap: 64}, 1, make([]byte, n))
		if ok != fine || fine && u != (impl.Window{Len: 63, Cap: 64}) {
			t.Errorf("%d bytes into room: %v, %v", n, u, ok)
		}
	}
	for n, fine := range map[int]bool{31: true, 32: false} {
		got, u, ok := impl.AppendFrame(zeros, impl.Window{Len: n, Cap: n}, 1, make([]byte, 30))
		if ok != fine || fine && (u != (impl.Window{Array: 1, Len: 64, Cap: 64}) || len(got.Arrays) != 2) {
			t.Errorf("33 bytes behind %d: %v, %v", n, u, ok)
		}
	}
	full := fullMemory()
	checkNotAppended(t, full, impl.Window{Array: 15, Len: 1, Cap: 3}, nil)
	if _, u, ok := impl.AppendFrame(full, impl.Window{Array: 15, Cap: 3}, 1, nil); !ok || u != (impl.Window{Array: 15, Len: 3, Cap: 3}) {
		t.Error("into room of the last array", u, ok)
	}
}

// TestTablesOfFrames appends frames with keys to some Windows, each with frames of its own, and keeps what the
// keys stand for beside them: all tables, merged, tell just this.
func TestTablesOfFrames(t *testing.T) {
	pick, pool := pickBy(6), poolOfKeys()
	for round := range 300 {
		m, windows, told := impl.Memory{}, []impl.Window{}, map[key]string{}
		for range 1 + pick(5) {
			next, w, ok := impl.NewArray(m, 1+pick(64))
			if !ok {
				t.Fatal("NewArray")
			}
			m, windows = next, append(windows, impl.Window{Array: w.Array, Cap: w.Cap})
		}
		merged := []impl.Entry{}
		for i, w := range windows {
			m, w = appendAny(m, w, pick, told, pool)
			windows[i] = w
			table, ok := impl.LoadTable(m, w)
			if !ok {
				t.Fatalf("LoadTable of %v on %v", w, m)
			}
			// The pool has more keys than a table can have.
			next, ok := impl.MergeTables(m, merged, table)
			if ok != (len(mergedTable(merged, table)) <= 12) {
				t.Fatalf("MergeTables of %v and %v = %v, %v", merged, table, next, ok)
			}
			if !ok {
				break
			}
			merged = next
			checkTold(t, round, m, merged, told)
		}
	}
}

// appendAny appends any frames until this fails, or so many are there, and writes down what they tell.
func appendAny(m impl.Memory, w impl.Window, pick func(int) int, told map[key]string, pool []key) (impl.Memory, impl.Window) {
	for range pick(6) {
		k, value := pool[pick(len(pool))], anyBytes(pick, pick(5))
		payload := append(k[:], value...)
		short := pick(5) == 0
		if short {
			payload = payload[:pick(16)]
		}
		next, u, ok := impl.AppendFrame(m, w, byte(pick(256)), payload)
		if !ok {
			return m, w
		}
		if m, w = next, u; !short {
			told[k] = string(value)
		}
	}
	return m, w
}

// checkTold checks that a table has just the keys that were told, with Values that see what they stand for.
func checkTold(t *testing.T, round int, m impl.Memory, table []impl.Entry, told map[key]string) {
	t.Helper()
	if len(table) != len(told) {
		t.Fatalf("round %d: %v has not %d keys", round, table, len(told))
	}
	for k, want := range told {
		w, ok := impl.FindEntry(m, table, k)
		seen, fine := impl.WindowBytes(m, w)
		if !ok || !fine || string(seen) != want {
			t.Fatalf("round %d: the key %v has %v, which sees %v, not %q", round, k, w, seen, want)
		}
	}
	all, ok := impl.EntriesBetween(m, table, key{}, lastKey())
	if _, is := told[lastKey()]; !ok || is && !equalTables(append(all, table[len(table)-1]), table) || !is && !equalTables(all, table) {
		t.Fatalf("round %d: between all keys are %v of %v", round, all, table)
	}
}

// frameArguments are what the functions of chapter 9 have as arguments.
type frameArguments struct {
	m            impl.Memory
	w            impl.Window
	i            int
	low, high    key
	table, other []impl.Entry
	payload      []byte
}

// frameCall calls one function of chapter 9 with those of the arguments that it has. It fails unless the Memory,
// the Window and the tables are valid, if it needs them.
type frameCall struct {
	name                      string
	memory, view, table, both bool
	call                      func(x frameArguments) []any
}

// frameCalls has all functions of chapter 9.
func frameCalls() []frameCall {
	type arguments = frameArguments
	return []frameCall{
		{"KeyAt", true, true, false, false, func(x arguments) []any { return resultsOf(impl.KeyAt(x.m, x.w, x.i)) }},
		{"LessKey", false, false, false, false, func(x arguments) []any { return resultsOf(impl.LessKey(x.low, x.high)) }},
		{"CommonBits", false, false, false, false, func(x arguments) []any { return resultsOf(impl.CommonBits(x.low, x.high), true) }},
		{"NextKey", false, false, false, false, func(x arguments) []any { return resultsOf(impl.NextKey(x.low)) }},
		{"IsTable", true, false, false, false, func(x arguments) []any { return resultsOf(impl.IsTable(x.m, x.table)) }},
		{"FindEntry", true, false, true, false, func(x arguments) []any { return resultsOf(impl.FindEntry(x.m, x.table, x.low)) }},
		{"PutEntry", true, true, true, false, func(x arguments) []any { return resultsOf(impl.PutEntry(x.m, x.table, x.low, x.w)) }},
		{"DropEntry", true, false, true, false, func(x arguments) []any { return resultsOf(impl.DropEntry(x.m, x.table, x.low)) }},
		{"MergeTables", true, false, true, true, func(x arguments) []any { return resultsOf(impl.MergeTables(x.m, x.table, x.other)) }},
		{"EntriesBetween", true, false, true, false, func(x arguments) []any { return resultsOf(impl.EntriesBetween(x.m, x.table, x.low, x.high)) }},
		{"EncodeFrame", false, false, false, false, func(x arguments) []any { return resultsOf(impl.EncodeFrame(byte(x.i), x.payload)) }},
		{"ParseFrames", true, true, false, false, func(x arguments) []any { return resultsOf(impl.ParseFrames(x.m, x.w)) }},
		{"TagsOf", true, true, false, false, func(x arguments) []any { return resultsOf(impl.TagsOf(x.m, x.w)) }},
		{"LoadTable", true, true, false, false, func(x arguments) []any { return resultsOf(impl.LoadTable(x.m, x.w)) }},
		{"AppendFrame", true, true, false, false, func(x arguments) []any {
			return resultsOf(impl.AppendFrame(x.m, x.w, byte(x.i), x.payload))
		}},
	}
}

// TestChapter9ReturnsForAll calls each function with arguments of all kinds, valid ones and others.
func TestChapter9ReturnsForAll(t *testing.T) {
	framed := ofArrays(64, framedArrays()[10:]...)
	memories := append(badMemories(), impl.Memory{}, memoryOf(4, 2), memoryOf(64, 64), fullMemory(), overlaid(), framed)
	windows := append(badWindows(), impl.Window{}, impl.Window{Len: 2, Cap: 3}, impl.Window{Array: 1, Len: 2, Cap: 2}, impl.Window{Len: 64, Cap: 64},
		impl.Window{Array: 1, Len: 60, Cap: 64}, impl.Window{Array: 2, Len: 33, Cap: 33}, impl.Window{Array: 5, Len: 64, Cap: 64})
	numbers := []int{0, 1, 2, 16, -1, 47, 48, 49, 64, 255, math.MaxInt, math.MinInt}
	payloads := [][]byte{nil, {7}, make([]byte, 16, 40), make([]byte, 30), make([]byte, 30, 64), make([]byte, 31), make([]byte, 1000)}
	tables := append(badTables(), pickedTables(memoryOf(4, 2), 40)...)
	keys := someKeys()
	for i, m := range memories {
		for j, w := range windows {
			for k, table := range tables {
				// Tables that have a key are as many as others.
				low, other := keys[(i+j+3*k)%len(keys)], tables[(7*i+5*j+k)%len(tables)]
				if len(table) > 0 && k%2 == 0 {
					low = table[(i+j)%len(table)].Key
				}
				x := frameArguments{m, w, numbers[(i+j+k)%len(numbers)], low, keys[(3*i+j+k)%len(keys)], withSpareEntries(table), withSpareEntries(other), payloads[(i+j+k)%len(payloads)]}
				if (i+j+k)%5 == 0 {
					checkFrameCalls(t, x)
				}
			}
		}
	}
}

// withSpareEntries returns the same Entries with others behind them, which are no part of the table.
func withSpareEntries(table []impl.Entry) []impl.Entry {
	return slices.Concat(table, slices.Repeat([]impl.Entry{{Key: key{7}, Value: impl.Window{Array: -7}}}, 3))[:len(table)]
}

// checkFrameCalls calls all functions with the same arguments.
func checkFrameCalls(t *testing.T, x frameArguments) {
	t.Helper()
	table, other, payload := x.table[:cap(x.table)], x.other[:cap(x.other)], x.payload[:cap(x.payload)]
	m, tableWas, otherWas, payloadWas := cloned(x.m), slices.Clone(table), slices.Clone(other), slices.Clone(payload)
	kept := func() bool {
		return equalMemories(x.m, m) && slices.Equal(table, tableWas) && slices.Equal(other, otherWas) && slices.Equal(payload, payloadWas)
	}
	isTable := func(table []impl.Entry) bool {
		is, _ := impl.IsTable(x.m, table)
		return is
	}
	for _, c := range frameCalls() {
		ok := checkResults(t, c.name, func() []any { return c.call(x) }, kept)
		if ok && (c.memory && !impl.IsMemory(m) || c.view && !fitArguments(m, []impl.Window{x.w}) || c.table && !isTable(x.table) || c.both && !isTable(x.other)) {
			t.Fatalf("%s of %v, %v, %v, %v does not fail", c.name, x.m, x.w, x.table, x.other)
		}
	}
}
