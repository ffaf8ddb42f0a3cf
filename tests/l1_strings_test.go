package tests

import (
	"math"
	"math/big"
	"slices"
	"strconv"
	"strings"
	"testing"

	"loop.example/g01179/impl"
)

// oddStrings are arguments of all kinds that every function of chapter 1 must return for.
func oddStrings() []string {
	return []string{
		"", "0", "7", "-7", "-", "+1", "-0", "00", "01", "a", "a b", "#", "#7", "a#385", "##",
		",", ",,", "a,,b", "\x00", "\xff", "\n", "é", "\xc3", "\u2028", "999999", "-999999",
		"1000000", "-1000000", "9223372036854775807", "-9223372036854775808",
		"18446744073709551616", strings.Repeat("0", 4000), strings.Repeat("9", 4001),
		strings.Repeat(",", impl.MaxString), strings.Repeat(",", impl.MaxString+1),
		strings.Repeat("#", impl.MaxString), strings.Repeat("a", 1<<20),
	}
}

// allStrings returns all strings of at most most bytes of an alphabet.
func allStrings(alphabet string, most int) []string {
	all := []string{""}
	for from, n := 0, 0; n < most; n++ {
		to := len(all)
		for _, s := range all[from:to] {
			for i := range len(alphabet) {
				all = append(all, s+alphabet[i:i+1])
			}
		}
		from = to
	}
	return all
}

func TestFormatAndParseRoundTrip(t *testing.T) {
	for n := -impl.MaxDecimal; n <= impl.MaxDecimal; n++ {
		s, ok := impl.FormatInt(n)
		if !ok || s != strconv.Itoa(n) {
			t.Fatalf("FormatInt(%d) = %q, %v", n, s, ok)
		}
		if m, ok := impl.ParseInt(s); !ok || m != n {
			t.Fatalf("ParseInt(%q) = %d, %v", s, m, ok)
		}
	}
}

func TestFormatIntOutOfRange(t *testing.T) {
	for _, n := range []int{impl.MaxDecimal + 1, -impl.MaxDecimal - 1, math.MaxInt, math.MinInt, 1 << 32, -1 << 32} {
		if s, ok := impl.FormatInt(n); ok || s != "" {
			t.Errorf("FormatInt(%d) = %q, %v", n, s, ok)
		}
	}
}

func TestParseIntRefusesOtherTexts(t *testing.T) {
	for _, s := range []string{
		"", "-", "+", "+1", "-0", "--1", "-+1", "00", "01", "-01", "0001", "1-", "1 ", " 1", "1\n",
		"1_0", "0x1", "1e3", "1.0", "1000000", "-1000000", "9999990", "9223372036854775807",
		"9223372036854775808", "-9223372036854775808", "18446744073709551616", "18446744073709551617",
		"36893488147419103233", "\x001", "1\x00", "\u0661", "\uff11", "a", "1a", "a1",
		strings.Repeat("0", 5000), strings.Repeat("9", 5000), strings.Repeat("-", 5000),
		"1" + strings.Repeat("0", 64), "-1" + strings.Repeat("0", 64),
	} {
		if n, ok := impl.ParseInt(s); ok || n != 0 {
			t.Errorf("ParseInt(%q) = %d, %v", s, n, ok)
		}
	}
}

func TestParseIntTakesJustWhatFormatIntWrites(t *testing.T) {
	for _, s := range allStrings("019-+ a", 5) {
		want, err := strconv.Atoi(s)
		fine := err == nil && strconv.Itoa(want) == s
		if !fine {
			want = 0
		}
		if n, ok := impl.ParseInt(s); ok != fine || n != want {
			t.Fatalf("ParseInt(%q) = %d, %v", s, n, ok)
		}
	}
}

func TestSplitString(t *testing.T) {
	for _, c := range []struct {
		s, sep string
		want   []string
	}{
		{"a,,b", ",", []string{"a", "", "b"}},
		{"", ",", []string{""}},
		{",", ",", []string{"", ""}},
		{"ab", ",", []string{"ab"}},
		{",a,", ",", []string{"", "a", ""}},
		{"a,b;c", ";", []string{"a,b", "c"}},
		{"a\x00b", "\x00", []string{"a", "b"}},
		{"a\nb\n", "\n", []string{"a", "b", ""}},
		{"\xfe\xff\xfe", "\xff", []string{"\xfe", "\xfe"}},
		{"é", "\xc3", []string{"", "\xa9"}},
		{"é", "\xa9", []string{"\xc3", ""}},
	} {
		if got, ok := impl.SplitString(c.s, c.sep); !ok || !slices.Equal(got, c.want) {
			t.Errorf("SplitString(%q, %q) = %q, %v", c.s, c.sep, got, ok)
		}
	}
}

func TestSplitStringLimits(t *testing.T) {
	for _, fill := range []string{"a", ",", "\xff"} {
		s := strings.Repeat(fill, impl.MaxString)
		want := strings.Split(s, ",")
		if got, ok := impl.SplitString(s, ","); !ok || !slices.Equal(got, want) {
			t.Errorf("longest text of %q: %d elements, %v", fill, len(got), ok)
		}
		if got, ok := impl.SplitString(s+fill, ","); ok || len(got) != 0 {
			t.Errorf("too long a text of %q: %d elements, %v", fill, len(got), ok)
		}
	}
	for _, sep := range []string{"", ",,", ",;", "é", strings.Repeat(",", 5000)} {
		for _, s := range []string{"", "a", "a,b", "é", sep} {
			if got, ok := impl.SplitString(s, sep); ok || len(got) != 0 {
				t.Errorf("SplitString(%q, %q) = %q, %v", s, sep, got, ok)
			}
		}
	}
}

func TestSplitResultsAreApart(t *testing.T) {
	a, _ := impl.SplitString("a,b", ",")
	a[0] = "changed"
	_ = append(a[:1], "changed, too")
	if b, ok := impl.SplitString("a,b", ","); !ok || !slices.Equal(b, []string{"a", "b"}) {
		t.Error("a changed result changed another one", b)
	}
}

func TestJoinStrings(t *testing.T) {
	for _, c := range []struct {
		parts []string
		sep   string
		want  string
	}{
		{[]string{"a", "", "b"}, ";", "a;;b"},
		{[]string{""}, ";", ""},
		{[]string{"", ""}, ";", ";"},
		{[]string{"a"}, ";", "a"},
		{[]string{"a,b", "c"}, ";", "a,b;c"},
		{[]string{"a", "a", "a"}, "\x00", "a\x00a\x00a"},
		{[]string{"\xfe", "\xfe"}, "\xff", "\xfe\xff\xfe"},
		{[]string{"", "\xa9"}, "\xc3", "é"},
	} {
		if got, ok := impl.JoinStrings(c.parts, c.sep); !ok || got != c.want {
			t.Errorf("JoinStrings(%q, %q) = %q, %v", c.parts, c.sep, got, ok)
		}
	}
}

func TestJoinStringsRefuses(t *testing.T) {
	for _, c := range []struct {
		parts []string
		sep   string
	}{
		{nil, ";"},
		{[]string{}, ";"},
		{[]string{"a", "b"}, ""},
		{[]string{"a"}, ""},
		{[]string{"a", "b"}, ";;"},
		{[]string{"a", "b"}, "é"},
		{[]string{";"}, ";"},
		{[]string{"a;b"}, ";"},
		{[]string{";a", "b"}, ";"},
		{[]string{"a", "b", "c;"}, ";"},
		{[]string{"a", "é"}, "\xc3"},
		{[]string{"a", "é"}, "\xa9"},
		{[]string{"\xff"}, "\xff"},
		{[]string{"\x00"}, "\x00"},
	} {
		if got, ok := impl.JoinStrings(c.parts, c.sep); ok || got != "" {
			t.Errorf("JoinStrings(%q, %q) = %q, %v", c.parts, c.sep, got, ok)
		}
	}
}

func TestJoinStringsLimits(t *testing.T) {
	long := strings.Repeat("a", impl.MaxString)
	half := long[:impl.MaxString/2]
	for _, parts := range [][]string{
		{long}, {half, half[1:]}, {half[1:], half}, {long[1:], ""}, {"", long[1:]}, {long[3:], "", "b"},
		make([]string, impl.MaxString+1),
	} {
		want := strings.Join(parts, ";")
		if got, ok := impl.JoinStrings(parts, ";"); !ok || got != want || len(got) != impl.MaxString {
			t.Errorf("%d elements: %d bytes, %v", len(parts), len(got), ok)
		}
	}
	for _, parts := range [][]string{
		{long + "a"}, {half, half}, {long, ""}, {"", long}, {long[2:], "", "b"}, {long, long},
		{strings.Repeat("a", 1<<20)}, make([]string, impl.MaxString+2), make([]string, 1<<20),
	} {
		if got, ok := impl.JoinStrings(parts, ";"); ok || got != "" {
			t.Errorf("%d elements, too long: %d bytes, %v", len(parts), len(got), ok)
		}
	}
}

func TestSplitAndJoinRoundTrip(t *testing.T) {
	for _, sep := range []string{",", "a", "\xff"} {
		for _, s := range append(oddStrings(), allStrings(",a\xff", 5)...) {
			parts, ok := impl.SplitString(s, sep)
			if !ok {
				if len(s) <= impl.MaxString {
					t.Fatalf("SplitString(%q, %q) fails", s, sep)
				}
				continue
			}
			if len(parts) != strings.Count(s, sep)+1 {
				t.Fatalf("SplitString(%q, %q) = %q", s, sep, parts)
			}
			if back, ok := impl.JoinStrings(parts, sep); !ok || back != s {
				t.Fatalf("JoinStrings(%q, %q) = %q, %v", parts, sep, back, ok)
			}
		}
	}
}

func TestLessString(t *testing.T) {
	all := allStrings("\x00a\x7f\x80\xff", 3)
	for _, a := range all {
		for _, b := range all {
			want := slices.Compare([]byte(a), []byte(b)) < 0
			if got := impl.LessString(a, b); got != want {
				t.Fatalf("LessString(%q, %q) = %v", a, b, got)
			}
		}
	}
	long := strings.Repeat("a", 2*impl.MaxString)
	if !impl.LessString(long, long+"a") || impl.LessString(long+"a", long) || impl.LessString(long, long) {
		t.Error("long strings")
	}
	if !impl.LessString("10", "9") || impl.LessString("a", "Z") {
		t.Error("bytes are compared, neither numbers nor letters")
	}
}

// sumOf computes the checksum in one polynomial of whole numbers, reduced at the end.
func sumOf(s string) int {
	h := big.NewInt(7)
	for i := range len(s) {
		h.Mul(h, big.NewInt(41))
		h.Add(h, big.NewInt(int64(s[i])+1))
	}
	return int(h.Mod(h, big.NewInt(999979)).Int64())
}

func TestChecksum(t *testing.T) {
	if n, ok := impl.Checksum("a"); !ok || n != 385 {
		t.Error("example", n, ok)
	}
	if n, ok := impl.Checksum(""); !ok || n != 7 {
		t.Error("empty string", n, ok)
	}
	for _, s := range append(oddStrings(), allStrings("\x00#a\xff", 4)...) {
		n, ok := impl.Checksum(s)
		if len(s) > impl.MaxString {
			if ok || n != 0 {
				t.Errorf("%d bytes: %d, %v", len(s), n, ok)
			}
			continue
		}
		if !ok || n != sumOf(s) {
			t.Errorf("Checksum(%.20q) = %d, %v, not %d", s, n, ok, sumOf(s))
		}
	}
}

func TestChecksumLimits(t *testing.T) {
	for _, fill := range []string{"\x00", "a", "\xff"} {
		s := strings.Repeat(fill, impl.MaxString)
		if n, ok := impl.Checksum(s); !ok || n != sumOf(s) {
			t.Errorf("longest of %q: %d, %v", fill, n, ok)
		}
		if n, ok := impl.Checksum(s + fill); ok || n != 0 {
			t.Errorf("too long of %q: %d, %v", fill, n, ok)
		}
	}
}

func TestAppendAndVerifyRoundTrip(t *testing.T) {
	for _, s := range append(oddStrings(), allStrings("0#7a\xff", 4)...) {
		want := s + "#" + strconv.Itoa(sumOf(s[:min(len(s), impl.MaxString)]))
		fits := !strings.Contains(s, "#") && len(want) <= impl.MaxString
		sealed, ok := impl.AppendChecksum(s)
		if !fits {
			if ok || sealed != "" {
				t.Errorf("AppendChecksum(%.20q) = %.20q, %v", s, sealed, ok)
			}
			continue
		}
		if !ok || sealed != want {
			t.Errorf("AppendChecksum(%.20q) = %.20q, %v", s, sealed, ok)
		}
		if back, ok := impl.VerifyChecksum(sealed); !ok || back != s {
			t.Errorf("VerifyChecksum(%.20q) = %.20q, %v", sealed, back, ok)
		}
	}
}

func TestAppendChecksumLimits(t *testing.T) {
	for n := impl.MaxString - 12; n <= impl.MaxString+2; n++ {
		for _, fill := range []string{"a", "b", "c", "\xff"} {
			s := strings.Repeat(fill, n)
			want, fits := "", false
			if n <= impl.MaxString {
				want = s + "#" + strconv.Itoa(sumOf(s))
				fits = len(want) <= impl.MaxString
			}
			if !fits {
				want = ""
			}
			sealed, ok := impl.AppendChecksum(s)
			if ok != fits || sealed != want {
				t.Errorf("%d bytes %q: %d bytes, %v", n, fill, len(sealed), ok)
			}
			if back, ok := impl.VerifyChecksum(sealed); ok != fits || fits && back != s {
				t.Errorf("%d bytes %q back: %d bytes, %v", n, fill, len(back), ok)
			}
		}
	}
}

func TestVerifyChecksumRefusesOtherTexts(t *testing.T) {
	long := strings.Repeat("a", impl.MaxString)
	for _, s := range []string{
		"", "a", "385", "#", "a#", "#385", "a#384", "a#386", "b#385", "a#0385", "a#+385", "a#-385",
		"a# 385", "a#385 ", "a#385\n", " a#385", "a#385#", "a##385", "a#385#1", "#a#385", "a#38", "a#3855",
		"a#1000364", "a#-999594", "#07", "#7#7", "##7", "a#\uff13\uff18\uff15",
		"a#b#" + strconv.Itoa(sumOf("a#b")), "#7#" + strconv.Itoa(sumOf("#7")),
		long, long + "#" + strconv.Itoa(sumOf(long)), long[1:] + "#" + strconv.Itoa(sumOf(long[1:])),
		strings.Repeat("#", 1<<20),
	} {
		if got, ok := impl.VerifyChecksum(s); ok || got != "" {
			t.Errorf("VerifyChecksum(%.40q) = %.40q, %v", s, got, ok)
		}
	}
}

func TestEachChangedByteIsDetected(t *testing.T) {
	for _, s := range []string{
		"", "a", "ab", "385", "hello, world", "\x00", "\x00\x00\x00", "\xff\xfe\x80", "0 new 8@0:0:8:8",
		strings.Repeat("\xff", 50), strings.Repeat("\x00", 50),
	} {
		sealed, ok := impl.AppendChecksum(s)
		if !ok {
			t.Fatalf("AppendChecksum(%q) fails", s)
		}
		changed := []byte(sealed)
		for i, old := range []byte(sealed) {
			for b := range 256 {
				if byte(b) == old {
					continue
				}
				changed[i] = byte(b)
				if got, ok := impl.VerifyChecksum(string(changed)); ok || got != "" {
					t.Fatalf("VerifyChecksum(%q) = %q, %v", changed, got, ok)
				}
			}
			changed[i] = old
		}
	}
}

func TestEachChangedByteOfALongStringIsDetected(t *testing.T) {
	sealed, ok := impl.AppendChecksum(strings.Repeat("window ", 570))
	if !ok || len(sealed) < impl.MaxString-10 {
		t.Fatal("no long string", len(sealed), ok)
	}
	changed := []byte(sealed)
	for i, old := range []byte(sealed) {
		for _, other := range []byte{old + 1, old - 1, old ^ 0x80, '#', '0', 0, 255} {
			if other == old {
				continue
			}
			changed[i] = other
			if got, ok := impl.VerifyChecksum(string(changed)); ok || got != "" {
				t.Fatalf("byte %d as %d: %.20q, %v", i, other, got, ok)
			}
		}
		changed[i] = old
	}
}

// TestChapter1ReturnsForAll calls each function with all pairs of odd strings, twice: each call
// returns, the second one as the first one did, and no list that is given is changed.
func TestChapter1ReturnsForAll(t *testing.T) {
	for _, n := range []int{0, 1, -1, math.MaxInt, math.MinInt, math.MaxInt32, math.MinInt32} {
		a, fine := impl.FormatInt(n)
		if b, ok := impl.FormatInt(n); a != b || fine != ok {
			t.Error("FormatInt", n)
		}
	}
	odd := oddStrings()
	for _, s := range odd {
		sameTwice(t, "ParseInt", s, impl.ParseInt)
		sameTwice(t, "Checksum", s, impl.Checksum)
		sameTwice(t, "AppendChecksum", s, impl.AppendChecksum)
		sameTwice(t, "VerifyChecksum", s, impl.VerifyChecksum)
		for _, other := range odd {
			if impl.LessString(s, other) != (s < other) {
				t.Errorf("LessString(%.20q, %.20q)", s, other)
			}
			a, fine := impl.SplitString(s, other)
			if b, ok := impl.SplitString(s, other); fine != ok || !slices.Equal(a, b) {
				t.Errorf("SplitString(%.20q, %.20q) twice", s, other)
			}
			if !fine && len(a) != 0 {
				t.Errorf("SplitString(%.20q, %.20q) fails with elements", s, other)
			}
			list := []string{s, other, s}
			text, fine := impl.JoinStrings(list[:2], other)
			if again, ok := impl.JoinStrings(list[:2], other); fine != ok || text != again || !fine && text != "" {
				t.Errorf("JoinStrings(%.20q, %.20q) twice", list[:2], other)
			}
			if !slices.Equal(list, []string{s, other, s}) {
				t.Errorf("JoinStrings changed its list to %.20q", list)
			}
		}
	}
}

// sameTwice checks that a function returns the same for one string again, and zero values if it fails.
func sameTwice[T comparable](t *testing.T, name string, s string, call func(string) (T, bool)) {
	t.Helper()
	var zero T
	a, fine := call(s)
	if b, ok := call(s); a != b || fine != ok || !fine && a != zero {
		t.Errorf("%s(%.20q)", name, s)
	}
}
