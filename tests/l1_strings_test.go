package tests

import (
	"bytes"
	"math"
	"math/big"
	"slices"
	"strconv"
	"strings"
	"testing"

	"loop.example/g01215/impl"
)

// textsOver returns all texts of at most most bytes of an alphabet.
func textsOver(alphabet string, most int) []string {
	all := []string{""}
	last := all
	for range most {
		var longer []string
		for _, s := range last {
			for i := range len(alphabet) {
				longer = append(longer, s+alphabet[i:i+1])
			}
		}
		all = append(all, longer...)
		last = longer
	}
	return all
}

// everyByte is a text with each byte once.
func everyByte() string {
	b := make([]byte, 256)
	for i := range b {
		b[i] = byte(i)
	}
	return string(b)
}

func TestFormatIntAndParseIntRoundTrip(t *testing.T) {
	for n := -impl.MaxDecimal; n <= impl.MaxDecimal; n++ {
		s, ok := impl.FormatInt(n)
		if !ok || s != strconv.Itoa(n) {
			t.Fatalf("FormatInt(%d) = %q, %v", n, s, ok)
		}
		if m, ok := impl.ParseInt(s); !ok || m != n {
			t.Fatalf("ParseInt(%q) = %d, %v", s, m, ok)
		}
	}
}

func TestFormatIntExamples(t *testing.T) {
	for _, c := range []struct {
		n    int
		want string
	}{{-12, "-12"}, {0, "0"}, {-1, "-1"}, {10, "10"}, {999999, "999999"}, {-999999, "-999999"}} {
		if s, ok := impl.FormatInt(c.n); !ok || s != c.want {
			t.Errorf("FormatInt(%d) = %q, %v", c.n, s, ok)
		}
	}
}

func TestFormatIntBeyondTheBounds(t *testing.T) {
	for _, n := range []int{impl.MaxDecimal + 1, -impl.MaxDecimal - 1, 1 << 32, -1 << 32, math.MaxInt, math.MinInt} {
		if s, ok := impl.FormatInt(n); ok || s != "" {
			t.Errorf("FormatInt(%d) = %q, %v", n, s, ok)
		}
	}
}

func TestParseIntRejectsOtherTexts(t *testing.T) {
	texts := []string{
		"", "-", "+", "--", "-0", "+0", "00", "01", "-01", "0000001", "-00", "+1", "+12", "--1", "-+1",
		" 1", "1 ", "1\n", "\t1", "1\x00", "\x001", "1.0", "1.", "1e3", "0x1", "0b1", "0o1", "1_000", "1,000", "1x", "x", "a",
		"1000000", "-1000000", "4294967297", "9223372036854775807", "9223372036854775808", "-9223372036854775808",
		"18446744073709551617", "\u0661", "\uff11", "\u22121", "\xff", "1\xff",
		strings.Repeat("0", 5000), strings.Repeat("1", 5000), "-" + strings.Repeat("9", 5000), strings.Repeat("0", 30) + "1",
	}
	for _, s := range texts {
		if n, ok := impl.ParseInt(s); ok || n != 0 {
			t.Errorf("ParseInt(%q) = %d, %v", s, n, ok)
		}
	}
}

func TestParseIntAcceptsWhatFormatIntWrites(t *testing.T) {
	written := map[string]int{}
	for n := -9999; n <= 9999; n++ {
		written[strconv.Itoa(n)] = n
	}
	for _, s := range textsOver("-+0129 _", 4) {
		want, fine := written[s]
		if n, ok := impl.ParseInt(s); ok != fine || n != want {
			t.Errorf("ParseInt(%q) = %d, %v", s, n, ok)
		}
	}
}

func TestSplitStringExamples(t *testing.T) {
	for _, c := range []struct {
		s, sep string
		want   []string
	}{
		{"a,,b", ",", []string{"a", "", "b"}},
		{"", ",", []string{""}},
		{",", ",", []string{"", ""}},
		{",a,", ",", []string{"", "a", ""}},
		{"a,b", ";", []string{"a,b"}},
		{"a\x00b", "\x00", []string{"a", "b"}},
		{"a\xffb\xfe", "\xff", []string{"a", "b\xfe"}},
		{"\u00e9", "\xc3", []string{"", "\xa9"}},
		{"one\ntwo\n", "\n", []string{"one", "two", ""}},
	} {
		if got, ok := impl.SplitString(c.s, c.sep); !ok || !slices.Equal(got, c.want) {
			t.Errorf("SplitString(%q, %q) = %q, %v", c.s, c.sep, got, ok)
		}
		if s, ok := impl.JoinStrings(c.want, c.sep); !ok || s != c.s {
			t.Errorf("JoinStrings(%q, %q) = %q, %v", c.want, c.sep, s, ok)
		}
	}
}

func TestSplitStringAndJoinStringsRoundTrip(t *testing.T) {
	for _, s := range textsOver("a,;\xff", 6) {
		for _, sep := range []string{",", ";", "\xff", "a", "b"} {
			parts, ok := impl.SplitString(s, sep)
			if !ok || !slices.Equal(parts, strings.Split(s, sep)) {
				t.Fatalf("SplitString(%q, %q) = %q, %v", s, sep, parts, ok)
			}
			if len(parts) != strings.Count(s, sep)+1 {
				t.Fatalf("SplitString(%q, %q) has %d elements", s, sep, len(parts))
			}
			if joined, ok := impl.JoinStrings(parts, sep); !ok || joined != s {
				t.Fatalf("JoinStrings(%q, %q) = %q, %v", parts, sep, joined, ok)
			}
		}
	}
}

func TestJoinStringsAndSplitStringRoundTrip(t *testing.T) {
	elements := textsOver("ab,", 2)
	for _, x := range elements {
		for _, y := range elements {
			for _, parts := range [][]string{{x}, {x, y}, {"", x, y}, {y, x, ""}} {
				want := strings.Join(parts, ",")
				fine := strings.Count(want, ",") == len(parts)-1
				if !fine {
					want = ""
				}
				s, ok := impl.JoinStrings(parts, ",")
				if ok != fine || s != want {
					t.Fatalf("JoinStrings(%q) = %q, %v", parts, s, ok)
				}
				if back, split := impl.SplitString(s, ","); ok && (!split || !slices.Equal(back, parts)) {
					t.Fatalf("SplitString(%q) = %q, %v", s, back, split)
				}
			}
		}
	}
}

func TestSplitStringOfTheGreatestLength(t *testing.T) {
	for _, fill := range []string{"a", ","} {
		s := strings.Repeat(fill, impl.MaxString)
		parts, ok := impl.SplitString(s, ",")
		if !ok || len(parts) != strings.Count(s, ",")+1 {
			t.Errorf("%q: %d elements, %v", fill, len(parts), ok)
		}
		if joined, ok := impl.JoinStrings(parts, ","); !ok || joined != s {
			t.Errorf("%q: joined to %d bytes, %v", fill, len(joined), ok)
		}
		if parts, ok := impl.SplitString(s+fill, ","); ok || len(parts) != 0 {
			t.Errorf("%q, one byte more: %d elements, %v", fill, len(parts), ok)
		}
	}
}

func TestSplitStringRejectsSeparators(t *testing.T) {
	for _, sep := range []string{"", ",,", "ab", "\u00e9", strings.Repeat(",", 300)} {
		for _, s := range []string{"", "a", "a,b", "a,,b", "\u00e9"} {
			if parts, ok := impl.SplitString(s, sep); ok || len(parts) != 0 {
				t.Errorf("SplitString(%q, %q) = %q, %v", s, sep, parts, ok)
			}
		}
	}
}

func TestJoinStringsRejects(t *testing.T) {
	for _, c := range []struct {
		parts []string
		sep   string
	}{
		{nil, ","},
		{[]string{}, ","},
		{nil, ""},
		{[]string{"a", "b"}, ""},
		{[]string{"a", "b"}, ",,"},
		{[]string{"a"}, "\u00e9"},
		{[]string{""}, ""},
		{[]string{","}, ","},
		{[]string{"a,b"}, ","},
		{[]string{",a", "b", "c"}, ","},
		{[]string{"a", "b,", "c"}, ","},
		{[]string{"a", "b", "cd,"}, ","},
		{[]string{"a\xff"}, "\xff"},
	} {
		if s, ok := impl.JoinStrings(c.parts, c.sep); ok || s != "" {
			t.Errorf("JoinStrings(%q, %q) = %q, %v", c.parts, c.sep, s, ok)
		}
	}
}

func TestJoinStringsOfTheGreatestLength(t *testing.T) {
	long := strings.Repeat("a", impl.MaxString-2)
	for _, c := range []struct {
		parts []string
		fine  bool
	}{
		{[]string{long + "bb"}, true},
		{[]string{long + "bbb"}, false},
		{[]string{long, "b"}, true},
		{[]string{"b", long}, true},
		{[]string{"", long, ""}, true},
		{[]string{long, "bb"}, false},
		{[]string{long, "", "", ""}, false},
		{[]string{long, long}, false},
		{make([]string, impl.MaxString+1), true},
		{make([]string, impl.MaxString+2), false},
		{make([]string, 1<<20), false},
		{slices.Repeat([]string{strings.Repeat("a", 1<<20)}, 100), false},
	} {
		want := ""
		if c.fine {
			want = strings.Join(c.parts, ",")
		}
		if s, ok := impl.JoinStrings(c.parts, ","); ok != c.fine || s != want {
			t.Errorf("%d elements: %d bytes, %v", len(c.parts), len(s), ok)
		}
	}
}

func TestLessString(t *testing.T) {
	texts := append(textsOver("ab\x00\x7f\x80\xff", 3), "\u00e9", "z", "Z", "aaaa", "aaab")
	for _, a := range texts {
		for _, b := range texts {
			want := bytes.Compare([]byte(a), []byte(b)) < 0
			if got := impl.LessString(a, b); got != want {
				t.Fatalf("LessString(%q, %q) = %v", a, b, got)
			}
		}
	}
}

// sumOf is the checksum as a polynomial in the factor, reduced once.
func sumOf(s string) int {
	factor, sum := big.NewInt(41), big.NewInt(7)
	for i := range len(s) {
		sum.Mul(sum, factor)
		sum.Add(sum, big.NewInt(int64(s[i])+1))
	}
	return int(sum.Mod(sum, big.NewInt(999979)).Int64())
}

func TestChecksum(t *testing.T) {
	for s, want := range map[string]int{"": 7, "a": 385, "ab": 15884, "\x00": 288, "\xff": 543, "#": 323} {
		if n, ok := impl.Checksum(s); !ok || n != want {
			t.Errorf("Checksum(%q) = %d, %v", s, n, ok)
		}
	}
	for _, s := range []string{"abc", "hello", "a#b", everyByte(), strings.Repeat("\xff", 300), strings.Repeat("z", impl.MaxString)} {
		if n, ok := impl.Checksum(s); !ok || n != sumOf(s) {
			t.Errorf("Checksum of %d bytes = %d, %v", len(s), n, ok)
		}
	}
	for _, size := range []int{impl.MaxString + 1, impl.MaxString + 2, 1 << 20} {
		if n, ok := impl.Checksum(strings.Repeat("a", size)); ok || n != 0 {
			t.Errorf("Checksum of %d bytes = %d, %v", size, n, ok)
		}
	}
}

func TestAppendChecksum(t *testing.T) {
	for s, want := range map[string]string{"": "#7", "a": "a#385", "ab": "ab#15884", "\xff": "\xff#543", "\n": "\n#298"} {
		if got, ok := impl.AppendChecksum(s); !ok || got != want {
			t.Errorf("AppendChecksum(%q) = %q, %v", s, got, ok)
		}
		if back, ok := impl.VerifyChecksum(want); !ok || back != s {
			t.Errorf("VerifyChecksum(%q) = %q, %v", want, back, ok)
		}
	}
	for _, s := range []string{"#", "#a", "a#", "a#b", "##", "a#385", strings.Repeat("a", 100) + "#"} {
		if got, ok := impl.AppendChecksum(s); ok || got != "" {
			t.Errorf("AppendChecksum(%q) = %q, %v", s, got, ok)
		}
	}
}

func TestAppendChecksumAtTheGreatestLength(t *testing.T) {
	seen := map[int]bool{}
	for _, fill := range []string{"a", "b", "\x00", "\xff"} {
		for size := impl.MaxString - 10; size <= impl.MaxString+2; size++ {
			s := strings.Repeat(fill, size)
			want := s + "#" + strconv.Itoa(sumOf(s))
			fine := len(want) <= impl.MaxString
			seen[len(want)] = true
			if !fine {
				want = ""
			}
			got, ok := impl.AppendChecksum(s)
			if ok != fine || got != want {
				t.Errorf("AppendChecksum of %d %q: %d bytes, %v", size, fill, len(got), ok)
			}
			if back, ok := impl.VerifyChecksum(got); fine && (!ok || back != s) {
				t.Errorf("VerifyChecksum of %d bytes: %d, %v", len(got), len(back), ok)
			}
		}
	}
	if !seen[impl.MaxString] || !seen[impl.MaxString+1] {
		t.Error("the greatest length, or one more, has not been met")
	}
}

func TestVerifyChecksumRejects(t *testing.T) {
	texts := []string{
		"", "a", "#", "7", "##7", "#7#", "#07", "#+7", "#-7", "# 7", "#7 ", "#8", "#",
		"a#384", "a#386", "a#0385", "a#+385", "a#385 ", " a#385", "a#", "a#385#", "a#385#1", "a##385", "a385", "b#385",
		"a#1000364", "a#-999594", "#a#385", "a#b#385", "a#38\xb5", "a#385\n", "a#385\x00",
	}
	for _, size := range []int{impl.MaxString - 1, impl.MaxString, impl.MaxString + 1, 1 << 20} {
		s := strings.Repeat("a", size)
		texts = append(texts, s, s+"#"+strconv.Itoa(sumOf(s[:min(size, 5000)])))
	}
	for _, s := range texts {
		if got, ok := impl.VerifyChecksum(s); ok || got != "" {
			t.Errorf("VerifyChecksum(%.40q) = %.40q, %v", s, got, ok)
		}
	}
}

func TestVerifyChecksumRejectsMarkedText(t *testing.T) {
	for _, s := range []string{"#", "a#b", "a#385", "x#"} {
		sealed := s + "#" + strconv.Itoa(sumOf(s))
		if got, ok := impl.VerifyChecksum(sealed); ok || got != "" {
			t.Errorf("VerifyChecksum(%q) = %q, %v", sealed, got, ok)
		}
	}
}

func TestVerifyChecksumFindsAnyChangedByte(t *testing.T) {
	texts := []string{"", "a", "\x00", "\xff", "\x22", "\x24", "ab", "pour 1 2", "0 pour 1 2@3", strings.Repeat("z", 200),
		strings.ReplaceAll(everyByte(), "#", "")}
	for _, s := range texts {
		sealed, ok := impl.AppendChecksum(s)
		if !ok {
			t.Fatalf("AppendChecksum(%q) fails", s)
		}
		changed := []byte(sealed)
		for i := range changed {
			for range 255 {
				changed[i]++
				if got, ok := impl.VerifyChecksum(string(changed)); ok || got != "" {
					t.Fatalf("%q with the byte %d changed to %d: %q, %v", sealed, i, changed[i], got, ok)
				}
			}
			changed[i]++
		}
		if got, ok := impl.VerifyChecksum(string(changed)); !ok || got != s {
			t.Fatalf("%q as it was: %q, %v", sealed, got, ok)
		}
	}
}

func TestVerifyChecksumFindsChangedBytesOfLongTexts(t *testing.T) {
	s := strings.Repeat("pour 1 2;", 440)
	sealed, ok := impl.AppendChecksum(s)
	if got, fine := impl.VerifyChecksum(sealed); !ok || !fine || got != s {
		t.Fatal("the text is not taken back")
	}
	changed := []byte(sealed)
	for i := range changed {
		for _, other := range []byte{sealed[i] + 1, sealed[i] - 1, sealed[i] ^ 0x80, '#', '0'} {
			if other == sealed[i] {
				continue
			}
			changed[i] = other
			if got, ok := impl.VerifyChecksum(string(changed)); ok || got != "" {
				t.Fatalf("the byte %d changed to %d: %d bytes, %v", i, other, len(got), ok)
			}
		}
		changed[i] = sealed[i]
	}
}

func TestStringFunctionsKeepTheirArguments(t *testing.T) {
	for _, parts := range [][]string{{"a", "", "b"}, {"a,b", "c"}, {strings.Repeat("a", impl.MaxString), "b"}, {""}} {
		room := append(slices.Clone(parts), "beyond")
		impl.JoinStrings(room[:len(parts)], ",")
		if !slices.Equal(room, append(slices.Clone(parts), "beyond")) {
			t.Errorf("JoinStrings has changed %.40q", parts)
		}
	}
	first, _ := impl.SplitString("a,b,c", ",")
	first[0], first[2] = "x", "y"
	if again, ok := impl.SplitString("a,b,c", ","); !ok || !slices.Equal(again, []string{"a", "b", "c"}) {
		t.Errorf("SplitString shares its results: %q", again)
	}
}

func TestStringFunctionsReturnForAllArguments(t *testing.T) {
	texts := []string{"", "#", "#7", "a#385", "-", "-0", "12", ",", ",,", "\x00", "\xff\xfe", everyByte(),
		strings.Repeat(",", impl.MaxString+1), strings.Repeat("#", 1<<16), strings.Repeat("9", 1<<16)}
	for _, s := range texts {
		n, ok := impl.ParseInt(s)
		m, again := impl.ParseInt(s)
		if n != m || ok != again {
			t.Errorf("ParseInt(%.20q) has two results", s)
		}
		h, ok := impl.Checksum(s)
		if k, again := impl.Checksum(s); h != k || ok != again {
			t.Errorf("Checksum(%.20q) has two results", s)
		}
		checkTextTwice(t, s, impl.AppendChecksum)
		checkTextTwice(t, s, impl.VerifyChecksum)
		for _, sep := range texts {
			parts, ok := impl.SplitString(s, sep)
			if !ok && len(parts) != 0 {
				t.Errorf("SplitString(%.20q, %.20q) fails with elements", s, sep)
			}
			checkTextTwice(t, sep, func(sep string) (string, bool) { return impl.JoinStrings([]string{s, ""}, sep) })
			if impl.LessString(s, sep) && impl.LessString(sep, s) {
				t.Errorf("%.20q and %.20q are less than each other", s, sep)
			}
		}
	}
}

// checkTextTwice looks whether two calls are the same and whether a failure has no text.
func checkTextTwice(t *testing.T, s string, call func(string) (string, bool)) {
	t.Helper()
	first, ok := call(s)
	second, again := call(s)
	if first != second || ok != again || !ok && first != "" {
		t.Errorf("%.20q: %.20q, %v and %.20q, %v", s, first, ok, second, again)
	}
}
