package tests

import (
	"math"
	"strconv"
	"strings"
	"testing"

	"loop.example/g02078/impl"
)

// Promise 1: each decoder is the inverse of its encoder.

func TestEncodeFixed(t *testing.T) {
	for _, c := range []struct {
		n, width int
		want     string
	}{
		{258, 2, "\x01\x02"},
		{0, 1, "\x00"},
		{0, 7, "\x00\x00\x00\x00\x00\x00\x00"},
		{1, 3, "\x00\x00\x01"},
		{255, 1, "\xff"},
		{256, 2, "\x01\x00"},
		{0x01020304050607, 7, "\x01\x02\x03\x04\x05\x06\x07"},
		{1<<56 - 1, 7, "\xff\xff\xff\xff\xff\xff\xff"},
	} {
		if got := impl.EncodeFixed(c.n, c.width); got != c.want {
			t.Errorf("EncodeFixed(%d, %d) = %q, want %q", c.n, c.width, got, c.want)
		}
	}
}

func TestEncodeFixedInvalid(t *testing.T) {
	for _, width := range []int{math.MinInt, -1, 0, 8, 9, 64, math.MaxInt} {
		for _, n := range []int{0, 1, 258} {
			if got := impl.EncodeFixed(n, width); got != "" {
				t.Errorf("EncodeFixed(%d, %d) = %q, want no bytes", n, width, got)
			}
		}
	}
	for width := 1; width <= 7; width++ {
		for _, n := range []int{math.MinInt, -256, -1, 1 << (8 * width), math.MaxInt} {
			if got := impl.EncodeFixed(n, width); got != "" {
				t.Errorf("EncodeFixed(%d, %d) = %q, want no bytes", n, width, got)
			}
		}
	}
}

func TestFixedNumbersComeBack(t *testing.T) {
	for width := 1; width <= 7; width++ {
		limit := 1 << (8 * width)
		for _, n := range []int{0, 1, 127, 128, 255, limit / 3, limit / 2, limit - 2, limit - 1} {
			s := impl.EncodeFixed(n, width)
			if len(s) != width {
				t.Errorf("EncodeFixed(%d, %d) has %d bytes", n, width, len(s))
			}
			if got, ok := impl.DecodeFixed(s, width); got != n || !ok {
				t.Errorf("DecodeFixed(%q, %d) = %d, %v, want %d", s, width, got, ok, n)
			}
		}
	}
}

func TestFixedBytesComeBack(t *testing.T) {
	for i := range 1 << 16 {
		s := string([]byte{byte(i >> 8), byte(i)})
		n, ok := impl.DecodeFixed(s, 2)
		if n != i || !ok || impl.EncodeFixed(n, 2) != s {
			t.Fatalf("DecodeFixed(%q, 2) = %d, %v", s, n, ok)
		}
	}
}

func TestDecodeFixed(t *testing.T) {
	for _, c := range []struct {
		s     string
		width int
		n     int
		ok    bool
	}{
		{"\x01\x02\x03", 2, 258, true},
		{"\x01\x02\x03", 3, 66051, true},
		{"\xff\xff\xff\xff\xff\xff\xff\x01", 7, 1<<56 - 1, true},
		{"\x00rest", 1, 0, true},
		{"\x01\x02\x03", 4, 0, false},
		{"a", 2, 0, false},
		{"\x01\x02\x03\x04\x05\x06", 7, 0, false},
		{"", 1, 0, false},
		{"", 0, 0, false},
		{"abc", 0, 0, false},
		{"abc", -1, 0, false},
		{"abc", math.MinInt, 0, false},
		{"abc", math.MaxInt, 0, false},
		{"abcdefghij", 8, 0, false},
	} {
		if n, ok := impl.DecodeFixed(c.s, c.width); n != c.n || ok != c.ok {
			t.Errorf("DecodeFixed(%q, %d) = %d, %v, want %d, %v", c.s, c.width, n, ok, c.n, c.ok)
		}
	}
}

func TestEncodeVarint(t *testing.T) {
	if impl.MaxVarint != 562949953421311 {
		t.Error("MaxVarint", impl.MaxVarint)
	}
	for _, c := range []struct {
		n    int
		want string
	}{
		{0, "\x00"},
		{1, "\x01"},
		{127, "\x7f"},
		{128, "\x80\x01"},
		{300, "\xac\x02"},
		{16383, "\xff\x7f"},
		{16384, "\x80\x80\x01"},
		{impl.MaxVarint, "\xff\xff\xff\xff\xff\xff\x7f"},
		{impl.MaxVarint + 1, ""},
		{math.MaxInt, ""},
		{-1, ""},
		{-300, ""},
		{math.MinInt, ""},
	} {
		if got := impl.EncodeVarint(c.n); got != c.want {
			t.Errorf("EncodeVarint(%d) = %q, want %q", c.n, got, c.want)
		}
	}
}

func TestVarintNumbersComeBack(t *testing.T) {
	numbers := []int{0, 5, 300, 123456789, impl.MaxVarint / 3}
	for bits := 7; bits <= 49; bits += 7 {
		numbers = append(numbers, 1<<bits-2, 1<<bits-1)
		if bits < 49 {
			numbers = append(numbers, 1<<bits, 1<<bits+1)
		}
	}
	for _, n := range numbers {
		s := impl.EncodeVarint(n)
		for _, rest := range []string{"", "\x00", "\x7f", "\x80", "\xff\xff"} {
			if got, size := impl.DecodeVarint(s + rest); got != n || size != len(s) {
				t.Errorf("DecodeVarint(%q) = %d, %d, want %d, %d", s+rest, got, size, n, len(s))
			}
		}
	}
}

func TestDecodeVarintInvalid(t *testing.T) {
	for _, s := range []string{
		"",
		"\x80", "\xff", "\xff\xff\xff\xff\xff\xff",
		"\x80\x80\x80\x80\x80\x80\x80\x01",
		"\xff\xff\xff\xff\xff\xff\xff\x7f",
		"\xff\xff\xff\xff\xff\xff\xff\x00",
		"\xff\xff\xff\xff\xff\xff\xff\xff\xff\xff\xff\x01",
		strings.Repeat("\x80", 100),
	} {
		if n, size := impl.DecodeVarint(s); n != 0 || size != 0 {
			t.Errorf("DecodeVarint(%q) = %d, %d, want 0, 0", s, n, size)
		}
	}
}

func TestDecodeVarintUnnecessaryBytes(t *testing.T) {
	for _, s := range []string{
		"\x80\x00", "\x81\x00", "\xff\x00", "\xac\x82\x00", "\x80\x80\x00",
		"\xff\xff\xff\xff\xff\xff\x00", "\x80\x80\x80\x80\x80\x80\x80\x00",
		"\x80\x00\x01", "\x80\x00z",
	} {
		if n, size := impl.DecodeVarint(s); n != 0 || size != 0 {
			t.Errorf("DecodeVarint(%q) = %d, %d, want 0, 0", s, n, size)
		}
	}
}

// Among all strings of two bytes, exactly those that begin with a varint are accepted.
func TestDecodeVarintTwoBytes(t *testing.T) {
	numbers := map[string]int{}
	for n := range 1 << 14 {
		numbers[impl.EncodeVarint(n)] = n
	}
	if len(numbers) != 1<<14 {
		t.Fatal("two numbers have the same varint")
	}
	for i := range 1 << 16 {
		s := string([]byte{byte(i >> 8), byte(i)})
		wantN, wantSize := 0, 0
		for k := 1; k <= 2; k++ {
			if n, ok := numbers[s[:k]]; ok {
				wantN, wantSize = n, k
			}
		}
		if n, k := impl.DecodeVarint(s); n != wantN || k != wantSize {
			t.Fatalf("DecodeVarint(%q) = %d, %d, want %d, %d", s, n, k, wantN, wantSize)
		}
	}
}

func TestEncodeHex(t *testing.T) {
	for _, c := range []struct{ s, want string }{
		{"", ""},
		{"a\xff", "61ff"},
		{"\x00\x0f\xf0", "000ff0"},
		{"\x9a\xbc\xde", "9abcde"},
		{"\u00e9", "c3a9"},
		{"\xed\xa0\x80", "eda080"},
	} {
		if got := impl.EncodeHex(c.s); got != c.want {
			t.Errorf("EncodeHex(%q) = %q, want %q", c.s, got, c.want)
		}
	}
}

func TestHexComesBack(t *testing.T) {
	for i := range 1 << 16 {
		s := string([]byte{byte(i >> 8), byte(i)})
		h := impl.EncodeHex(s)
		if got, ok := impl.DecodeHex(h); got != s || !ok || len(h) != 4 {
			t.Fatalf("DecodeHex(%q) = %q, %v, want %q", h, got, ok, s)
		}
	}
	long := strings.Repeat("rigid\x00\xff", 1000)
	if got, ok := impl.DecodeHex(impl.EncodeHex(long)); got != long || !ok {
		t.Error("a long string does not come back")
	}
	if got, ok := impl.DecodeHex(""); got != "" || !ok {
		t.Errorf("DecodeHex of nothing = %q, %v", got, ok)
	}
}

// Among all strings of two bytes, exactly the formats of one byte are accepted.
func TestDecodeHexTwoBytes(t *testing.T) {
	bytes := map[string]string{}
	for i := range 1 << 8 {
		bytes[impl.EncodeHex(string([]byte{byte(i)}))] = string([]byte{byte(i)})
	}
	for i := range 1 << 16 {
		s := string([]byte{byte(i >> 8), byte(i)})
		want, wantOk := bytes[s]
		if got, ok := impl.DecodeHex(s); got != want || ok != wantOk {
			t.Fatalf("DecodeHex(%q) = %q, %v, want %q, %v", s, got, ok, want, wantOk)
		}
	}
}

func TestDecodeHexInvalid(t *testing.T) {
	for _, s := range []string{
		"6", "616", "6F", "AB", "0x61", "6g", "g6", " 61", "61 ", "6 1",
		"61\n ", "616f6/", "616f:6", "616`", "61@0", "61-1",
		"\xff\xfe", "61\xff\xff", "\u00e9", "\ufffd1", "61\ufffd0", "\uff11\uff11", "\u0661",
		"6\u00e91", "61\x00\x00",
	} {
		if got, ok := impl.DecodeHex(s); got != "" || ok {
			t.Errorf("DecodeHex(%q) = %q, %v, want nothing", s, got, ok)
		}
	}
}

func TestFormatInt(t *testing.T) {
	for _, c := range []struct {
		n    int
		want string
	}{
		{0, "0"},
		{7, "7"},
		{-7, "-7"},
		{10, "10"},
		{-120, "-120"},
		{1000000000, "1000000000"},
		{math.MaxInt, "9223372036854775807"},
		{math.MinInt, "-9223372036854775808"},
	} {
		if got := impl.FormatInt(c.n); got != c.want {
			t.Errorf("FormatInt(%d) = %q, want %q", c.n, got, c.want)
		}
	}
}

func TestDecimalNumbersComeBack(t *testing.T) {
	numbers := []int{999999999, 999999998, 100000000, 99999999, 123456789}
	for n := range 2000 {
		numbers = append(numbers, n)
	}
	for _, n := range numbers {
		for _, signed := range []int{n, -n} {
			s := impl.FormatInt(signed)
			if got, ok := impl.ParseInt(s); got != signed || !ok {
				t.Errorf("ParseInt(%q) = %d, %v, want %d", s, got, ok, signed)
			}
		}
	}
}

func TestParseIntInvalid(t *testing.T) {
	for _, s := range []string{
		"", "-", "--1", "-0", "-00", "00", "01", "07", "-07", "000000001",
		"+1", "+0", "1-", "1-1", " 1", "1 ", "-1 ", "- 1", "1\n", "1\x00", "1_000", "0x1", "1e3", "1.0", "a", "12a",
		"1/", "1:", "1000000000", "-1000000000", "0000000001", "9223372036854775807", "-9223372036854775808",
		"18446744073709551617", strings.Repeat("1", 1000),
		"\u0663", "1\u0663", "\uff11", "\xff", "1\xff", "\u22121",
	} {
		if n, ok := impl.ParseInt(s); n != 0 || ok {
			t.Errorf("ParseInt(%q) = %d, %v, want 0, false", s, n, ok)
		}
	}
}

// Among all strings of up to five of these bytes, exactly the formats are accepted.
func TestParseIntShortStrings(t *testing.T) {
	const bytes = "-+019 a\xff"
	var check func(s string)
	check = func(s string) {
		want, err := strconv.Atoi(s)
		wantOk := err == nil && strconv.Itoa(want) == s
		if !wantOk {
			want = 0
		}
		if n, ok := impl.ParseInt(s); n != want || ok != wantOk {
			t.Errorf("ParseInt(%q) = %d, %v, want %d, %v", s, n, ok, want, wantOk)
		}
		if len(s) < 5 {
			for i := range len(bytes) {
				check(s + bytes[i:i+1])
			}
		}
	}
	check("")
}
