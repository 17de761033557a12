package impl

import (
	"strconv"
	"strings"
)

// MaxVarint is the greatest number that the seven-bit groups of maxVarintBytes bytes hold.
const MaxVarint = 562949953421311

const maxVarintBytes = 7

const maxFixedWidth = 7

const maxParsedDigits = 9

const hexDigits = "0123456789abcdef"

// EncodeFixed returns n as width bytes, most significant byte first; the empty string if that is not possible.
func EncodeFixed(n int, width int) string {
	if !isFixedWidth(width) || n < 0 || n>>(8*width) != 0 {
		return ""
	}
	out := make([]byte, width)
	for i := range out {
		out[i] = byte(n >> (8 * (width - 1 - i)))
	}
	return string(out)
}

// DecodeFixed returns the number that the first width bytes of s encode.
func DecodeFixed(s string, width int) (int, bool) {
	if !isFixedWidth(width) || len(s) < width {
		return 0, false
	}
	n := 0
	for i := range width {
		n = n<<8 | int(s[i])
	}
	return n, true
}

func isFixedWidth(width int) bool {
	return width >= 1 && width <= maxFixedWidth
}

// EncodeVarint returns n as a LEB128 varint; the empty string if n is out of range.
func EncodeVarint(n int) string {
	if n < 0 || n > MaxVarint {
		return ""
	}
	out := make([]byte, 0, maxVarintBytes)
	for n >= 0x80 {
		out = append(out, byte(n)|0x80)
		n >>= 7
	}
	return string(append(out, byte(n)))
}

// DecodeVarint returns the number whose varint is a prefix of s and the length of that prefix; 0 and 0 if there is none.
func DecodeVarint(s string) (int, int) {
	n := 0
	for i := 0; i < len(s) && i < maxVarintBytes; i++ {
		n |= int(s[i]&0x7f) << (7 * i)
		if s[i] < 0x80 {
			// Encoding again shows whether there are more bytes than necessary.
			if EncodeVarint(n) != s[:i+1] {
				return 0, 0
			}
			return n, i + 1
		}
	}
	return 0, 0
}

// EncodeHex returns two lowercase hexadecimal digits for each byte of s.
func EncodeHex(s string) string {
	out := make([]byte, 0, 2*len(s))
	// By index, because a range over the string would give runes, not bytes.
	for i := 0; i < len(s); i++ {
		out = append(out, hexDigits[s[i]>>4], hexDigits[s[i]&0xf])
	}
	return string(out)
}

// DecodeHex returns the string for which EncodeHex returns s.
func DecodeHex(s string) (string, bool) {
	if len(s)%2 != 0 {
		return "", false
	}
	out := make([]byte, len(s)/2)
	// All digits have one byte, so i grows by one up to the first rune that is none.
	for i, r := range s {
		half := strings.IndexRune(hexDigits, r)
		if half < 0 {
			return "", false
		}
		out[i/2] = out[i/2]<<4 | byte(half)
	}
	return string(out), true
}

// FormatInt returns n in decimal.
func FormatInt(n int) string {
	return strconv.Itoa(n)
}

// ParseInt returns the number of at most maxParsedDigits digits that FormatInt formats as s.
func ParseInt(s string) (int, bool) {
	digits := strings.TrimPrefix(s, "-")
	if len(digits) > maxParsedDigits {
		return 0, false
	}
	n := 0
	for _, r := range digits {
		if !isDigit(r) {
			return 0, false
		}
		n = 10*n + int(r-'0')
	}
	if len(digits) < len(s) {
		n = -n
	}
	// Formatting again finds leading zeros, a negative zero and missing digits.
	if FormatInt(n) != s {
		return 0, false
	}
	return n, true
}

func isDigit(r rune) bool {
	return r >= '0' && r <= '9'
}
