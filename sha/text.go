package sha

import "strings"

const digits = "0123456789abcdef"

// Hex: in base sixteen.
func Hex(s string) string {
	var out strings.Builder
	out.Grow(2 * len(s))
	for i := range len(s) {
		out.WriteByte(digits[s[i]>>4])
		out.WriteByte(digits[s[i]&15])
	}
	return out.String()
}

// Parse: the text of such digits.
func Parse(s string) (string, bool) {
	if len(s)%2 != 0 {
		return "", false
	}
	out := make([]byte, 0, len(s)/2)
	for i := 0; i < len(s); i += 2 {
		high, fine := digit(s[i])
		low, also := digit(s[i+1])
		if !fine || !also {
			return "", false
		}
		out = append(out, high<<4|low)
	}
	return string(out), true
}

// digit: great letters are none, for Hex never writes them.
func digit(c byte) (byte, bool) {
	if c >= '0' && c <= '9' {
		return c - '0', true
	}
	if c >= 'a' && c <= 'f' {
		return c - 'a' + 10, true
	}
	return 0, false
}

// Counted: parts, each behind how long it is.
func Counted(parts ...string) string {
	var out strings.Builder
	for _, part := range parts {
		n := uint16(len(part))
		out.WriteByte(byte(n >> 8))
		out.WriteByte(byte(n))
		out.WriteString(part)
	}
	return out.String()
}
