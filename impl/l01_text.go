package impl

import "strconv"

const (
	MaxInputLen      = 20000
	MaxUint          = 1000000000
	MaxLineLen       = 600
	MaxFieldsPerLine = 24
)

const hexDigits = "0123456789abcdef"

// EncodeHex returns the lowercase hexadecimal encoding of s, two digits per byte with the high
// half first, and true. It returns "" and false if s is longer than MaxInputLen bytes. Example:
// EncodeHex("az") returns "617a" and true.
func EncodeHex(s string) (string, bool) {
	if len(s) > MaxInputLen {
		return "", false
	}
	digits := make([]byte, 0, 2*len(s))
	for i := range len(s) {
		digits = append(digits, hexDigits[s[i]>>4], hexDigits[s[i]&15])
	}
	return string(digits), true
}

// DecodeHex returns the string t for which EncodeHex(t) is s, and true. It returns "" and false
// if there is no such string (an odd length, a character other than 0-9 and a-f, or a result
// longer than MaxInputLen).
func DecodeHex(s string) (string, bool) {
	if len(s)%2 != 0 || len(s) > 2*MaxInputLen {
		return "", false
	}
	decoded := make([]byte, 0, len(s)/2)
	for i := 0; i < len(s); i += 2 {
		high, highOk := hexValue(s[i])
		low, lowOk := hexValue(s[i+1])
		if !highOk || !lowOk {
			return "", false
		}
		decoded = append(decoded, high<<4|low)
	}
	return string(decoded), true
}

// hexValue rejects capital letters: EncodeHex never writes them.
func hexValue(digit byte) (byte, bool) {
	switch {
	case digit >= '0' && digit <= '9':
		return digit - '0', true
	case digit >= 'a' && digit <= 'f':
		return digit - 'a' + 10, true
	}
	return 0, false
}

// FormatInt returns n in decimal without leading zeros, with a leading `-` for a negative number.
// It is defined for every int; FormatInt(0) is "0".
func FormatInt(n int) string { return strconv.Itoa(n) }

// ParseUint returns the number n in the range 0 to MaxUint for which FormatInt(n) is s, and true.
// It returns 0 and false if there is none. Example: ParseUint("01") returns 0 and false.
func ParseUint(s string) (int, bool) {
	n, err := strconv.Atoi(s)
	if err != nil || n < 0 || n > MaxUint {
		return 0, false
	}
	// Atoi also reads signs and leading zeros, which FormatInt never writes here.
	if FormatInt(n) != s {
		return 0, false
	}
	return n, true
}

// SplitFields returns the fields of a line in order, and true. Fields are maximal runs of bytes
// other than the space (byte 32); leading and trailing spaces are ignored. SplitFields returns
// nil and false if the line is longer than MaxLineLen bytes, contains a byte outside the range 32
// to 126, or has more than MaxFieldsPerLine fields. An empty line and a line of spaces have no
// fields.
func SplitFields(line string) ([]string, bool) {
	if len(line) > MaxLineLen {
		return nil, false
	}
	var fields []string
	start, at := 0, 0
scan:
	for at < len(line) {
		switch b := line[at]; {
		case b < ' ' || b > '~':
			break scan
		case b == ' ':
			fields = appendField(fields, line[start:at])
			start = at + 1
		}
		at++
	}
	if at < len(line) {
		return nil, false
	}
	fields = appendField(fields, line[start:])
	if len(fields) > MaxFieldsPerLine {
		return nil, false
	}
	return fields, true
}

// appendField leaves out the empty runs that stand between two spaces or at an end of the line.
func appendField(fields []string, field string) []string {
	if field == "" {
		return fields
	}
	return append(fields, field)
}

// Clamp returns n clamped to the range low to high. If high is less than low, it returns low.
func Clamp(n int, low int, high int) int {
	// max comes last, so that low wins if the range is empty.
	return max(low, min(n, high))
}
