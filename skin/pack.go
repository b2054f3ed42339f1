package skin

import (
	"slices"
	"strconv"
	"strings"

	"trank/api"
)

// Pack returns a skin as a string.
func Pack(s []string) (string, api.Errno) {
	if !Valid(s) {
		return "", api.ErrArg
	}
	rows := make([]string, len(s))
	for i, row := range s {
		rows[i] = packRow(row)
	}
	return strings.Join(rows, "/"), api.OK
}

func packRow(row string) string {
	var b strings.Builder
	for rest := row; rest != ""; {
		after := strings.TrimLeft(rest, rest[:1])
		if n := len(rest) - len(after); n > 1 {
			b.WriteString(strconv.Itoa(n))
		}
		b.WriteRune(letter(rest[0]))
		rest = after
	}
	return b.String()
}

// letter of a grade's digit: a to j.
func letter(digit byte) rune { return 'a' + rune(digit-'0') }

// Unpack returns the skin of a string. It reads more forms than Pack writes, and refuses those that Pack writes otherwise.
func Unpack(t string) ([]string, api.Errno) {
	// One row too many suffices to tell that there are too many.
	packed := strings.SplitN(t, "/", api.MaxSide+1)
	s := make([]string, len(packed))
	for i, row := range packed {
		s[i] = unpackRow(row)
	}
	if again, e := Pack(s); e != api.OK || again != t {
		return nil, api.ErrForm
	}
	return s, api.OK
}

// unpackRow returns an empty row, which no skin has, for a string that is no row.
func unpackRow(t string) string {
	var row []byte
	n := 0
	for _, r := range t {
		switch {
		case '0' <= r && r <= '9':
			n = n*10 + int(r-'0')
		case letter('0') <= r && r <= letter('9'):
			row = append(row, slices.Repeat([]byte{'0' + byte(r-letter('0'))}, max(n, 1))...)
			n = 0
		default:
			return ""
		}
		// So short a row and so small a number remain small, however long the string is.
		if n > api.MaxSide || len(row) > api.MaxSide {
			return ""
		}
	}
	return string(row)
}
