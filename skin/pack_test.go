package skin_test

import (
	"fmt"
	"strings"
	"testing"

	"trank/api"
	"trank/skin"
)

// packed is Pack, written down as the chapter has it.
func packed(s []string) string {
	var out []string
	for _, row := range s {
		p := ""
		for x := 0; x < len(row); {
			n := 1
			for x+n < len(row) && row[x+n] == row[x] {
				n++
			}
			if n > 1 {
				p += fmt.Sprint(n)
			}
			p += "abcdefghij"[row[x]-'0' : row[x]-'0'+1]
			x += n
		}
		out = append(out, p)
	}
	return strings.Join(out, "/")
}

// P3.4
func TestPack(t *testing.T) {
	for _, s := range samples() {
		same(t, fmt.Sprint(s), show(skin.Pack(s)), ok(packed(s)))
	}
	for s, want := range map[string]string{
		"0": "a", "9": "j", "00": "2a", "01": "ab", "0123456789": "abcdefghij", "0 0": "a/a", "1101": "2bab",
		strings.Repeat("9", 48): "48j", strings.Repeat("3", 10) + "4": "10de", strings.Repeat("3", 20): "20d",
	} {
		same(t, s, show(skin.Pack(rows(s))), ok(want))
		same(t, want, show(skin.Unpack(want)), ok(rows(s)))
	}
	same(t, "largest", show(skin.Pack(plain(48, 48, "9"))), ok(strings.Repeat("48j/", 47)+"48j"))
}

// P3.10
func TestUnpackOfPack(t *testing.T) {
	for _, s := range samples() {
		p := must[string](t)(skin.Pack(s))
		same(t, p, show(skin.Unpack(p)), ok(s))
	}
}

// P3.4
func TestUnpackRefusesOtherForms(t *testing.T) {
	row48, rows48 := "48a", strings.Repeat("a/", 47)+"a"
	same(t, "48 columns", show(skin.Unpack(row48)), ok(plain(48, 1, "0")))
	same(t, "48 rows", show(skin.Unpack(rows48)), ok(plain(1, 48, "0")))
	for _, p := range []string{
		"", "/", "//", "a/", "/a", "a//a", "a/a/", "1", "12", "2", "2/2", "a2", "2a2", "a/2", "2/a",
		"1a", "a1b", "0a", "00a", "01a", "02a", "002a", "2a0b", "0a2b", "b0a", "+2a", "-2a", "2 a", " 2a", "2a ", "2a\n", "2\x00a", "2_0a", "0x2a", "2.a", "2e1a",
		"aa", "2aa", "a2a", "2a2a", "abb", "a/aa", "24a24a", "47aa",
		"a/2a", "2a/a", "ab/a", "ab/c", "2a/3a", "a/a/ab", "ab/a/a",
		"k", "A", "`", "2k", "ak", "J", "aB", "z", "é", "２a", "٢a", "a\xff", "\xffa", "a\x80", "a/\xff",
		"49a", "50a", "99a", "100a", "480a", "048a", "48ab", "a48b", "24a25b", "25a24b", row48 + row48, row48 + "/49a", rows48 + "/a", rows48 + "a", rows48 + "/",
		"9223372036854775807a", "9223372036854775808a", "18446744073709551617a", "18446744073709551618a", "18446744073709551616a", "4294967298a", "-9223372036854775808a", "1000000000000a",
		strings.Repeat("9", 5000) + "a", strings.Repeat("0", 5000) + "2a", strings.Repeat("ab", 5000), strings.Repeat("a/", 5000) + "a", strings.Repeat("/", 5000), strings.Repeat("48a", 5000), strings.Repeat("2", 100000),
	} {
		same(t, p, show(skin.Unpack(p)), fails(api.ErrForm))
	}
}

// P3.4, P3.10: whatever is unpacked is packed as the same string, and of no other string.
func TestUnpackOfAllShortStrings(t *testing.T) {
	texts := []string{""}
	for range 6 {
		var longer []string
		for _, p := range texts {
			for _, c := range "0129abj/k" {
				longer = append(longer, p+string(c))
			}
		}
		texts = longer
		for _, p := range texts {
			s, e := skin.Unpack(p)
			if e == api.ErrForm && len(s) == 0 {
				continue
			}
			if e != api.OK || !skin.Valid(s) || packed(s) != p {
				t.Fatalf("%q: %v %v", p, s, e)
			}
		}
	}
}
