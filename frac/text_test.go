package frac_test

import (
	"fmt"
	"strings"
	"testing"

	"trank/api"
	"trank/frac"
)

func texts() map[string]api.Frac {
	return map[string]api.Frac{
		"0": f(0, 1), "1": f(1, 1), "-1": f(-1, 1), "10": f(10, 1), "-70": f(-70, 1),
		"1/2": f(1, 2), "-1/2": f(-1, 2), "10/11": f(10, 11), "-3/10": f(-3, 10),
		"6 3/4": f(27, 4), "-6 3/4": f(-27, 4), "1 1/2": f(3, 2), "-10 1/10": f(-101, 10),
		"1000000000": f(most, 1), "-1000000000": f(-most, 1), "1/1000000000": f(1, most), "-1/1000000000": f(-1, most),
		"999999999/1000000000": f(most-1, most), "1 1/999999999": f(most, most-1), "-1 1/999999999": f(-most, most-1),
		"499999999 1/2": f(most-1, 2), "-333333333 1/3": f(-most, 3),
	}
}

// P1.4
func TestPrint(t *testing.T) {
	for want, x := range texts() {
		if s, e := frac.Print(x); s != want || e != api.OK {
			t.Errorf("%v: %q %v, want %q", x, s, e, want)
		}
	}
	for _, x := range samples() {
		abs, sign := x, ""
		if x.Num < 0 {
			abs.Num, sign = -x.Num, "-"
		}
		w, n := abs.Num/abs.Den, abs.Num%abs.Den
		want := fmt.Sprintf("%s%d %d/%d", sign, w, n, abs.Den)
		if n == 0 {
			want = fmt.Sprintf("%s%d", sign, w)
		} else if w == 0 {
			want = fmt.Sprintf("%s%d/%d", sign, n, abs.Den)
		}
		if s, e := frac.Print(x); s != want || e != api.OK {
			t.Errorf("%v: %q %v, want %q", x, s, e, want)
		}
	}
	for _, bad := range invalid() {
		if s, e := frac.Print(bad); s != "" || e != api.ErrArg {
			t.Error(bad, s, e)
		}
	}
}

// P1.4
func TestParse(t *testing.T) {
	for s, want := range texts() {
		same(t, s, got(frac.Parse(s)), result{want, api.OK})
	}
}

// P1.4
func TestParseRefusesOtherForms(t *testing.T) {
	for _, s := range []string{
		"", " ", "-", "/", "- ", "-/", " /", "a", "x/2", "1/x", "0x1", "1_0", "1e3", "1.5", "٣", "½", "\x00", "1\n",
		"6 2/4", "6 4/3", "6 3/3", "2/4", "4/3", "3/3", "1/1", "0/1", "0/2", "1/0", "0/0", "1 1/0", "1 0/1", "0 1/2", "0 0/1",
		"-0", "--1", "+1", "-+1", "+0", "1-", "1/-2", "-1/-2", "1 -1/2", "-1 -1/2", "1/+2", "+1/2", "1 +1/2",
		"06", "00", "01/2", "1/02", "06 3/4", "6 03/4", "6 3/04", "-06", "-01/2",
		"6  3/4", " 6 3/4", "6 3/4 ", "6 3 /4", "6 3/ 4", "6\t3/4", "- 6", "1 ", " 1", "1 2", "1 2 3/4", "6 3", "6 3/", "6 /4", " 3/4", "5/", "/5", "1/2/3", "1//2", "1 1/2/3",
		"1000000001", "-1000000001", "1/1000000001", "1000000000 1/2", "500000000 1/2", "1000000000/1000000001", "1 1/1000000000",
		"9223372036854775807", "9223372036854775808", "18446744073709551617", "1/18446744073709551618", "-9223372036854775808",
		"99999999999999999999999999", strings.Repeat("1", 5000), strings.Repeat("0", 5000) + "1",
		"18446744073709551616 1/2", "1 18446744073709551617/18446744073709551618", "1/9223372036854775807", "4294967297/4294967298",
	} {
		same(t, s, got(frac.Parse(s)), fails(api.ErrForm))
	}
}

// P1.4: whatever is parsed is printed as the same string.
func TestParseOfAllShortStrings(t *testing.T) {
	const letters = "0126-+/ "
	strings := []string{""}
	for range 6 {
		var longer []string
		for _, s := range strings {
			for _, c := range letters {
				longer = append(longer, s+string(c))
			}
		}
		strings = longer
		for _, s := range strings {
			x, e := frac.Parse(s)
			if e == api.ErrForm && x == (api.Frac{}) {
				continue
			}
			if p, pe := frac.Print(x); e != api.OK || p != s || pe != api.OK {
				t.Fatalf("%q: %v %v, printed %q %v", s, x, e, p, pe)
			}
		}
	}
}

// P1.12
func TestParseOfPrint(t *testing.T) {
	for _, x := range append(small(200, 30), large()...) {
		s, _ := frac.Print(x)
		same(t, s, got(frac.Parse(s)), result{x, api.OK})
	}
}
