package frac

import (
	"strconv"
	"strings"

	"trank/api"
)

// Print returns the string of a fraction.
func Print(f api.Frac) (string, api.Errno) {
	if !Valid(f) {
		return "", api.ErrArg
	}
	if f.Num < 0 {
		return "-" + mixed(-f.Num, f.Den), api.OK
	}
	return mixed(f.Num, f.Den), api.OK
}

func mixed(num, den int) string {
	whole, rest := strconv.Itoa(num/den), strconv.Itoa(num%den)+"/"+strconv.Itoa(den)
	if num%den == 0 {
		return whole
	}
	if num < den {
		return rest
	}
	return whole + " " + rest
}

// Parse returns the fraction of a string. It reads more forms than Print writes, and refuses those that Print writes otherwise.
func Parse(s string) (api.Frac, api.Errno) {
	f, e := read(s)
	if e != api.OK {
		return api.Frac{}, api.ErrForm
	}
	if t, _ := Print(f); t != s {
		return api.Frac{}, api.ErrForm
	}
	return f, api.OK
}

func read(s string) (api.Frac, api.Errno) {
	body, negative := strings.CutPrefix(s, "-")
	whole, rest := split(body)
	num, den, _ := strings.Cut(rest, "/")
	w, wok := part(whole)
	n, nok := part(num)
	d, dok := part(den)
	if !wok || !nok || !dok {
		return api.Frac{}, api.ErrForm
	}
	f := ratio{w*d + n, d}
	if negative {
		f = f.neg()
	}
	return New(f.num, f.den)
}

// split fills in what Print leaves out.
func split(s string) (whole, rest string) {
	whole, rest, both := strings.Cut(s, " ")
	if both {
		return whole, rest
	}
	if strings.Contains(s, "/") {
		return "0", s
	}
	return s, "0/1"
}

// part refuses numbers above MaxPart, so that products of two of them fit in an int.
func part(s string) (int, bool) {
	n, err := strconv.Atoi(s)
	if err != nil || n < 0 || n > api.MaxPart {
		return 0, false
	}
	return n, true
}
