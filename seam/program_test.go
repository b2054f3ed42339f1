package seam_test

import (
	"fmt"
	"slices"
	"strings"
	"testing"

	"trank/api"
	"trank/seam"
)

// P7.7

// compiled is the program of a sewing.
func compiled(g seam.Graph, runs [][]seam.Move) []seam.Op {
	var p []seam.Op
	for _, run := range runs {
		first := run[0]
		from, _ := ends(g.Seams[first.Seam], first.Back)
		p = append(p, op(goTo, from), op(take, g.Seams[first.Seam].Thread), op(lock, 0))
		for _, m := range run {
			p = append(p, seam.Op{Code: sew, Arg: m.Seam, Back: m.Back})
		}
		p = append(p, op(lock, 0), op(cut, 0))
	}
	return p
}

func TestCompile(t *testing.T) {
	d := dice()
	for _, g := range graphs() {
		for _, runs := range [][][]seam.Move{must[[][]seam.Move](t)(seam.Runs(g)), randomSewing(t, d, g), randomSewing(t, d, g)} {
			same(t, fmt.Sprint("Compile ", g, runs), show(seam.Compile(g, runs)), ok(compiled(g, runs)))
		}
	}
	two := [][]seam.Move{{there(3)}, {back(2), back(1), back(0)}}
	same(t, "Compile", show(seam.Text(must[[]seam.Op](t)(seam.Compile(square(), two)))), ok("g0 t1 l s3 l c g0 t0 l s2- s1- s0- l c"))
	same(t, "Compile", show(seam.Compile(graph(5), nil)), ok([]seam.Op{}))
}

func TestCompileOfNoSewing(t *testing.T) {
	d := dice()
	for _, g := range slices.Concat(tinyGraphs(), special()) {
		for _, runs := range spoilt(randomSewing(t, d, g)) {
			want := fails(api.ErrForm)
			if isSewing(g, runs) {
				want = ok(compiled(g, runs))
			}
			same(t, fmt.Sprint("Compile ", g, runs), show(seam.Compile(g, runs)), want)
		}
	}
	for _, runs := range [][][]seam.Move{nil, {{}}, {nil, {there(0)}}, alone(there(1)), alone(there(-1)), alone(there(0), back(0))} {
		same(t, fmt.Sprint("Compile ", runs), show(seam.Compile(single(), runs)), fails(api.ErrForm))
		same(t, fmt.Sprint("Compile ", runs), show(seam.Compile(graph(0), runs)), fails(api.ErrArg))
	}
	same(t, "Compile", show(seam.Compile(graph(1), [][]seam.Move{{}})), fails(api.ErrForm))
}

func TestThread(t *testing.T) {
	for _, g := range graphs() {
		want := make([]int, 8)
		for thread := range want {
			want[thread] = 10 * byClasses(g, thread)
		}
		for _, s := range g.Seams {
			want[s.Thread] += 3 * s.Len
		}
		same(t, fmt.Sprint("Thread ", g), show(seam.Thread(g)), ok(want))
	}
	same(t, "Thread", show(seam.Thread(square())), ok([]int{46, 31, 0, 0, 0, 0, 0, 0}))
	same(t, "Thread", show(seam.Thread(graph(1))), ok(make([]int, 8)))
}

// P7.11

func TestWhole(t *testing.T) {
	d := dice()
	for _, g := range graphs() {
		least := must[[]int](t)(seam.Thread(g))
		fewest := must[[][]seam.Move](t)(seam.Runs(g))
		for _, runs := range [][][]seam.Move{fewest, randomSewing(t, d, g), randomSewing(t, d, g)} {
			p := must[[]seam.Op](t)(seam.Compile(g, runs))
			r := must[seam.Report](t)(seam.Run(g, p, len(p)))
			once := slices.Repeat([]int{1}, len(g.Seams))
			if r.Fault != 0 || r.Steps != len(p) || !slices.Equal(r.Sewn, once) || r.Held != -1 || r.Cuts != len(runs) {
				t.Error(g, runs, r)
			}
			used := slices.Clone(least)
			if len(runs) != len(fewest) {
				used = usedBy(g, runs)
			}
			same(t, fmt.Sprint("Used ", g, runs), ok(r.Used), ok(used))
			for thread, n := range least {
				if r.Used[thread] < n {
					t.Error(g, runs, r, least)
				}
			}
		}
	}
}

// usedBy is what a sewing uses: three times its seams, and 10 for each run.
func usedBy(g seam.Graph, runs [][]seam.Move) []int {
	used := make([]int, 8)
	for _, run := range runs {
		used[g.Seams[run[0].Seam].Thread] += 10
	}
	for _, s := range g.Seams {
		used[s.Thread] += 3 * s.Len
	}
	return used
}

// P7.8

// eachOp are all valid Ops.
func eachOp() []seam.Op {
	var l []seam.Op
	for code, most := range limitsOfOps() {
		for arg := range most + 1 {
			l = append(l, op(code, arg))
			if code == sew {
				l = append(l, sewBack(arg))
			}
		}
	}
	return l
}

// textOf is the text of a program.
func textOf(p []seam.Op) string {
	var words []string
	for _, o := range p {
		word := []string{"t", "g", "l", "s", "c", "r"}[o.Code]
		if o.Code != lock && o.Code != cut {
			word = fmt.Sprint(word, o.Arg)
		}
		if o.Back {
			word += "-"
		}
		words = append(words, word)
	}
	return strings.Join(words, " ")
}

func TestText(t *testing.T) {
	for _, x := range eachOp() {
		same(t, fmt.Sprint("Text ", x), show(seam.Text([]seam.Op{x})), ok(textOf([]seam.Op{x})))
	}
	for _, x := range programs(t, 1) {
		same(t, fmt.Sprint("Text ", x.p), show(seam.Text(x.p)), ok(textOf(x.p)))
	}
	same(t, "Text", show(seam.Text(nil)), ok(""))
	same(t, "Text", show(seam.Text([]seam.Op{op(take, 7), op(goTo, 15), op(lock, 0), op(sew, 63), sewBack(0), op(cut, 0), op(repeat, 99), op(repeat, 0)})), ok("t7 g15 l s63 s0- c r99 r0"))
	same(t, "Text", show(seam.Text(make([]seam.Op, 4096))), ok(strings.TrimSpace(strings.Repeat("t0 ", 4096))))
	for _, p := range tooLong() {
		same(t, fmt.Sprint("Text of ", len(p)), show(seam.Text(p)), fails(api.ErrSize))
	}
	for _, p := range badPrograms() {
		same(t, fmt.Sprint("Text of ", p), show(seam.Text(p)), fails(api.ErrArg))
	}
}

// P7.12

func TestThereAndBack(t *testing.T) {
	all := eachOp()
	for _, x := range all {
		same(t, fmt.Sprint("Read ", x), show(seam.Read(must[string](t)(seam.Text([]seam.Op{x})))), ok([]seam.Op{x}))
	}
	for _, p := range [][]seam.Op{all, nil, slices.Repeat([]seam.Op{sewBack(63)}, 4096), slices.Repeat(all, 17)[:4096]} {
		same(t, "Read", show(seam.Read(must[string](t)(seam.Text(p)))), ok(p))
	}
	for _, x := range programs(t, 1) {
		same(t, fmt.Sprint("Read ", x.p), show(seam.Read(must[string](t)(seam.Text(x.p)))), ok(x.p))
	}
}

// checkRead compares Read of a string with the form of a text, and with the text of what it returns.
func checkRead(t *testing.T, s string) bool {
	t.Helper()
	if !isText(s) {
		same(t, fmt.Sprintf("Read %q", s), show(seam.Read(s)), fails(api.ErrForm))
		return false
	}
	p := must[[]seam.Op](t)(seam.Read(s))
	same(t, fmt.Sprintf("Read %q", s), show(seam.Text(p)), ok(s))
	return true
}

// All strings of up to five of these bytes.
func TestReadOfShortStrings(t *testing.T) {
	read := 0
	var next func(s string)
	next = func(s string) {
		if checkRead(t, s) {
			read++
		}
		for _, c := range "tglscr0169 -+x" {
			if len(s) < 5 {
				next(s + string(c))
			}
		}
	}
	next("")
	if read < 400 {
		t.Error(read)
	}
}

// A text in which a byte is lost, added or another.
func TestReadOfOtherStrings(t *testing.T) {
	d := dice()
	count := map[bool]int{}
	for _, x := range programs(t, 1) {
		s := textOf(x.p)
		for range 10 {
			i := d.IntN(len(s) + 1)
			c := string(rune("tglscr0123456789 -_T\n\x00\xff"[d.IntN(23)]))
			others := []string{s[:i] + c + s[i:]}
			if i < len(s) {
				others = append(others, s[:i]+s[i+1:], s[:i]+c+s[i+1:])
			}
			for _, other := range others {
				count[checkRead(t, other)]++
			}
		}
	}
	if count[true] < 1000 || count[false] < 1000 {
		t.Error(count)
	}
}

func TestReadOfAnotherForm(t *testing.T) {
	for _, s := range []string{
		" ", "  ", " t0", "t0 ", "t0  l", "t0\tl", "t0\nl", "t0,l", "t", "g", "s", "r", "-", "0", "T0", "t0 L", "é", "tt0", "0t", "t0t1", "lc",
		"t8", "t10", "t-1", "t00", "t01", "t+1", "t 1", "t1.0", "t1_0", "t0x1", "t0-", "g16", "g00", "g100", "g-0", "g0-", "l0", "l-", "ll", "s64", "s00", "s00-", "s--", "s0--", "s-0", "s-", "s+1-", "s1 -", "c0", "c-", "r100", "r00", "r-1", "r5-",
		"t18446744073709551616", "t9223372036854775808", "r4294967296", "s" + strings.Repeat("0", 1000), "r" + strings.Repeat("9", 1000000), strings.Repeat(" ", 1000000), strings.Repeat("l", 1000000),
	} {
		same(t, fmt.Sprintf("Read %.40q", s), show(seam.Read(s)), fails(api.ErrForm))
	}
}

// At most 4096 Ops are a program.
func TestReadOfLongStrings(t *testing.T) {
	for n, want := range map[int]string{4095: ok(make([]seam.Op, 4095)), 4096: ok(make([]seam.Op, 4096)), 4097: fails(api.ErrForm), 100000: fails(api.ErrForm)} {
		words := slices.Repeat([]string{"t0"}, n)
		same(t, fmt.Sprint("Read of ", n), show(seam.Read(strings.Join(words, " "))), want)
	}
}
