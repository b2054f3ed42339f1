package seam

import (
	"strconv"
	"strings"

	"trank/api"
)

// programError returns why p is no program, or OK.
func programError(p []Op) api.Errno {
	if len(p) > api.MaxOps {
		return api.ErrSize
	}
	for _, op := range p {
		if !validOp(op) {
			return api.ErrArg
		}
	}
	return api.OK
}

func validOp(op Op) bool {
	if op.Code < 0 || op.Code >= codes || op.Back && op.Code != sew {
		return false
	}
	return op.Arg >= 0 && op.Arg <= maxArg(op.Code)
}

// maxArg returns the greatest Arg of the Ops with a code.
func maxArg(code int) int {
	switch code {
	case take:
		return threads - 1
	case move:
		return api.MaxJoints - 1
	case sew:
		return api.MaxSeams - 1
	case repeat:
		return maxCount
	}
	return 0
}

// Compile returns the program of a sewing.
func Compile(g Graph, runs [][]Move) ([]Op, api.Errno) {
	if !Valid(g) {
		return nil, api.ErrArg
	}
	if !sews(g, runs) {
		return nil, api.ErrForm
	}
	var p []Op
	for _, run := range runs {
		s := g.Seams[run[0].Seam]
		from, _ := ends(s, run[0].Back)
		p = append(p, Op{Code: move, Arg: from}, Op{Code: take, Arg: s.Thread}, Op{Code: lock})
		for _, m := range run {
			p = append(p, Op{sew, m.Seam, m.Back})
		}
		p = append(p, Op{Code: lock}, Op{Code: cut})
	}
	return p, api.OK
}

// Thread returns how much of each thread the shortest programs use.
func Thread(g Graph) ([]int, api.Errno) {
	if !Valid(g) {
		return nil, api.ErrArg
	}
	used := make([]int, threads)
	for _, s := range g.Seams {
		used[s.Thread] += perLength * s.Len
	}
	for thread := range used {
		used[thread] += (lockUses + lockUses + cutUses) * len(runsOf(g, thread))
	}
	return used, api.OK
}

// letters stand for the codes.
const letters = "tglscr"

// Text returns a program as a string.
func Text(p []Op) (string, api.Errno) {
	if e := programError(p); e != api.OK {
		return "", e
	}
	var words []string
	for _, op := range p {
		words = append(words, opText(op))
	}
	return strings.Join(words, " "), api.OK
}

func opText(op Op) string {
	word := letters[op.Code : op.Code+1]
	if op.Code != lock && op.Code != cut {
		word += strconv.Itoa(op.Arg)
	}
	if op.Back {
		word += "-"
	}
	return word
}

// Read returns the program of a string.
func Read(s string) ([]Op, api.Errno) {
	var p []Op
	for more := s != ""; more; {
		var word string
		word, s, more = strings.Cut(s, " ")
		op, ok := readOp(word)
		if !ok || len(p) == api.MaxOps {
			return nil, api.ErrForm
		}
		p = append(p, op)
	}
	return p, api.OK
}

// readOp reads any number, and finds words of another form by writing the Op again.
func readOp(word string) (Op, bool) {
	if word == "" {
		return Op{}, false
	}
	number, back := strings.CutSuffix(word[1:], "-")
	arg, _ := strconv.Atoi(number)
	op := Op{strings.IndexByte(letters, word[0]), arg, back}
	return op, validOp(op) && opText(op) == word
}
