package seam

import "trank/api"

// The codes of the Ops.
const (
	take = iota
	move
	lock
	sew
	cut
	repeat
	codes
)

const (
	maxCount  = 99
	maxFuel   = 100000
	noThread  = -1
	lockUses  = 4
	cutUses   = 2
	perLength = 3 // thread for each unit of a seam's length
)

// fault is why the machine stops.
type fault int

const (
	_ fault = iota
	takesTwice
	movesHolding
	noJoint
	holdsNone
	noSeam
	otherThread
	elsewhere
	repeatsNothing
	repeatsRepeat
	noFuel
)

// machine executes a program; what it has done and where it is are the fields of its report.
type machine struct {
	Report
	graph Graph
	fuel  int
}

// Run executes a program.
func Run(g Graph, p []Op, fuel int) (Report, api.Errno) {
	if !Valid(g) || fuel < 0 || fuel > maxFuel {
		return Report{}, api.ErrArg
	}
	if e := programError(p); e != api.OK {
		return Report{}, e
	}
	start := Report{Held: noThread, Sewn: make([]int, len(g.Seams)), Used: make([]int, threads)}
	m := &machine{start, g, fuel}
	m.run(p)
	return m.Report, api.OK
}

// run executes the Ops until the last is done or one of them faults.
func (m *machine) run(p []Op) {
	defer func() {
		if x := recover(); x != nil {
			m.Fault = int(x.(fault)) // nothing else panics here
		}
	}()
	for len(p) > 0 {
		op, rest := p[0], p[1:]
		if op.Code == repeat {
			m.repeat(op.Arg, rest)
			rest = rest[1:]
		} else {
			m.step(op)
		}
		p = rest
	}
}

// check stops the machine with a fault unless a condition holds.
func check(holds bool, f fault) {
	if !holds {
		panic(f)
	}
}

func (m *machine) checkFuel() { check(m.Steps < m.fuel, noFuel) }

// repeat executes the first Op of the rest of the program count times.
func (m *machine) repeat(count int, rest []Op) {
	m.checkFuel()
	check(len(rest) > 0, repeatsNothing)
	check(rest[0].Code != repeat, repeatsRepeat)
	m.Steps++
	for range count {
		m.step(rest[0])
	}
}

// step executes an Op that is no repeat.
func (m *machine) step(op Op) {
	m.checkFuel()
	switch op.Code {
	case take:
		check(m.Held == noThread, takesTwice)
		m.Held = op.Arg
	case move:
		check(m.Held == noThread, movesHolding)
		check(isJoint(m.graph, op.Arg), noJoint)
		m.At = op.Arg
	case lock:
		check(m.Held != noThread, holdsNone)
		m.Used[m.Held] += lockUses
	case sew:
		m.sew(op.Arg, op.Back)
	case cut:
		check(m.Held != noThread, holdsNone)
		m.Used[m.Held] += cutUses
		m.Held = noThread
		m.Cuts++
	}
	m.Steps++
}

func (m *machine) sew(seam int, back bool) {
	check(m.Held != noThread, holdsNone)
	check(seam < len(m.graph.Seams), noSeam)
	s := m.graph.Seams[seam]
	check(s.Thread == m.Held, otherThread)
	from, to := ends(s, back)
	check(m.At == from, elsewhere)
	m.Used[m.Held] += perLength * s.Len
	m.Sewn[seam]++
	m.At = to
}
