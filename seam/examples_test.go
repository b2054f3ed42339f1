package seam_test

import (
	"testing"

	"trank/api"
	"trank/seam"
)

// The numbered examples of the chapter.

func TestExample1(t *testing.T) {
	same(t, "Fewest", show(seam.Fewest(triangle())), ok(1))
	same(t, "Round", show(seam.Round(triangle(), 0)), ok(12))
	same(t, "Bridges", show(seam.Bridges(triangle())), ok([]int{}))
	same(t, "Fewest", show(seam.Fewest(square())), ok(2))
	same(t, "Round", show(seam.Round(square(), 0)), ok(22))
	same(t, "Far", show2(seam.Far(square(), 0, 2)), ok2(3, true))
}

func TestExample2(t *testing.T) {
	same(t, "Fewest", show(seam.Fewest(single())), ok(1))
	same(t, "Odd", show(seam.Odd(single(), 2)), ok([]int{0, 1}))
	same(t, "Round", show(seam.Round(single(), 0)), ok(10))
	same(t, "Bridges", show(seam.Bridges(single())), ok([]int{0}))
	p := must[[]seam.Op](t)(seam.Compile(single(), alone(there(0))))
	same(t, "Text", show(seam.Text(p)), ok("g0 t2 l s0 l c"))
	same(t, "Used", ok(must[seam.Report](t)(seam.Run(single(), p, 6)).Used), ok([]int{0, 0, 25, 0, 0, 0, 0, 0}))
	same(t, "Thread", show(seam.Thread(single())), ok([]int{0, 0, 25, 0, 0, 0, 0, 0}))
}

func TestExample3(t *testing.T) {
	p := []seam.Op{op(goTo, 0), op(take, 2), op(repeat, 2), op(lock, 0), sewBack(0), op(cut, 0)}
	same(t, "Text", show(seam.Text(p)), ok("g0 t2 r2 l s0- c"))
	same(t, "Read", show(seam.Read("g0 t2 r2 l s0- c")), ok(p))
	for _, s := range []string{"s00", "l0", "g16", "t1  l", "x"} {
		same(t, s, show(seam.Read(s)), fails(api.ErrForm))
	}
	same(t, "Read", show(seam.Read("")), ok([]seam.Op{}))
}

func TestExample4(t *testing.T) {
	for _, g := range []seam.Graph{triangle(), single(), graph(1)} {
		sewn, used := make([]int, len(g.Seams)), make([]int, 8)
		for text, want := range map[string]seam.Report{
			"t0 t1": {Fault: 1, Steps: 1, Held: 0, Sewn: sewn, Used: used},
			"r3 l":  {Fault: 4, Steps: 1, Held: -1, Sewn: sewn, Used: used},
			"r0 l":  {Fault: 0, Steps: 1, Held: -1, Sewn: sewn, Used: used},
		} {
			same(t, text, show(seam.Run(g, must[[]seam.Op](t)(seam.Read(text)), 100)), ok(want))
		}
	}
}

// The example of DOC.md for this layer.
func TestExampleOfDocument(t *testing.T) {
	same(t, "Round", show(seam.Round(triangle(), 0)), ok(12))
}
