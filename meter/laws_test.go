package meter

import (
	"math"
	"sync"
	"testing"

	"scholium/api"
	"scholium/term"
)

// plain is a meter as the chapter's words have it: two numbers.
type plain struct{ left, used int }

// spend takes n steps, or none.
func (p *plain) spend(n int) api.Errno {
	if n < 0 || n > p.left {
		return api.ErrFuel
	}
	p.left, p.used = p.left-n, p.used+n
	return api.OK
}

// pair is a meter, the plain one that it must be like, and the fuel of both.
type pair struct {
	m    *Meter
	p    *plain
	fuel int
}

// draws gives numbers below what is asked, always the same ones.
func draws() func(below int) int {
	seed := uint32(1)
	return func(below int) int {
		seed = seed*1664525 + 1013904223
		return int(seed>>8) % below
	}
}

// held asks whether all meters are like their plain ones, and whether left and used are the fuel together.
func held(t *testing.T, all []pair) {
	t.Helper()
	for _, x := range all {
		if x.m.Left() != x.p.left || x.m.Used() != x.p.used {
			t.Fatalf("%d left, %d used, not %d, %d", x.m.Left(), x.m.Used(), x.p.left, x.p.used)
		}
		if x.m.Left()+x.m.Used() != x.fuel {
			t.Fatalf("%d left and %d used are not %d together", x.m.Left(), x.m.Used(), x.fuel)
		}
	}
}

// amount draws a number around what is left.
func amount(draw func(int) int, left int) int {
	wrong := []int{-1, math.MinInt, math.MaxInt, left + 1, 2 * left, left, left - 1, 0, 1}
	if draw(3) == 0 {
		return wrong[draw(len(wrong))]
	}
	return draw(left/4 + 2)
}

func TestLeftAndUsed(t *testing.T) { // P11.1, P11.2, P11.4
	draw := draws()
	for range 200 {
		fuel := draw(300)
		all := []pair{{full(t, fuel), &plain{fuel, 0}, fuel}}
		for range 60 {
			x, y := all[draw(len(all))], all[draw(len(all))]
			n := amount(draw, x.p.left)
			switch draw(5) {
			case 0:
				is(t, "Step", x.m.Step(), x.p.spend(1))
			case 1, 2:
				is(t, "Spend", x.m.Spend(n), x.p.spend(n))
			case 3:
				is(t, "Take", x.m.Take(y.m), x.p.spend(y.p.used))
			case 4:
				f, e := x.m.Fork(n)
				if (e == api.OK) != (n >= 0 && n <= x.p.left) || (f == nil) != (e != api.OK) {
					t.Fatalf("Fork(%d) with %d left: %v, %v", n, x.p.left, f, e)
				}
				if e == api.OK && len(all) < 8 {
					all = append(all, pair{f, &plain{n, 0}, n})
				}
			}
			held(t, all)
		}
	}
}

func TestSpendingAtTheSameTime(t *testing.T) { // P11.1, P11.4: steps are counted by an atomic number
	const workers, tries = 8, 5000
	m := full(t, workers*tries/2)
	var w sync.WaitGroup
	var took [workers]int
	for i := range workers {
		w.Go(func() {
			for range tries {
				if m.Step() == api.OK {
					took[i]++
				}
				if m.Left() < 0 || m.Used() > workers*tries/2 {
					t.Error("more was taken than there was")
				}
			}
		})
	}
	w.Wait()
	sum := 0
	for _, n := range took {
		sum += n
	}
	if sum != workers*tries/2 {
		t.Errorf("%d steps were taken", sum)
	}
	has(t, "all", m, 0, workers*tries/2)
}

func TestRefusedAtTheSameTime(t *testing.T) { // P11.1: what is refused takes nothing, not for a while either
	const workers, tries = 4, 20000
	m := full(t, tries)
	var w sync.WaitGroup
	for range workers {
		w.Go(func() {
			for range tries {
				is(t, "Spend of too many", m.Spend(tries+1), api.ErrFuel)
			}
		})
	}
	for range tries {
		is(t, "Step", m.Step(), api.OK)
	}
	w.Wait()
	has(t, "all", m, 0, tries)
}

func TestAskingAtTheSameTime(t *testing.T) { // P11.3, P11.5: what is kept is reckoned by a sync.Once
	for range 200 {
		const workers = 8
		var m Memo
		var w sync.WaitGroup
		var got [workers]api.Term
		calls := 0
		for i := range workers {
			w.Go(func() {
				var e api.Errno
				// No lock stands around calls: but one function is called.
				got[i], e = m.Get(tells(term.App(term.Const(i), term.Const(1)), api.Errno(i), &calls))
				if !m.Has() || int(e) != got[i].Sub[0].N {
					t.Error("what was told is torn apart")
				}
			})
		}
		w.Wait()
		for _, x := range got {
			if calls != 1 || !term.Same(x, got[0]) {
				t.Fatalf("%d calls, %s and %s", calls, told(x), told(got[0]))
			}
		}
	}
}
