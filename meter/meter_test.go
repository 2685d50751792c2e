package meter

import (
	"math"
	"strconv"
	"testing"

	"scholium/api"
)

const most = api.MaxFuel

// full gives a meter with so many steps left.
func full(t *testing.T, fuel int) *Meter {
	t.Helper()
	m, e := New(fuel)
	if m == nil || e != api.OK {
		t.Fatalf("New(%d): %v, %v", fuel, m, e)
	}
	return m
}

// spent gives a meter of so much fuel, of which so much was taken.
func spent(t *testing.T, fuel, used int) *Meter {
	t.Helper()
	m := full(t, fuel)
	is(t, "Spend("+strconv.Itoa(used)+")", m.Spend(used), api.OK)
	return m
}

// is asks what error a call answered.
func is(t *testing.T, call string, e, want api.Errno) {
	t.Helper()
	if e != want {
		t.Errorf("%s: %v, not %v", call, e, want)
	}
}

// has asks how many steps are left, and how many were taken.
func has(t *testing.T, behind string, m *Meter, left, used int) {
	t.Helper()
	if m.Left() != left || m.Used() != used {
		t.Errorf("behind %s: %d left, %d used, not %d, %d", behind, m.Left(), m.Used(), left, used)
	}
}

// none asks that no meter is answered beside an error.
func none(t *testing.T, call string, m *Meter, e, want api.Errno) {
	t.Helper()
	if m != nil || e != want {
		t.Errorf("%s: %v, %v, not none, %v", call, m, e, want)
	}
}

func TestNew(t *testing.T) { // P11.1
	for _, fuel := range []int{0, 1, 2, 1000, most - 1, most} {
		has(t, "New", full(t, fuel), fuel, 0)
	}
	for _, fuel := range []int{-1, -2, math.MinInt, most + 1, 2 * most, math.MaxInt} {
		m, e := New(fuel)
		none(t, "New("+strconv.Itoa(fuel)+")", m, e, api.ErrShape)
	}
}

func TestNewIsNew(t *testing.T) { // P11.1
	a, b := full(t, 3), full(t, 3)
	is(t, "Step", a.Step(), api.OK)
	has(t, "another one's Step", b, 3, 0)
}

func TestStep(t *testing.T) { // P11.1
	m := full(t, 2)
	is(t, "the first Step", m.Step(), api.OK)
	has(t, "the first Step", m, 1, 1)
	is(t, "the last Step", m.Step(), api.OK)
	has(t, "the last Step", m, 0, 2)
	for range 3 {
		is(t, "Step behind the last", m.Step(), api.ErrFuel)
		has(t, "Step behind the last", m, 0, 2)
	}
	is(t, "Step without fuel", full(t, 0).Step(), api.ErrFuel)
}

func TestStepsToTheLast(t *testing.T) { // P11.1
	m := full(t, most)
	for range most {
		if e := m.Step(); e != api.OK {
			t.Fatalf("Step: %v with %d left", e, m.Left())
		}
	}
	has(t, "all Steps", m, 0, most)
	is(t, "one more", m.Step(), api.ErrFuel)
}

func TestSpend(t *testing.T) { // P11.1
	for _, c := range []struct {
		fuel, n int
		want    api.Errno
	}{
		{0, 0, api.OK}, {0, 1, api.ErrFuel}, {1, 0, api.OK}, {1, 1, api.OK}, {1, 2, api.ErrFuel},
		{10, 0, api.OK}, {10, 9, api.OK}, {10, 10, api.OK}, {10, 11, api.ErrFuel},
		{most, most, api.OK}, {most, most + 1, api.ErrFuel}, {most, math.MaxInt, api.ErrFuel},
		{10, 1 << 32, api.ErrFuel}, {10, 1<<32 + 1, api.ErrFuel}, {0, math.MaxInt, api.ErrFuel},
		{10, -1, api.ErrFuel}, {0, -1, api.ErrFuel}, {most, -most, api.ErrFuel}, {10, math.MinInt, api.ErrFuel},
	} {
		m := full(t, c.fuel)
		call := "Spend(" + strconv.Itoa(c.n) + ") of " + strconv.Itoa(c.fuel)
		is(t, call, m.Spend(c.n), c.want)
		if c.want == api.OK {
			has(t, call, m, c.fuel-c.n, c.n)
		} else {
			has(t, call, m, c.fuel, 0)
		}
	}
}

func TestSpendBehindSpending(t *testing.T) { // P11.1
	m := full(t, 10)
	is(t, "Spend(4)", m.Spend(4), api.OK)
	has(t, "Spend(4)", m, 6, 4)
	for _, n := range []int{7, 10, 11, math.MaxInt, -1, -4, math.MinInt} {
		is(t, "Spend("+strconv.Itoa(n)+") with 6 left", m.Spend(n), api.ErrFuel)
		has(t, "a refused Spend", m, 6, 4)
	}
	is(t, "Spend(0)", m.Spend(0), api.OK)
	has(t, "Spend(0)", m, 6, 4)
	is(t, "Spend of all that are left", m.Spend(6), api.OK)
	has(t, "Spend of all that are left", m, 0, 10)
	is(t, "Spend(0) with nothing left", m.Spend(0), api.OK)
	is(t, "Spend(1) with nothing left", m.Spend(1), api.ErrFuel)
	has(t, "all", m, 0, 10)
}

func TestZeroMeter(t *testing.T) { // P11.1, P11.2
	var m Meter
	has(t, "nothing", &m, 0, 0)
	is(t, "Step", m.Step(), api.ErrFuel)
	is(t, "Spend(0)", m.Spend(0), api.OK)
	is(t, "Take", full(t, 0).Take(&m), api.OK)
}

func TestNilMeter(t *testing.T) { // P11.1, P11.2
	var m *Meter
	has(t, "nothing", m, 0, 0)
	is(t, "Step", m.Step(), api.ErrFuel)
	for _, n := range []int{0, 1, -1, math.MinInt, math.MaxInt} {
		is(t, "Spend", m.Spend(n), api.ErrFuel)
		f, e := m.Fork(n)
		none(t, "Fork", f, e, api.ErrFuel)
	}
	is(t, "Take", m.Take(full(t, 0)), api.ErrFuel)
	is(t, "Take of nil", m.Take(nil), api.ErrFuel)
}

func TestFork(t *testing.T) { // P11.2
	for _, c := range []struct{ fuel, used, n int }{
		{0, 0, 0}, {1, 0, 0}, {1, 0, 1}, {1, 1, 0}, {10, 0, 3}, {10, 4, 0}, {10, 4, 5}, {10, 4, 6}, {most, 0, most}, {most, 1, most - 1}, {most, most, 0},
	} {
		m := spent(t, c.fuel, c.used)
		f, e := m.Fork(c.n)
		if f == nil || e != api.OK {
			t.Fatalf("Fork(%d) with %d left: %v, %v", c.n, c.fuel-c.used, f, e)
		}
		has(t, "Fork, the new one", f, c.n, 0)
		has(t, "Fork, the first one", m, c.fuel-c.used, c.used)
	}
}

func TestForkRefused(t *testing.T) { // P11.2
	for _, c := range []struct{ fuel, used, n int }{
		{0, 0, 1}, {1, 0, 2}, {1, 1, 1}, {10, 4, 7}, {10, 4, 10}, {10, 10, 1}, {most, 0, most + 1}, {most, 1, most}, {10, 0, math.MaxInt}, {10, 0, -1}, {0, 0, -1}, {10, 4, math.MinInt},
	} {
		m := spent(t, c.fuel, c.used)
		f, e := m.Fork(c.n)
		none(t, "Fork("+strconv.Itoa(c.n)+") with "+strconv.Itoa(c.fuel-c.used)+" left", f, e, api.ErrFuel)
		has(t, "a refused Fork", m, c.fuel-c.used, c.used)
	}
}

func TestForkIsItsOwn(t *testing.T) { // P11.2
	m := spent(t, 10, 2)
	f, _ := m.Fork(8)
	is(t, "the new one's Spend", f.Spend(5), api.OK)
	has(t, "the new one's Spend, the first one", m, 8, 2)
	is(t, "the first one's Spend", m.Spend(8), api.OK)
	has(t, "the first one's Spend, the new one", f, 3, 5)
	is(t, "the first one's Step", m.Step(), api.ErrFuel)
	is(t, "the new one's Step", f.Step(), api.OK)
	has(t, "all, the first one", m, 0, 10)
	has(t, "all, the new one", f, 2, 6)

	a, _ := full(t, 4).Fork(4)
	b, _ := a.Fork(4)
	is(t, "a fork's fork", b.Spend(4), api.OK)
	has(t, "a fork's fork's Spend", a, 4, 0)
}

func TestForkAndTake(t *testing.T) { // P11.2
	m := spent(t, 10, 2)
	f, _ := m.Fork(8)
	is(t, "Spend", f.Spend(5), api.OK)
	is(t, "Take", m.Take(f), api.OK)
	has(t, "Take, the first one", m, 3, 7)
	has(t, "Take, the new one", f, 3, 5)
	is(t, "Take again", m.Take(f), api.ErrFuel)
	has(t, "a refused Take", m, 3, 7)
}

func TestTake(t *testing.T) { // P11.2
	for _, c := range []struct {
		fuel, used        int
		oneFuel, oneSpent int
		want              api.Errno
	}{
		{0, 0, 0, 0, api.OK}, {0, 0, most, 0, api.OK}, {10, 10, 5, 0, api.OK}, {10, 4, 5, 0, api.OK},
		{10, 4, 6, 5, api.OK}, {10, 4, 6, 6, api.OK}, {10, 4, 7, 7, api.ErrFuel}, {10, 10, 1, 1, api.ErrFuel}, {0, 0, 1, 1, api.ErrFuel},
		{10, 4, most, 6, api.OK}, {10, 4, most, 7, api.ErrFuel}, {10, 0, most, most, api.ErrFuel},
		{most, 0, most, most, api.OK}, {most, 1, most, most, api.ErrFuel}, {most - 1, 0, most, most - 1, api.OK}, {most - 1, 0, most, most, api.ErrFuel},
	} {
		m, o := spent(t, c.fuel, c.used), spent(t, c.oneFuel, c.oneSpent)
		call := "Take of " + strconv.Itoa(c.oneSpent) + " with " + strconv.Itoa(c.fuel-c.used) + " left"
		is(t, call, m.Take(o), c.want)
		has(t, call+", what is taken", o, c.oneFuel-c.oneSpent, c.oneSpent)
		if c.want == api.OK {
			has(t, call, m, c.fuel-c.used-c.oneSpent, c.used+c.oneSpent)
		} else {
			has(t, call, m, c.fuel-c.used, c.used)
		}
	}
}

func TestTakeOfNil(t *testing.T) { // P11.2
	m := spent(t, 10, 4)
	is(t, "Take of nil", m.Take(nil), api.ErrFuel)
	has(t, "Take of nil", m, 6, 4)
}

func TestTakeOfItself(t *testing.T) { // P11.2
	m := full(t, 4)
	is(t, "Take of itself, nothing taken", m.Take(m), api.OK)
	has(t, "Take of itself, nothing taken", m, 4, 0)
	is(t, "Step", m.Step(), api.OK)
	is(t, "Take of itself", m.Take(m), api.OK)
	has(t, "Take of itself", m, 2, 2)
	is(t, "Take of just as many as are left", m.Take(m), api.OK)
	has(t, "Take of just as many as are left", m, 0, 4)
	is(t, "Take of itself, nothing left", m.Take(m), api.ErrFuel)
	m = spent(t, 5, 3)
	is(t, "Take of itself, too few left", m.Take(m), api.ErrFuel)
	has(t, "Take of itself, too few left", m, 2, 3)
}

func TestExample(t *testing.T) { // example 1
	m := full(t, 2)
	is(t, "Step", m.Step(), api.OK)
	is(t, "Step", m.Step(), api.OK)
	is(t, "Step", m.Step(), api.ErrFuel)
	has(t, "all", m, 0, 2)
}
