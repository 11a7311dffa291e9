package budget_test

import (
	"math"
	"math/big"
	"math/rand"
	"testing"

	"opaline/api"
	"opaline/budget"
)

func TestCheck(t *testing.T) {
	for _, c := range []struct {
		p    budget.Policy
		want api.Errno
	}{
		{budget.Policy{Most: 1, Every: 1, Back: 0}, api.OK},
		{budget.Policy{Most: 1, Every: 1, Back: 1}, api.OK},
		{budget.Policy{Most: 1000, Every: math.MaxUint64, Back: 1000}, api.OK},
		{budget.Policy{Most: 3, Every: 10, Back: 2}, api.OK},
		{budget.Policy{}, api.ErrArg},
		{budget.Policy{Most: 0, Every: 1, Back: 0}, api.ErrArg},
		{budget.Policy{Most: -1, Every: 1, Back: -1}, api.ErrArg},
		{budget.Policy{Most: 1001, Every: 1, Back: 0}, api.ErrArg},
		{budget.Policy{Most: math.MaxInt, Every: 1, Back: 0}, api.ErrArg},
		{budget.Policy{Most: 1, Every: 0, Back: 0}, api.ErrArg},
		{budget.Policy{Most: 1, Every: 1, Back: -1}, api.ErrArg},
		{budget.Policy{Most: 1, Every: 1, Back: 2}, api.ErrArg},
		{budget.Policy{Most: 999, Every: 1, Back: 1000}, api.ErrArg},
		{budget.Policy{Most: 9, Every: 1, Back: math.MinInt}, api.ErrArg},
	} {
		if got := c.p.Check(); got != c.want {
			t.Errorf("Check of %+v: %v", c.p, got)
		}
	}
}

func TestWindow(t *testing.T) {
	for _, c := range [][3]uint64{
		{1, 0, 0}, {1, 7, 7}, {1, math.MaxUint64, math.MaxUint64},
		{10, 0, 0}, {10, 9, 0}, {10, 10, 1}, {10, 19, 1}, {10, 20, 2},
		{math.MaxUint64, math.MaxUint64 - 1, 0}, {math.MaxUint64, math.MaxUint64, 1},
		{1 << 63, math.MaxUint64, 1}, {3, math.MaxUint64, math.MaxUint64 / 3},
	} {
		p := budget.Policy{Most: 2, Every: c[0]}
		if got := p.Window(c[1]); got != c[2] {
			t.Errorf("Window of %d by %d: %d", c[1], c[0], got)
		}
		if got := p.Fresh(c[1]); got != (budget.Budget{Left: 2, Window: c[2]}) {
			t.Errorf("Fresh at %d by %d: %+v", c[1], c[0], got)
		}
	}
}

func TestLater(t *testing.T) {
	last := new(big.Int).SetUint64(math.MaxUint64)
	ends := []uint64{0, 1, 2, 1000, 1 << 32, 1<<63 - 1, 1 << 63, 1<<63 + 1, math.MaxUint64 - 1, math.MaxUint64}
	for _, tick := range ends {
		for _, n := range ends {
			sum := new(big.Int).Add(new(big.Int).SetUint64(tick), new(big.Int).SetUint64(n))
			if sum.Cmp(last) > 0 {
				sum = last
			}
			if got := budget.Later(tick, n); got != sum.Uint64() {
				t.Errorf("Later(%d, %d): %d", tick, n, got)
			}
		}
	}
}

func TestAt(t *testing.T) {
	p := budget.Policy{Most: 3, Every: 10, Back: 1}
	for _, c := range []struct {
		b       budget.Budget
		tick    uint64
		want    budget.Budget
		another bool
	}{
		{budget.Budget{Left: 1, Window: 0}, 9, budget.Budget{Left: 1, Window: 0}, false},
		{budget.Budget{Left: 1, Window: 0}, 10, budget.Budget{Left: 3, Window: 1}, true},
		{budget.Budget{Left: 0, Window: 2}, 99, budget.Budget{Left: 3, Window: 9}, true},
		// It has all of them: the window alone is another one.
		{budget.Budget{Left: 3, Window: 0}, 10, budget.Budget{Left: 3, Window: 1}, true},
		// It has more, of another policy.
		{budget.Budget{Left: 7, Window: 0}, 10, budget.Budget{Left: 7, Window: 1}, true},
		{budget.Budget{Left: 7, Window: 1}, 10, budget.Budget{Left: 7, Window: 1}, false},
		// Its window isn't there yet.
		{budget.Budget{Left: 1, Window: 5}, 10, budget.Budget{Left: 1, Window: 5}, false},
		{budget.Budget{Left: 1, Window: 0, Locked: true}, 5, budget.Budget{Left: 1, Window: 0, Locked: true}, false},
		{budget.Budget{Left: 1, Window: 0, Locked: true}, 15, budget.Budget{Left: 3, Window: 1, Locked: true}, true},
		{budget.Budget{Left: 0, Window: math.MaxUint64}, math.MaxUint64, budget.Budget{Left: 0, Window: math.MaxUint64}, false},
		{budget.Budget{Left: -4, Window: 0}, 10, budget.Budget{Left: 3, Window: 1}, true},
	} {
		if got, another := p.At(c.b, c.tick); got != c.want || another != c.another {
			t.Errorf("At(%+v, %d): %+v, %v", c.b, c.tick, got, another)
		}
	}
}

func TestSpend(t *testing.T) {
	p := budget.Policy{Most: 2, Every: 10, Back: 1}
	for _, c := range []struct {
		b    budget.Budget
		tick uint64
		want budget.Budget
		e    api.Errno
	}{
		{budget.Budget{Left: 2, Window: 0}, 5, budget.Budget{Left: 1, Window: 0}, api.OK},
		{budget.Budget{Left: 1, Window: 0}, 5, budget.Budget{Left: 0, Window: 0}, api.OK},
		{budget.Budget{Left: 0, Window: 0}, 9, budget.Budget{Left: 0, Window: 0}, api.ErrLocked},
		{budget.Budget{Left: 0, Window: 0}, 10, budget.Budget{Left: 1, Window: 1}, api.OK},
		{budget.Budget{Left: 9, Window: 0}, 10, budget.Budget{Left: 8, Window: 1}, api.OK},
		// Beside the error there is what the tick made of it.
		{budget.Budget{Left: 1, Window: 0, Locked: true}, 5, budget.Budget{Left: 1, Window: 0, Locked: true}, api.ErrLocked},
		{budget.Budget{Left: 1, Window: 0, Locked: true}, 25, budget.Budget{Left: 2, Window: 2, Locked: true}, api.ErrLocked},
		{budget.Budget{Left: 0, Window: 7}, 25, budget.Budget{Left: 0, Window: 7}, api.ErrLocked},
		{budget.Budget{Left: -1, Window: 7}, 25, budget.Budget{Left: -1, Window: 7}, api.ErrLocked},
		{budget.Budget{Left: math.MinInt, Window: 7}, 25, budget.Budget{Left: math.MinInt, Window: 7}, api.ErrLocked},
		{budget.Budget{}, 0, budget.Budget{}, api.ErrLocked},
	} {
		if got, e := p.Spend(c.b, c.tick); got != c.want || e != c.e {
			t.Errorf("Spend(%+v, %d): %+v, %v", c.b, c.tick, got, e)
		}
		// So does the first one of the steps.
		if got, e := p.Steps()[0](c.b, c.tick); got != c.want || e != c.e {
			t.Errorf("the first step of %+v at %d: %+v, %v", c.b, c.tick, got, e)
		}
	}
}

func TestBack1(t *testing.T) {
	for _, c := range []struct {
		most, back, left, want int
	}{
		{3, 1, 0, 1}, {3, 1, 2, 3}, {3, 1, 3, 3}, {3, 2, 2, 3}, {3, 3, 0, 3}, {3, 3, 1, 3},
		{3, 0, 1, 1}, {3, 0, 3, 3}, {3, 1, 4, 4}, {3, 3, 1000, 1000}, {3, 2, math.MaxInt, math.MaxInt},
		{1000, 1000, 999, 1000}, {3, 2, -1, 1},
	} {
		p := budget.Policy{Most: c.most, Every: 5, Back: c.back}
		for _, locked := range []bool{false, true} {
			got := p.Back1(budget.Budget{Left: c.left, Window: 8, Locked: locked})
			if got != (budget.Budget{Left: c.want, Window: 8, Locked: locked}) {
				t.Errorf("Back1 by %+v of %d: %+v", p, c.left, got)
			}
		}
	}
}

func TestSteps(t *testing.T) {
	p := budget.Policy{Most: 2, Every: 10, Back: 1}
	steps := p.Steps()
	for _, left := range []int{-1, 0, 1, 2, 5} {
		for _, window := range []uint64{0, 1, 2, 9} {
			for _, locked := range []bool{false, true} {
				for _, tick := range []uint64{0, 9, 10, 25, math.MaxUint64} {
					b := budget.Budget{Left: left, Window: window, Locked: locked}
					at, _ := p.At(b, tick)
					shut := at
					shut.Locked = true
					for i, want := range map[int]budget.Budget{1: at, 2: shut, 3: p.Fresh(tick)} {
						if got, e := steps[i](b, tick); e != api.OK || got != want {
							t.Errorf("step %d of %+v at %d: %+v, %v", i, b, tick, got, e)
						}
					}
				}
			}
		}
	}
	// Each policy has its own steps, and who changes the array changes no other one.
	steps[0] = nil
	if b, e := p.Steps()[0](p.Fresh(0), 0); e != api.OK || b.Left != 1 {
		t.Error("the steps are one memory")
	}
	if b, _ := (budget.Policy{Most: 9, Every: 1}).Steps()[3](budget.Budget{}, 7); b != (budget.Budget{Left: 9, Window: 7}) {
		t.Errorf("another policy's step: %+v", b)
	}
}

// TestGuesses: within a window no more are spent, from Fresh on, than Most and those that came back.
func TestGuesses(t *testing.T) {
	random := rand.New(rand.NewSource(20))
	for range 300 {
		most := 1 + random.Intn(6)
		p := budget.Policy{Most: most, Every: uint64(1 + random.Intn(20)), Back: random.Intn(most + 1)}
		start := uint64(random.Intn(100))
		b := p.Fresh(start)
		tick, window, spent, back := start, b.Window, 0, 0
		for range 200 {
			tick += uint64(random.Intn(3)) * uint64(random.Intn(2))
			if now := p.Window(tick); now != window {
				window, spent, back = now, 0, 0
			}
			if random.Intn(4) == 0 {
				// What was the budget of an earlier window comes back to it alone.
				b, _ = p.At(b, tick)
				before := b.Left
				b = p.Back1(b)
				back += b.Left - before
				continue
			}
			left := max(most+back-spent, 0)
			next, e := p.Spend(b, tick)
			if (e == api.OK) != (left > 0) {
				t.Fatalf("%+v: %d spent, %d back: %v", p, spent, back, e)
			}
			if e == api.OK {
				spent++
			}
			b = next
		}
	}
}

// TestOther: of policies that may not be nothing is promised, but that nothing panics.
func TestOther(t *testing.T) {
	for _, most := range []int{math.MinInt, -1, 0, 1, math.MaxInt} {
		for _, back := range []int{math.MinInt, -1, 0, 1, math.MaxInt} {
			p := budget.Policy{Most: most, Back: back}
			b := budget.Budget{Left: most, Window: 1}
			p.Window(5)
			p.Fresh(5)
			p.At(b, 5)
			p.Back1(b)
			for _, step := range p.Steps() {
				step(b, 5)
			}
		}
	}
}
