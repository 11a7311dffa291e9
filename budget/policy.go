package budget

import (
	"math"

	"opaline/api"
)

// Policy is how guesses are counted.
type Policy struct {
	Most  int
	Every uint64
	Back  int
}

// Check: may it be?
func (p Policy) Check() api.Errno {
	if p.Most < 1 || p.Most > api.MaxBudget || p.Every < 1 || p.Back < 0 || p.Back > p.Most {
		return api.ErrArg
	}
	return api.OK
}

// Window: of a tick.
func (p Policy) Window(tick uint64) uint64 {
	// No policy has 0 ticks a window, but asked of one that has, it mustn't panic.
	return tick / max(p.Every, 1)
}

// Later: a tick so much later, or the last one.
func Later(tick, n uint64) uint64 { return tick + min(n, math.MaxUint64-tick) }

// Fresh: all guesses.
func (p Policy) Fresh(tick uint64) Budget { return Budget{Left: p.Most, Window: p.Window(tick)} }

// At: a budget at a tick.
func (p Policy) At(b Budget, tick uint64) (Budget, bool) {
	now := p.Window(tick)
	if b.Window >= now {
		return b, false
	}
	b.Left = max(b.Left, p.Most)
	b.Window = now
	return b, true
}

// Spend: one guess.
func (p Policy) Spend(b Budget, tick uint64) (Budget, api.Errno) {
	b, _ = p.At(b, tick)
	if b.Locked || b.Left < 1 {
		return b, api.ErrLocked
	}
	b.Left--
	return b, api.OK
}

// Back1: some come back.
func (p Policy) Back1(b Budget) Budget {
	if b.Left < p.Most {
		b.Left = min(b.Left+p.Back, p.Most)
	}
	return b
}

// Step is what becomes of a budget at a tick.
type Step func(b Budget, tick uint64) (Budget, api.Errno)

// Steps: what can become of a budget.
func (p Policy) Steps() [4]Step { return [4]Step{p.Spend, p.look, p.lock, p.renew} }

func (p Policy) look(b Budget, tick uint64) (Budget, api.Errno) {
	b, _ = p.At(b, tick)
	return b, api.OK
}

func (p Policy) lock(b Budget, tick uint64) (Budget, api.Errno) {
	b, _ = p.At(b, tick)
	b.Locked = true
	return b, api.OK
}

func (p Policy) renew(_ Budget, tick uint64) (Budget, api.Errno) { return p.Fresh(tick), api.OK }
