package must_test

import (
	"testing"

	"opaline/api"
	"opaline/must"
)

func TestHave(t *testing.T) {
	got, e := must.Door(func() string { return must.Have("a", api.OK) + must.Have("b", api.OK) })
	if e != api.OK || got != "ab" {
		t.Errorf("Have: %q, %v", got, e)
	}
	// The first error ends all.
	got, e = must.Door(func() string {
		return must.Have("a", api.OK) + must.Have("b", api.ErrZero) + must.Have("c", api.ErrLong)
	})
	if e != api.ErrZero || got != "" {
		t.Errorf("Have with an error: %q, %v", got, e)
	}
}

func TestHold(t *testing.T) {
	reached := 0
	got, e := must.Door(func() int {
		must.Hold(true, api.ErrArg)
		must.OK(api.OK)
		reached++
		must.Hold(false, api.ErrForm)
		reached++
		return reached
	})
	if e != api.ErrForm || got != 0 || reached != 1 {
		t.Errorf("Hold: %d, %v, reached %d", got, e, reached)
	}
	got, e = must.Door(func() int {
		must.OK(api.ErrMAC)
		reached++
		return reached
	})
	if e != api.ErrMAC || got != 0 || reached != 1 {
		t.Errorf("OK: %d, %v, reached %d", got, e, reached)
	}
}

func TestDone(t *testing.T) {
	reached := 0
	if e := must.Done(func() { reached++ }); e != api.OK || reached != 1 {
		t.Errorf("Done: %v, reached %d", e, reached)
	}
	e := must.Done(func() {
		reached++
		must.OK(api.ErrPower)
		reached++
	})
	if e != api.ErrPower || reached != 2 {
		t.Errorf("Done with an error: %v, reached %d", e, reached)
	}
}

// TestDoors: each door recovers what is behind it alone.
func TestDoors(t *testing.T) {
	got, e := must.Door(func() api.Errno {
		_, inner := must.Door(func() int { return must.Have(1, api.ErrRange) })
		return inner
	})
	if e != api.OK || got != api.ErrRange {
		t.Errorf("an inner door: %v, %v", got, e)
	}
}

// TestDoorOther: panics of another kind go on, even those whose value is an error's number.
func TestDoorOther(t *testing.T) {
	for _, value := range []any{"fault", api.ErrZero, 9} {
		func() {
			defer func() {
				if p := recover(); p != value {
					t.Errorf("a panic with %v: %v", value, p)
				}
			}()
			must.Door(func() int { panic(value) })
			t.Errorf("a panic with %v is hidden", value)
		}()
	}
}
