package tests

import (
	"slices"
	"testing"

	"loop.example/g00897/impl"
)

// The tests of this file would fail if promise 22, or promise 29 for a function of chapter 22, were
// broken.

// TestPromise22PlacedAmplifiersKeepEveryLevel places amplifiers on lines, and checks the levels of
// the result. No amplifier of it can be spared.
func TestPromise22PlacedAmplifiersKeepEveryLevel(t *testing.T) {
	next := numbers(223)
	kept, spared, impossible := 0, 0, 0
	for range 800 {
		var line []impl.Span
		for range 1 + next(impl.MaxSpans) {
			line = append(line, fiberSpan(next(1001), next(501), next(11)))
		}
		launch, need := next(4000), next(3000)-1500
		a := amplifier(0, next(1500), launch-next(400), 100*next(99))
		placed, ok := impl.PlaceAmplifiers(line, a, launch, need)
		if !ok {
			if list, fine := expectedPlaced(line, a, launch, need); fine {
				t.Errorf("%v from %d to %d has no amplifiers like %v, but %v would do", line, launch, need, a, list)
			}
			impossible++
			continue
		}
		before, _, _ := expectedLevels(line, placed, launch)
		if slices.Min(before) < need {
			t.Errorf("%v from %d to %d with %v has the levels %v", line, launch, need, placed, before)
		}
		if worst, _, fine := impl.WorstLevel(line, placed, launch); !fine || worst < need {
			t.Errorf("%v from %d to %d with %v has the worst level %d, %v", line, launch, need, placed, worst, fine)
		}
		for i, b := range placed {
			if b.Gain != a.Gain || b.Output != a.Output || b.Noise != a.Noise || b.After >= len(line)-1 {
				t.Errorf("%v is placed instead of %v", b, a)
			}
			without := slices.Delete(slices.Clone(placed), i, i+1)
			if before, _, _ := expectedLevels(line, without, launch); slices.Min(before) >= need {
				spared++
			}
		}
		kept += len(placed)
	}
	if kept < 100 || impossible < 100 || spared > 0 {
		t.Errorf("%d amplifiers are placed, %d of them not needed, and %d lines have none", kept, spared, impossible)
	}
}

// TestPromise22LevelsOfLinearValuesAreRecovered goes through all levels.
func TestPromise22LevelsOfLinearValuesAreRecovered(t *testing.T) {
	last, count := 0, 0
	for level := -impl.MaxLevel; level <= impl.MaxLevel; level++ {
		value, ok := impl.LinearValue(level)
		if ok != (level >= 0 && level <= 9900 && level%100 == 0) {
			t.Errorf("LinearValue(%d) = %d, %v", level, value, ok)
		}
		if !ok {
			continue
		}
		if again, fine := impl.LevelOf(value); !fine || again != level {
			t.Errorf("LevelOf(%d) = %d, %v instead of %d", value, again, fine, level)
		}
		if value <= last {
			t.Errorf("the value %d of %d is not greater than %d", value, level, last)
		}
		// The noise of one amplifier is its own level.
		if sum, fine := impl.NoiseSum(amplifiers(amplifier(0, 0, 0, level))); !fine || sum != level {
			t.Errorf("the noise %d becomes %d, %v", level, sum, fine)
		}
		last, count = value, count+1
	}
	if count != 100 {
		t.Errorf("%d levels have a linear value", count)
	}
}

func budgetCandidates() candidates {
	c := candidates{}
	for i, line := range badLines() {
		if i < 4 || i%5 == 0 {
			c.add(line)
		}
	}
	c.add(lineOf(0), lineOf(100, 100, 50), lineOf(1000, 1000, 1000, 1000, 1000, 1000, 1000, 1000, 1000, 1000, 1000, 1000))
	for i, list := range badAmplifierLists() {
		if i%4 == 0 {
			c.add(list)
		}
	}
	c.add(amplifiers(), amplifiers(amplifier(0, 80, 300, 0)), amplifiers(amplifier(0, 900, 5000, 1000), amplifier(2, 800, 0, 9900)))
	for _, s := range badSpans() {
		c.add(s)
	}
	c.add(fiberSpan(0, 0, 0), fiberSpan(80, 220, 2), fiberSpan(1000, 1000, 50))
	for _, a := range badAmplifiers() {
		c.add(a)
	}
	c.add(amplifier(0, 120, 150, 0), amplifier(5, 10000, 10000, 10000), amplifier(-1, 0, -10000, 0))
	c.add(minInt, -10001, -10000, -1, 0, 99, 100, 1000, 9900, 10000, 10001, 10000000000000, maxInt)
	return c
}

func TestPromise29BudgetFunctions(t *testing.T) {
	c := budgetCandidates()
	for _, f := range []any{impl.SpanLoss, impl.PowerProfile, impl.WorstLevel, impl.PowerMargin, impl.PlaceAmplifiers, impl.LinearValue, impl.LevelOf, impl.NoiseSum, impl.MostSpans} {
		sweep(t, f, c, 3000, func(args []any) bool {
			line, ok := args[0].([]impl.Span)
			return ok && (len(line) == 0 || len(line) > impl.MaxSpans)
		})
	}
}
