package tests

import (
	"math/big"
	"slices"
	"testing"

	"loop.example/g00897/impl"
)

// The tests of this file compare every function of chapter 22 with what the document states:
// ordinary inputs, the edge cases that the chapter names, and invalid inputs.

func fiberSpan(length int, loss int, splices int) impl.Span {
	return impl.Span{Length: length, Loss: loss, Splices: splices}
}

// lossy returns a span with a loss of at most 1000.
func lossy(loss int) impl.Span { return fiberSpan(1000, loss, 0) }

// lineOf returns a line with these losses.
func lineOf(losses ...int) []impl.Span {
	line := []impl.Span{}
	for _, loss := range losses {
		line = append(line, lossy(loss))
	}
	return line
}

func amplifier(after int, gain int, output int, noise int) impl.Amplifier {
	return impl.Amplifier{After: after, Gain: gain, Output: output, Noise: noise}
}

func amplifiers(list ...impl.Amplifier) []impl.Amplifier { return list }

// badSpans returns spans that are not valid.
func badSpans() []impl.Span {
	var list []impl.Span
	for _, x := range []int{-1, 1001, minInt, maxInt} {
		list = append(list, fiberSpan(x, 1, 1), fiberSpan(1, x, 1), fiberSpan(x, x, 0))
	}
	return append(list, fiberSpan(1, 1, -1), fiberSpan(1, 1, 51), fiberSpan(1, 1, minInt), fiberSpan(1, 1, maxInt), fiberSpan(80, 22000, 2))
}

// badLines returns lists of spans that are no lines.
func badLines() [][]impl.Span {
	lists := [][]impl.Span{nil, {}, lineOf(make([]int, 13)...), lineOf(make([]int, 100)...)}
	for _, s := range badSpans() {
		lists = append(lists, []impl.Span{s}, append(lineOf(1, 2), s), append([]impl.Span{s}, lineOf(1, 2)...))
	}
	return lists
}

// badLevels returns numbers that are no levels.
func badLevels() []int { return []int{-10001, 10001, 100000, minInt, maxInt} }

// badAmplifiers returns amplifiers that are not valid, wherever they stand.
func badAmplifiers() []impl.Amplifier {
	var list []impl.Amplifier
	for _, x := range []int{-1, 10001, minInt, maxInt} {
		list = append(list, amplifier(0, x, 0, 0), amplifier(0, 0, 0, x))
	}
	for _, x := range badLevels() {
		list = append(list, amplifier(0, 0, x, 0))
	}
	return list
}

// badAmplifierLists returns lists that are not valid for two spans.
func badAmplifierLists() [][]impl.Amplifier {
	at := func(after ...int) []impl.Amplifier {
		var list []impl.Amplifier
		for _, x := range after {
			list = append(list, amplifier(x, 1, 1, 1000))
		}
		return list
	}
	lists := [][]impl.Amplifier{at(-1), at(2), at(0, 0), at(1, 1), at(1, 0), at(0, 1, 1), at(0, 1, 2), at(0, 2), at(-1, 0), at(minInt), at(maxInt), at(0, maxInt), at(minInt, 1)}
	for _, a := range badAmplifiers() {
		other := a
		other.After = 1
		lists = append(lists, amplifiers(a), append(at(0), other), append(amplifiers(a), at(1)...))
	}
	return lists
}

// expectedLoss counts up to the loss by length.
func expectedLoss(s impl.Span) int {
	loss := 0
	for loss*1000 < s.Length*s.Loss {
		loss++
	}
	return loss + 5*s.Splices
}

// expectedLevels returns the levels directly behind every span, and those behind the amplifiers
// there. It fails if a level is outside of its limits.
func expectedLevels(line []impl.Span, list []impl.Amplifier, launch int) ([]int, []int, bool) {
	before, behind, ok := []int{}, []int{}, launch >= -10000 && launch <= 10000
	level := launch
	for i, s := range line {
		level -= expectedLoss(s)
		ok = ok && level >= -10000
		before = append(before, level)
		for _, a := range list {
			if a.After == i && a.Output > level {
				level += a.Gain
				if level > a.Output {
					level = a.Output
				}
			}
		}
		behind = append(behind, level)
	}
	return before, behind, ok
}

func TestSpanLoss(t *testing.T) {
	check(t, impl.SpanLoss, in(fiberSpan(80, 220, 2)), out(28, true))
	check(t, impl.SpanLoss, in(fiberSpan(0, 0, 0)), out(0, true))
	check(t, impl.SpanLoss, in(fiberSpan(1000, 1000, 50)), out(1250, true))
	// A loss by length that has to be rounded up, and one that has not.
	check(t, impl.SpanLoss, in(fiberSpan(1, 1, 0)), out(1, true))
	check(t, impl.SpanLoss, in(fiberSpan(1, 999, 0)), out(1, true))
	check(t, impl.SpanLoss, in(fiberSpan(1, 1000, 0)), out(1, true))
	check(t, impl.SpanLoss, in(fiberSpan(7, 143, 0)), out(2, true))
	check(t, impl.SpanLoss, in(fiberSpan(1000, 1, 1)), out(6, true))
	check(t, impl.SpanLoss, in(fiberSpan(999, 1000, 0)), out(999, true))
	check(t, impl.SpanLoss, in(fiberSpan(999, 999, 0)), out(999, true))
	check(t, impl.SpanLoss, in(fiberSpan(0, 1000, 3)), out(15, true))
	check(t, impl.SpanLoss, in(fiberSpan(1000, 0, 50)), out(250, true))
	for length := 0; length <= 1000; length += 77 {
		for loss := 0; loss <= 1000; loss += 83 {
			s := fiberSpan(length, loss, (length+loss)%51)
			check(t, impl.SpanLoss, in(s), out(expectedLoss(s), true))
		}
	}
	for _, s := range badSpans() {
		checkFails(t, impl.SpanLoss, s)
	}
}

func TestPowerProfile(t *testing.T) {
	line := lineOf(100, 100, 50)
	check(t, impl.PowerProfile, in(line, amplifiers(), 200), out([]int{100, 0, -50}, true))
	check(t, impl.PowerProfile, in(line, amplifiers(amplifier(0, 80, 300, 0)), 200), out([]int{180, 80, 30}, true))
	check(t, impl.PowerProfile, in(line, amplifiers(amplifier(0, 80, 300, 0), amplifier(2, 20, 300, 0)), 200), out([]int{180, 80, 50}, true))
	check(t, impl.WorstLevel, in(line, amplifiers(amplifier(0, 80, 300, 0), amplifier(2, 20, 300, 0)), 200), out(30, 2, true))
	// Amplifiers at their greatest output, and others that would lower the level.
	check(t, impl.PowerProfile, in(line, amplifiers(amplifier(0, 80, 180, 0)), 200), out([]int{180, 80, 30}, true))
	check(t, impl.PowerProfile, in(line, amplifiers(amplifier(0, 80, 179, 0)), 200), out([]int{179, 79, 29}, true))
	check(t, impl.PowerProfile, in(line, amplifiers(amplifier(0, 80, 100, 0)), 200), out([]int{100, 0, -50}, true))
	check(t, impl.PowerProfile, in(line, amplifiers(amplifier(0, 80, 99, 0)), 200), out([]int{100, 0, -50}, true))
	check(t, impl.PowerProfile, in(line, amplifiers(amplifier(0, 80, -10000, 0)), 200), out([]int{100, 0, -50}, true))
	check(t, impl.PowerProfile, in(line, amplifiers(amplifier(0, 0, 10000, 0)), 200), out([]int{100, 0, -50}, true))
	check(t, impl.PowerProfile, in(line, amplifiers(amplifier(0, 10000, 10000, 0)), 200), out([]int{10000, 9900, 9850}, true))
	check(t, impl.PowerProfile, in(line, amplifiers(amplifier(1, 10000, 9999, 10000)), 10000), out([]int{9900, 9999, 9949}, true))
	// Lines without loss.
	check(t, impl.PowerProfile, in(lineOf(0, 0), amplifiers(), -10000), out([]int{-10000, -10000}, true))
	check(t, impl.PowerProfile, in(lineOf(0, 0), amplifiers(amplifier(1, 3, 0, 0)), -10000), out([]int{-10000, -9997}, true))
	check(t, impl.PowerProfile, in(lineOf(0), amplifiers(), 10000), out([]int{10000}, true))
	check(t, impl.WorstLevel, in(lineOf(0, 0, 0), amplifiers(), 7), out(7, 0, true))
	// Levels at the limits, and below them, also where an amplifier would raise them again.
	check(t, impl.PowerProfile, in(lineOf(1000, 1000), amplifiers(), -8000), out([]int{-9000, -10000}, true))
	checkFails(t, impl.PowerProfile, lineOf(1000, 1000), amplifiers(), -8001)
	checkFails(t, impl.PowerProfile, lineOf(1000, 1000), amplifiers(amplifier(1, 500, 0, 0)), -8001)
	check(t, impl.PowerProfile, in(lineOf(1000, 1000), amplifiers(amplifier(0, 1, 0, 0)), -8001), out([]int{-9000, -10000}, true))
	checkFails(t, impl.PowerProfile, lineOf(1), amplifiers(), -10000)
	checkFails(t, impl.WorstLevel, lineOf(1000, 1000), amplifiers(), -8001)
	checkFails(t, impl.PowerMargin, lineOf(1000, 1000), amplifiers(), -8001, -9000)
}

func TestWorstLevel(t *testing.T) {
	line := lineOf(100, 100, 50)
	check(t, impl.WorstLevel, in(line, amplifiers(), 200), out(-50, 2, true))
	check(t, impl.WorstLevel, in(line, amplifiers(amplifier(1, 1000, 5000, 0)), 200), out(0, 1, true))
	check(t, impl.WorstLevel, in(line, amplifiers(amplifier(0, 100, 5000, 0), amplifier(1, 50, 5000, 0)), 200), out(100, 0, true))
	check(t, impl.WorstLevel, in(line, amplifiers(amplifier(0, 99, 5000, 0)), 200), out(49, 2, true))
	check(t, impl.WorstLevel, in(lineOf(7), amplifiers(amplifier(0, 99, 5000, 0)), 0), out(-7, 0, true))
}

func TestPowerMargin(t *testing.T) {
	line := lineOf(100, 100, 50)
	amps := amplifiers(amplifier(0, 80, 300, 0))
	check(t, impl.PowerMargin, in(line, amps, 200, -20), out(50, true))
	check(t, impl.PowerMargin, in(line, amps, 200, 30), out(0, true))
	check(t, impl.PowerMargin, in(line, amps, 200, 31), out(-1, true))
	check(t, impl.PowerMargin, in(line, amplifiers(amplifier(2, 500, 300, 0)), 200, 0), out(300, true))
	// Margins at the limits and beyond.
	check(t, impl.PowerMargin, in(lineOf(0), amplifiers(), 0, -10000), out(10000, true))
	checkFails(t, impl.PowerMargin, lineOf(0), amplifiers(), 1, -10000)
	check(t, impl.PowerMargin, in(lineOf(0), amplifiers(), 0, 10000), out(-10000, true))
	checkFails(t, impl.PowerMargin, lineOf(0), amplifiers(), -1, 10000)
	check(t, impl.PowerMargin, in(lineOf(0), amplifiers(), -10000, -10000), out(0, true))
	check(t, impl.PowerMargin, in(lineOf(0), amplifiers(), 10000, 10000), out(0, true))
	for _, need := range badLevels() {
		checkFails(t, impl.PowerMargin, line, amps, 200, need)
		checkFails(t, impl.PlaceAmplifiers, line, amps[0], 200, need)
	}
}

// TestInvalidBudgets tries lines, lists of amplifiers and levels that are not valid.
func TestInvalidBudgets(t *testing.T) {
	for _, line := range badLines() {
		checkFails(t, impl.PowerProfile, line, amplifiers(), 200)
		checkFails(t, impl.WorstLevel, line, amplifiers(), 200)
		checkFails(t, impl.PowerMargin, line, amplifiers(), 200, 0)
		checkFails(t, impl.PlaceAmplifiers, line, amplifier(0, 1, 1, 1), 200, 0)
		checkFails(t, impl.PlaceAmplifiers, line, amplifier(0, 1, 1, 1), 200, -10000)
	}
	line := lineOf(10, 20)
	for _, list := range badAmplifierLists() {
		checkFails(t, impl.PowerProfile, line, list, 200)
		checkFails(t, impl.WorstLevel, line, list, 200)
		checkFails(t, impl.PowerMargin, line, list, 200, 0)
	}
	for _, launch := range badLevels() {
		checkFails(t, impl.PowerProfile, line, amplifiers(), launch)
		checkFails(t, impl.WorstLevel, line, amplifiers(), launch)
		checkFails(t, impl.PowerMargin, line, amplifiers(), launch, 0)
		checkFails(t, impl.PlaceAmplifiers, line, amplifier(0, 1, 1, 1), launch, -10000)
	}
	for _, a := range badAmplifiers() {
		checkFails(t, impl.PlaceAmplifiers, line, a, 200, 0)
		checkFails(t, impl.NoiseSum, amplifiers(a))
	}
	// Exactly MaxSpans spans, with an amplifier behind the last one.
	long := lineOf(1, 2, 3, 4, 5, 6, 7, 8, 9, 10, 11, 12)
	check(t, impl.PowerProfile, in(long, amplifiers(amplifier(11, 5, 10, 0)), 0), out([]int{-1, -3, -6, -10, -15, -21, -28, -36, -45, -55, -66, -73}, true))
	checkFails(t, impl.PowerProfile, long, amplifiers(amplifier(12, 5, 10, 0)), 0)
	checkFails(t, impl.PowerProfile, append(slices.Clone(long), lossy(0)), amplifiers(), 0)
}

// expectedPlaced places amplifiers where the next level would be too low with those placed before.
func expectedPlaced(line []impl.Span, a impl.Amplifier, launch int, need int) ([]impl.Amplifier, bool) {
	placed := amplifiers()
	for i := range len(line) - 1 {
		if before, _, _ := expectedLevels(line, placed, launch); before[i+1] < need {
			placed = append(placed, amplifier(i, a.Gain, a.Output, a.Noise))
		}
	}
	before, _, ok := expectedLevels(line, placed, launch)
	return placed, ok && slices.Min(before) >= need
}

func TestPlaceAmplifiers(t *testing.T) {
	line := lineOf(100, 100, 50)
	a := amplifier(0, 120, 150, 900)
	check(t, impl.PlaceAmplifiers, in(line, a, 200, 20), out(amplifiers(a, amplifier(1, 120, 150, 900)), true))
	check(t, impl.PlaceAmplifiers, in(line, a, 200, 0), out(amplifiers(amplifier(1, 120, 150, 900)), true))
	check(t, impl.PlaceAmplifiers, in(line, a, 200, -50), out(amplifiers(), true))
	check(t, impl.PlaceAmplifiers, in(line, a, 200, -49), out(amplifiers(amplifier(1, 120, 150, 900)), true))
	check(t, impl.PlaceAmplifiers, in(line, a, 200, 50), out(amplifiers(a, amplifier(1, 120, 150, 900)), true))
	checkFails(t, impl.PlaceAmplifiers, line, a, 200, 51)
	// The first span comes before any amplifier, and none is placed behind the last one.
	checkFails(t, impl.PlaceAmplifiers, line, amplifier(0, 10000, 10000, 0), 200, 101)
	check(t, impl.PlaceAmplifiers, in(line, amplifier(0, 10000, 10000, 0), 200, 100), out(amplifiers(amplifier(0, 10000, 10000, 0)), true))
	check(t, impl.PlaceAmplifiers, in(lineOf(100), a, 200, 100), out(amplifiers(), true))
	checkFails(t, impl.PlaceAmplifiers, lineOf(100), a, 200, 101)
	// After of the amplifier does not matter.
	for _, after := range []int{-1, 1, 7, minInt, maxInt} {
		check(t, impl.PlaceAmplifiers, in(line, amplifier(after, 120, 150, 900), 200, 20), out(amplifiers(a, amplifier(1, 120, 150, 900)), true))
		check(t, impl.PlaceAmplifiers, in(line, amplifier(after, 120, 150, 900), 200, -50), out(amplifiers(), true))
	}
	// Lines on which no amplifier helps.
	checkFails(t, impl.PlaceAmplifiers, line, amplifier(0, 10, 150, 0), 200, 20)
	checkFails(t, impl.PlaceAmplifiers, line, amplifier(0, 0, 150, 0), 200, 20)
	checkFails(t, impl.PlaceAmplifiers, line, amplifier(0, 10000, 100, 0), 200, 20)
	// Lines without loss, and levels at the limits, also such that would be below without amplifiers.
	check(t, impl.PlaceAmplifiers, in(lineOf(0, 0, 0), a, 7, 7), out(amplifiers(), true))
	checkFails(t, impl.PlaceAmplifiers, lineOf(0, 0, 0), a, 7, 8)
	checkFails(t, impl.PlaceAmplifiers, lineOf(1000, 1000), amplifier(0, 999, 0, 0), -9000, -10000)
	check(t, impl.PlaceAmplifiers, in(lineOf(1000, 1000), amplifier(0, 1000, 0, 0), -9000, -10000), out(amplifiers(amplifier(0, 1000, 0, 0)), true))
	checkFails(t, impl.PlaceAmplifiers, lineOf(1000, 1), amplifier(0, 1000, 0, 0), -9001, -10000)
	check(t, impl.PlaceAmplifiers, in(lineOf(0, 1000), amplifier(0, 10000, 10000, 0), 10000, 9000), out(amplifiers(), true))
}

func TestBudgetsOfSamples(t *testing.T) {
	next := numbers(22)
	placed, refused, low := 0, 0, 0
	for range 600 {
		var line []impl.Span
		for range 1 + next(impl.MaxSpans) {
			line = append(line, fiberSpan(next(1001), next(1001)/(1+next(3)), next(51)/(1+next(20))))
		}
		launch := []int{next(20001) - 10000, next(2000), 10000, -9000}[next(4)]
		a := amplifier(next(12), next(2500), []int{next(20001) - 10000, next(3000), 10000}[next(3)], 100*next(100))
		var list []impl.Amplifier
		for i := range line {
			if next(3) == 0 {
				list = append(list, amplifier(i, next(1500), launch-600+next(1000), 0))
			}
		}
		for i := range list {
			list[i].Output = max(-10000, min(10000, list[i].Output))
		}
		before, behind, ok := expectedLevels(line, list, launch)
		need := max(-10000, min(10000, launch-next(2200)))
		if ok {
			worst := slices.Min(before)
			check(t, impl.PowerProfile, in(line, list, launch), out(behind, true))
			check(t, impl.WorstLevel, in(line, list, launch), out(worst, slices.Index(before, worst), true))
			check(t, impl.PowerMargin, in(line, list, launch, need), out(behind[len(behind)-1]-need, true))
		} else {
			checkFails(t, impl.PowerProfile, line, list, launch)
			checkFails(t, impl.WorstLevel, line, list, launch)
			checkFails(t, impl.PowerMargin, line, list, launch, need)
			low++
		}
		if want, ok := expectedPlaced(line, a, launch, need); ok {
			check(t, impl.PlaceAmplifiers, in(line, a, launch, need), out(want, true))
			placed += len(want)
		} else {
			checkFails(t, impl.PlaceAmplifiers, line, a, launch, need)
			refused++
		}
	}
	if placed < 150 || refused < 100 || low < 30 {
		t.Errorf("%d amplifiers are placed, %d lines are refused, and %d levels are too low", placed, refused, low)
	}
}

// expectedLinear multiplies a number of the table with a power of ten.
func expectedLinear(level int) (int, bool) {
	if level < 0 || level > 9900 || level%100 != 0 {
		return 0, false
	}
	k, r := level/1000, level%1000/100
	power := new(big.Int).Exp(big.NewInt(10), big.NewInt(int64(k)), nil)
	table := []int64{1000, 1259, 1585, 1995, 2512, 3162, 3981, 5012, 6310, 7943}
	return int(power.Mul(power, big.NewInt(table[r])).Int64()), true
}

func TestLinearValue(t *testing.T) {
	check(t, impl.LinearValue, in(0), out(1000, true))
	check(t, impl.LinearValue, in(100), out(1259, true))
	check(t, impl.LinearValue, in(900), out(7943, true))
	check(t, impl.LinearValue, in(1000), out(10000, true))
	check(t, impl.LinearValue, in(1300), out(19950, true))
	check(t, impl.LinearValue, in(9000), out(1000000000000, true))
	check(t, impl.LinearValue, in(9900), out(7943000000000, true))
	for level := range 10200 {
		if value, ok := expectedLinear(level); ok {
			check(t, impl.LinearValue, in(level), out(value, true))
		} else if level < 300 || level > 9700 || level%100 == 99 || level%100 == 50 {
			checkFails(t, impl.LinearValue, level)
		}
	}
	for _, level := range []int{-1, -100, -1000, 9901, 9999, 10000, 10100, 20000, minInt, maxInt} {
		checkFails(t, impl.LinearValue, level)
	}
}

func TestLevelOf(t *testing.T) {
	check(t, impl.LevelOf, in(20000), out(1300, true))
	check(t, impl.LevelOf, in(19950), out(1300, true))
	check(t, impl.LevelOf, in(19949), out(1200, true))
	check(t, impl.LevelOf, in(1000), out(0, true))
	checkFails(t, impl.LevelOf, 999)
	check(t, impl.LevelOf, in(10000000000000), out(9900, true))
	check(t, impl.LevelOf, in(9999999999999), out(9900, true))
	checkFails(t, impl.LevelOf, 10000000000001)
	for level := 0; level <= 9900; level += 100 {
		value, _ := expectedLinear(level)
		check(t, impl.LevelOf, in(value), out(level, true))
		check(t, impl.LevelOf, in(value+1), out(level, true))
		if level > 0 {
			check(t, impl.LevelOf, in(value-1), out(level-100, true))
		}
	}
	for _, value := range []int{0, -1, 1, -1000, minInt, maxInt} {
		checkFails(t, impl.LevelOf, value)
	}
}

func TestNoiseSum(t *testing.T) {
	noises := func(levels ...int) []impl.Amplifier {
		list := amplifiers()
		for i, level := range levels {
			list = append(list, amplifier(i, 0, 0, level))
		}
		return list
	}
	check(t, impl.NoiseSum, in(noises(1000, 1000)), out(1300, true))
	check(t, impl.NoiseSum, in(noises(0)), out(0, true))
	check(t, impl.NoiseSum, in(noises(9900)), out(9900, true))
	check(t, impl.NoiseSum, in(noises(0, 9900)), out(9900, true))
	check(t, impl.NoiseSum, in(noises(900, 100, 800)), out(1100, true))
	// Sums just below, at and above 10^13.
	check(t, impl.NoiseSum, in(noises(9900, 9300)), out(9900, true))
	checkFails(t, impl.NoiseSum, noises(9900, 9400))
	checkFails(t, impl.NoiseSum, noises(9900, 9900))
	checkFails(t, impl.NoiseSum, noises(9900, 9900, 9900, 9900, 9900, 9900, 9900, 9900, 9900, 9900, 9900, 9900))
	checkFails(t, impl.NoiseSum, noises(9000, 9000, 9000, 9000, 9000, 9000, 9000, 9000, 9000, 9000, 0))
	check(t, impl.NoiseSum, in(noises(9000, 9000, 9000, 9000, 9000, 9000, 9000, 9000, 9000, 9000)), out(9900, true))
	// Levels without a linear value, and lists that are empty or not valid.
	for _, level := range []int{1, 99, 150, 9950, 10000, 9901} {
		checkFails(t, impl.NoiseSum, noises(level))
		checkFails(t, impl.NoiseSum, noises(1000, level))
		checkFails(t, impl.NoiseSum, noises(level, 1000))
	}
	checkFails(t, impl.NoiseSum, amplifiers())
	checkFails(t, impl.NoiseSum, noises(0, 0, 0, 0, 0, 0, 0, 0, 0, 0, 0, 0, 0))
	check(t, impl.NoiseSum, in(noises(0, 0, 0, 0, 0, 0, 0, 0, 0, 0, 0, 0)), out(1000, true))
	check(t, impl.NoiseSum, in(amplifiers(amplifier(11, 10000, -10000, 500))), out(500, true))
	checkFails(t, impl.NoiseSum, amplifiers(amplifier(12, 0, 0, 500)))
	for _, list := range badAmplifierLists() {
		if list[len(list)-1].After < 0 || list[0].After > 11 || len(list) > 1 && list[0].After >= list[1].After {
			checkFails(t, impl.NoiseSum, list)
		}
	}
	next := numbers(221)
	for range 300 {
		var levels []int
		sum := 0
		for range 1 + next(impl.MaxSpans) {
			levels = append(levels, 100*(next(20)+next(80)))
			value, _ := expectedLinear(levels[len(levels)-1])
			sum += value
		}
		level := 9900
		for value, _ := expectedLinear(level); value > sum; value, _ = expectedLinear(level) {
			level -= 100
		}
		if sum <= 10000000000000 {
			check(t, impl.NoiseSum, in(noises(levels...)), out(level, true))
		} else {
			checkFails(t, impl.NoiseSum, noises(levels...))
		}
	}
}

func TestMostSpans(t *testing.T) {
	check(t, impl.MostSpans, in(lossy(100), 250, 20), out(2, true))
	check(t, impl.MostSpans, in(lossy(100), 250, 50), out(2, true))
	check(t, impl.MostSpans, in(lossy(100), 250, 51), out(1, true))
	check(t, impl.MostSpans, in(lossy(100), 250, 150), out(1, true))
	check(t, impl.MostSpans, in(lossy(100), 250, 151), out(0, true))
	check(t, impl.MostSpans, in(fiberSpan(80, 220, 2), 0, -84), out(3, true))
	// Needs at the launch level and above it.
	check(t, impl.MostSpans, in(lossy(100), 250, 250), out(0, true))
	check(t, impl.MostSpans, in(lossy(100), 250, 251), out(0, true))
	check(t, impl.MostSpans, in(lossy(0), 250, 250), out(12, true))
	check(t, impl.MostSpans, in(lossy(0), 250, 251), out(0, true))
	check(t, impl.MostSpans, in(lossy(1000), -10000, 10000), out(0, true))
	// At most MaxSpans spans, and levels that would be outside of their limits.
	check(t, impl.MostSpans, in(lossy(1), 250, 238), out(12, true))
	check(t, impl.MostSpans, in(lossy(1), 250, 239), out(11, true))
	check(t, impl.MostSpans, in(lossy(1), 250, -10000), out(12, true))
	check(t, impl.MostSpans, in(lossy(1000), 0, -10000), out(10, true))
	check(t, impl.MostSpans, in(lossy(1000), -1, -10000), out(9, true))
	check(t, impl.MostSpans, in(fiberSpan(1000, 1000, 50), 10000, -5000), out(12, true))
	check(t, impl.MostSpans, in(fiberSpan(1000, 1000, 50), 10000, -4999), out(11, true))
	check(t, impl.MostSpans, in(lossy(1), -10000, -10000), out(0, true))
	for _, level := range badLevels() {
		checkFails(t, impl.MostSpans, lossy(100), level, 0)
		checkFails(t, impl.MostSpans, lossy(100), 0, level)
		checkFails(t, impl.MostSpans, lossy(100), level, level)
	}
	for _, s := range badSpans() {
		checkFails(t, impl.MostSpans, s, 0, 0)
		checkFails(t, impl.MostSpans, s, 250, 20)
	}
	next := numbers(222)
	for range 300 {
		s, launch, need := fiberSpan(next(1001), next(1001), next(51)), next(20001)-10000, next(20001)-10000
		most := 0
		for k := 1; k <= 12 && launch-k*expectedLoss(s) >= need; k++ {
			most = k
		}
		check(t, impl.MostSpans, in(s, launch, need), out(most, true))
	}
}
