package tests

import (
	"testing"

	"loop.example/g00897/impl"
)

// The tests of this file compare every function of chapter 8 with what the document states:
// ordinary inputs, the edge cases that the chapter names, and invalid inputs.

const fullMask = 1<<impl.MaxSlots - 1

func badMasks() []int {
	return []int{-1, -2, fullMask + 1, fullMask + 2, 1 << 40, minInt, maxInt, -fullMask, 1<<impl.MaxSlots | 14}
}

func badCounts() []int { return []int{0, -1, impl.MaxSlots + 1, minInt, maxInt, 64, 65} }

// sampleMasks returns masks with runs at both ends of the spectrum, in the middle, and nowhere.
func sampleMasks() []int {
	list := []int{0, fullMask, 1, 2, 3, 14, 1 << 23, 1<<23 - 1, fullMask - 1, fullMask &^ (1 << 23), fullMask &^ (1 << 12), 0x555555, 0xAAAAAA, 0x800001,
		0x7FFFFE, 0x0FF0F0, 0xF0F00F, 0x924924, 0x249249, 0xC30C30, 0x00FFFF, 0xFFFF00}
	next := numbers(8)
	for range 120 {
		list = append(list, next(fullMask+1), next(fullMask+1)&next(fullMask+1), next(fullMask+1)&next(fullMask+1)&next(fullMask+1))
	}
	return list
}

// expectedRuns reads a mask slot by slot.
func expectedRuns(mask int) []impl.Block {
	var runs []impl.Block
	for slot := range impl.MaxSlots {
		occupied := mask>>slot&1 == 1
		if last := len(runs) - 1; !occupied && last >= 0 && runs[last].First+runs[last].Count == slot {
			runs[last].Count++
		} else if !occupied {
			runs = append(runs, impl.Block{First: slot, Count: 1})
		}
	}
	return runs
}

// expectedBlocks returns all blocks of count free slots in ascending order.
func expectedBlocks(mask int, count int) []impl.Block {
	var blocks []impl.Block
	for _, run := range expectedRuns(mask) {
		for first := run.First; first+count <= run.First+run.Count; first++ {
			blocks = append(blocks, impl.Block{First: first, Count: count})
		}
	}
	return blocks
}

func TestIsValidBlockAndBlockMask(t *testing.T) {
	check(t, impl.BlockMask, in(impl.Block{First: 1, Count: 3}), out(14, true))
	check(t, impl.BlockMask, in(impl.Block{First: 0, Count: impl.MaxSlots}), out(fullMask, true))
	check(t, impl.BlockMask, in(impl.Block{First: 23, Count: 1}), out(1<<23, true))
	for first := -2; first <= impl.MaxSlots+2; first++ {
		for count := -2; count <= impl.MaxSlots+2; count++ {
			b, mask := impl.Block{First: first, Count: count}, 0
			if first < 0 || count < 1 || first+count > impl.MaxSlots {
				check(t, impl.IsValidBlock, in(b), out(false))
				checkFails(t, impl.BlockMask, b)
				continue
			}
			for slot := first; slot < first+count; slot++ {
				mask += 1 << slot
			}
			check(t, impl.IsValidBlock, in(b), out(true))
			check(t, impl.BlockMask, in(b), out(mask, true))
		}
	}
	for _, b := range badBlocks() {
		check(t, impl.IsValidBlock, in(b), out(false))
		checkFails(t, impl.BlockMask, b)
	}
}

func TestFreeRuns(t *testing.T) {
	check(t, impl.FreeRuns, in(0), out([]impl.Block{{First: 0, Count: 24}}, true))
	check(t, impl.FreeRuns, in(fullMask), out([]impl.Block{}, true))
	check(t, impl.FreeRuns, in(14), out([]impl.Block{{First: 0, Count: 1}, {First: 4, Count: 20}}, true))
	check(t, impl.FreeRuns, in(fullMask&^(1<<23)), out([]impl.Block{{First: 23, Count: 1}}, true))
	check(t, impl.FreeRuns, in(0x7FFFFE), out([]impl.Block{{First: 0, Count: 1}, {First: 23, Count: 1}}, true))
	for _, mask := range sampleMasks() {
		check(t, impl.FreeRuns, in(mask), out(expectedRuns(mask), true))
	}
	for _, mask := range badMasks() {
		checkFails(t, impl.FreeRuns, mask)
	}
}

func TestFits(t *testing.T) {
	check(t, impl.FirstFit, in(14, 2), out(impl.Block{First: 4, Count: 2}, true))
	check(t, impl.LastFit, in(14, 2), out(impl.Block{First: 22, Count: 2}, true))
	check(t, impl.BestFit, in(14, 1), out(impl.Block{First: 0, Count: 1}, true))
	check(t, impl.BestFit, in(14, 2), out(impl.Block{First: 4, Count: 2}, true))
	check(t, impl.FitPositions, in(14, 20), out([]int{4}, true))
	check(t, impl.FitPositions, in(14, 21), out([]int{}, true))
	// Of the shortest runs the first one is taken, also where it is not the first run.
	check(t, impl.BestFit, in(1<<5|1<<9|1<<13|1<<20, 3), out(impl.Block{First: 6, Count: 3}, true))
	check(t, impl.BestFit, in(1<<5|1<<9|1<<13|1<<20, 4), out(impl.Block{First: 0, Count: 4}, true))
	check(t, impl.BestFit, in(1<<5|1<<9|1<<13|1<<20, 6), out(impl.Block{First: 14, Count: 6}, true))
	for _, f := range []any{impl.FirstFit, impl.LastFit, impl.BestFit} {
		check(t, f, in(0, impl.MaxSlots), out(impl.Block{First: 0, Count: impl.MaxSlots}, true))
		check(t, f, in(fullMask&^1, 1), out(impl.Block{First: 0, Count: 1}, true))
		check(t, f, in(fullMask&^(1<<23), 1), out(impl.Block{First: 23, Count: 1}, true))
		checkFails(t, f, fullMask, 1)
		checkFails(t, f, 1, impl.MaxSlots)
	}
}

func TestFitsOfSamples(t *testing.T) {
	for _, mask := range sampleMasks() {
		for count := 1; count <= impl.MaxSlots; count++ {
			blocks := expectedBlocks(mask, count)
			var positions []int
			for _, b := range blocks {
				positions = append(positions, b.First)
			}
			check(t, impl.FitPositions, in(mask, count), out(positions, true))
			if len(blocks) == 0 {
				checkFails(t, impl.FirstFit, mask, count)
				checkFails(t, impl.LastFit, mask, count)
				checkFails(t, impl.BestFit, mask, count)
				continue
			}
			check(t, impl.FirstFit, in(mask, count), out(blocks[0], true))
			check(t, impl.LastFit, in(mask, count), out(blocks[len(blocks)-1], true))
			check(t, impl.BestFit, in(mask, count), out(expectedBest(mask, count), true))
		}
	}
}

// expectedBest tries all lengths of runs, the shorter ones first.
func expectedBest(mask int, count int) impl.Block {
	for length := count; length <= impl.MaxSlots; length++ {
		for _, run := range expectedRuns(mask) {
			if run.Count == length {
				return impl.Block{First: run.First, Count: count}
			}
		}
	}
	return impl.Block{}
}

func TestFitsFail(t *testing.T) {
	for _, f := range []any{impl.FirstFit, impl.LastFit, impl.BestFit, impl.FitPositions} {
		for _, mask := range badMasks() {
			checkFails(t, f, mask, 1)
			checkFails(t, f, mask, 0)
		}
		for _, count := range badCounts() {
			checkFails(t, f, 0, count)
			checkFails(t, f, 14, count)
			checkFails(t, f, fullMask, count)
		}
	}
}

func TestUnionMasks(t *testing.T) {
	check(t, impl.UnionMasks, in([]int{}), out(0, true))
	check(t, impl.UnionMasks, in([]int{1, 4, 1}), out(5, true))
	check(t, impl.UnionMasks, in([]int{0, fullMask}), out(fullMask, true))
	check(t, impl.UnionMasks, in([]int{6, 12}), out(14, true))
	masks, union := make([]int, 40), 0
	for i := range masks {
		masks[i] = 1 << (i % 20) * (1 + i/20)
		union |= masks[i]
	}
	check(t, impl.UnionMasks, in(masks), out(union, true))
	checkFails(t, impl.UnionMasks, append(masks, 1))
	checkFails(t, impl.UnionMasks, make([]int, 41))
	for _, mask := range badMasks() {
		checkFails(t, impl.UnionMasks, []int{mask})
		checkFails(t, impl.UnionMasks, []int{5, mask, 6})
		checkFails(t, impl.UnionMasks, []int{fullMask, 1, mask})
	}
}

func TestSpectrumUse(t *testing.T) {
	check(t, impl.SpectrumUse, in(0), out(0, 24, 0, true))
	check(t, impl.SpectrumUse, in(fullMask), out(24, 0, 0, true))
	check(t, impl.SpectrumUse, in(2), out(1, 22, 43, true))
	check(t, impl.SpectrumUse, in(1), out(1, 23, 0, true))
	check(t, impl.SpectrumUse, in(14), out(3, 20, 1000-953, true))
	check(t, impl.SpectrumUse, in(0x555555), out(12, 1, 1000-84, true))
	check(t, impl.SpectrumUse, in(0x7FFFFE), out(22, 1, 500, true))
	check(t, impl.SpectrumUse, in(fullMask&^(1<<23)), out(23, 1, 0, true))
	for _, mask := range sampleMasks() {
		free, longest, fragmentation := 0, 0, 0
		for _, run := range expectedRuns(mask) {
			free += run.Count
			longest = max(longest, run.Count)
		}
		if free > 0 {
			fragmentation = 1000 - 1000*longest/free
			if 1000*longest%free > 0 {
				fragmentation--
			}
		}
		check(t, impl.SpectrumUse, in(mask), out(impl.MaxSlots-free, longest, fragmentation, true))
	}
	for _, mask := range badMasks() {
		checkFails(t, impl.SpectrumUse, mask)
	}
}
