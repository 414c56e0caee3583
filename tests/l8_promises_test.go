package tests

import (
	"testing"

	"loop.example/g00897/impl"
)

// The tests of this file would fail if promise 8, or promise 29 for a function of chapter 8, were
// broken.

// TestPromise8EveryRuleFindsBlock looks, for many masks, whether there is a block of free slots,
// and compares what every rule finds.
func TestPromise8EveryRuleFindsBlock(t *testing.T) {
	rules := []func(mask int, count int) (impl.Block, bool){impl.FirstFit, impl.LastFit, impl.BestFit}
	for mask := 0; mask <= fullMask; mask += 1 + mask/61 {
		for count := 1; count <= impl.MaxSlots; count++ {
			exists := false
			for first := 0; first+count <= impl.MaxSlots; first++ {
				exists = exists || mask>>first&(1<<count-1) == 0
			}
			positions, ok := impl.FitPositions(mask, count)
			if !ok || (len(positions) > 0) != exists {
				t.Fatalf("FitPositions(%x, %d) = %v, %v, but a block exists: %v", mask, count, positions, ok, exists)
			}
			for i, rule := range rules {
				b, ok := rule(mask, count)
				taken, _ := impl.BlockMask(b)
				if ok != exists || ok && (b.Count != count || taken&mask != 0) {
					t.Fatalf("rule %d finds %v, %v for %d slots of the mask %x", i, b, ok, count, mask)
				}
			}
		}
	}
}

func TestPromise29SpectrumFunctions(t *testing.T) {
	c := candidates{}
	for _, x := range append(append(sampleMasks()[:40], badMasks()...), badCounts()...) {
		c.add(x)
	}
	c.add(4, 5, 7, 12, 23, 24)
	c.add([]int(nil), []int{}, []int{1, 2}, make([]int, 40), make([]int, 41), []int{-1}, []int{fullMask, fullMask + 1}, []int{minInt, maxInt})
	for _, b := range badBlocks() {
		c.add(b)
	}
	c.add(impl.Block{First: 3, Count: 4}, impl.Block{First: 0, Count: 24}, impl.Block{First: 23, Count: 1})
	for _, f := range []any{impl.IsValidBlock, impl.BlockMask, impl.FreeRuns, impl.FirstFit, impl.LastFit, impl.BestFit, impl.FitPositions,
		impl.UnionMasks, impl.SpectrumUse} {
		sweep(t, f, c, 5000, func(args []any) bool {
			mask, ok := args[0].(int)
			return ok && (mask < 0 || mask > fullMask)
		})
	}
}
