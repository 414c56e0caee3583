package tests

import (
	"slices"
	"testing"

	"loop.example/g00897/impl"
)

// The tests of this file would fail if promise 24, or promise 29 for a function of chapter 24, were
// broken.

// TestPromise24TwoErrorsAreCorrectedInEveryBlock adds errors at all pairs of places.
func TestPromise24TwoErrorsAreCorrectedInEveryBlock(t *testing.T) {
	next := numbers(246)
	for _, data := range sampleData() {
		block, ok := impl.EncodeBlock(data)
		if !ok || len(block) != impl.CodeSize || !slices.Equal(block[4:], data) {
			t.Fatalf("EncodeBlock(%v) = %v, %v", data, block, ok)
		}
		for a := range impl.CodeSize {
			for b := a; b < impl.CodeSize; b++ {
				bad, want := slices.Clone(block), []int{a}
				bad[a] ^= 1 + next(15)
				if b > a {
					bad[b] ^= 1 + next(15)
					want = append(want, b)
				}
				again, places, found, fine := impl.DecodeBlock(bad)
				if !fine || !found || !slices.Equal(again, data) || !slices.Equal(places, want) {
					t.Errorf("DecodeBlock(%v) = %v, %v, %v, %v instead of %v and %v", bad, again, places, found, fine, data, want)
				}
			}
		}
	}
}

// TestPromise24FourErasuresAreCorrectedInEveryBlock erases all lists of up to four places.
func TestPromise24FourErasuresAreCorrectedInEveryBlock(t *testing.T) {
	next, samples := numbers(247), sampleData()
	count := 0
	for _, erased := range listsBelow(impl.CodeSize) {
		if len(erased) > 4 {
			continue
		}
		data := samples[next(len(samples))]
		block, _ := impl.EncodeBlock(data)
		for _, place := range erased {
			block[place] = next(16)
		}
		again, found, ok := impl.EraseBlock(block, erased)
		if !ok || !found || !slices.Equal(again, data) {
			t.Errorf("EraseBlock(%v, %v) = %v, %v, %v instead of %v", block, erased, again, found, ok, data)
		}
		count++
	}
	if count != 1+15+105+455+1365 {
		t.Errorf("there are %d lists of places", count)
	}
}

// TestPromise24InterleavingSpreadsBursts changes all runs of two symbols for each block: every block
// can be corrected.
func TestPromise24InterleavingSpreadsBursts(t *testing.T) {
	next, samples := numbers(248), sampleData()
	for count := 1; count <= impl.MaxBlocks; count++ {
		var data []int
		for range count {
			data = append(data, samples[next(len(samples))]...)
		}
		stream, ok := impl.EncodeStream(data)
		if !ok || len(stream) != count*impl.CodeSize {
			t.Fatalf("EncodeStream(%v) = %v, %v", data, stream, ok)
		}
		for first := 0; first+2*count <= len(stream); first++ {
			bad := slices.Clone(stream)
			for i := range 2 * count {
				bad[first+i] ^= 1 + next(15)
			}
			again, places, found, fine := impl.DecodeStream(bad)
			if !fine || !found || places != 2*count || !slices.Equal(again, data) {
				t.Errorf("DecodeStream(%v) = %v, %d, %v, %v instead of %v", bad, again, places, found, fine, data)
			}
		}
		checkSpread(t, count)
	}
}

// checkSpread checks that any rows symbols in a row come from different rows of a table, and that
// the table comes back.
func checkSpread(t *testing.T, rows int) {
	t.Helper()
	table := make([]int, rows*impl.CodeSize)
	for i := range table {
		table[i] = i / impl.CodeSize
	}
	mixed, ok := impl.InterleaveSymbols(table, rows)
	for first := 0; ok && first+rows <= len(mixed); first++ {
		part := slices.Clone(mixed[first : first+rows])
		slices.Sort(part)
		if !slices.Equal(part, upTo(rows)) {
			t.Errorf("the symbols from %d on in %v come from the rows %v", first, mixed, part)
		}
	}
	again, fine := impl.DeinterleaveSymbols(mixed, rows)
	if !ok || !fine || !slices.Equal(again, table) {
		t.Errorf("the table %v becomes %v and then %v", table, mixed, again)
	}
}

func codeCandidates() candidates {
	c := candidates{}
	for _, size := range []int{impl.DataSize, impl.CodeSize} {
		for i, list := range badLists(size) {
			if i%2 == 0 {
				c.add(list)
			}
		}
	}
	block := expectedBlock(sampleData()[2])
	bad := slices.Clone(block)
	bad[3] ^= 5
	bad[12] ^= 9
	c.add([]int{}, []int{0, 5, 6, 14}, []int{3, 12}, sampleData()[2], block, bad, make([]int, 22), expectedStream(sampleData()[:8]), make([]int, 121))
	c.add(minInt, -1, 0, 1, 2, 8, 9, 15, 16, maxInt)
	return c
}

func TestPromise29CodeFunctions(t *testing.T) {
	c := codeCandidates()
	for _, f := range []any{impl.MultiplySymbols, impl.InverseSymbol, impl.EncodeBlock, impl.SyndromesOf, impl.DecodeBlock, impl.EraseBlock, impl.InterleaveSymbols, impl.DeinterleaveSymbols,
		impl.EncodeStream, impl.DecodeStream} {
		sweep(t, f, c, 1000, func([]any) bool { return false })
	}
}
