package tests

import (
	"slices"
	"testing"

	"loop.example/g00897/impl"
)

// The tests of this file compare every function of chapter 24 with what the document states:
// ordinary inputs, the edge cases that the chapter names, and invalid inputs.

// notSymbols are numbers that are no symbols.
var notSymbols = []int{-1, 16, 255, minInt, maxInt}

// powersOfTwo returns the powers 0..14 of the symbol 2.
func powersOfTwo() []int {
	powers := []int{1}
	for len(powers) < 15 {
		x := 2 * powers[len(powers)-1]
		if x >= 16 {
			x ^= 16 + 2 + 1
		}
		powers = append(powers, x)
	}
	return powers
}

// expectedProduct adds the exponents of two symbols.
func expectedProduct(a int, b int) int {
	if a == 0 || b == 0 {
		return 0
	}
	powers := powersOfTwo()
	return powers[(slices.Index(powers, a)+slices.Index(powers, b))%15]
}

// expectedSyndromes evaluates a block, as a polynomial, at the powers 1..4 of the symbol 2.
func expectedSyndromes(block []int) []int {
	powers, list := powersOfTwo(), []int{}
	for j := 1; j <= 4; j++ {
		value := 0
		for _, x := range slices.Backward(block) {
			value = expectedProduct(value, powers[j]) ^ x
		}
		list = append(list, value)
	}
	return list
}

// expectedBlock divides a data block, behind four zeros, by the polynomial whose zeros are the
// powers 1..4 of the symbol 2.
func expectedBlock(data []int) []int {
	divisor := []int{1}
	for _, zero := range powersOfTwo()[1:5] {
		product := make([]int, len(divisor)+1)
		for i, x := range divisor {
			product[i] ^= expectedProduct(x, zero)
			product[i+1] ^= x
		}
		divisor = product
	}
	rest := append(make([]int, 4), data...)
	for at := len(rest) - 1; at >= 4; at-- {
		factor := rest[at]
		for i, x := range divisor {
			rest[at-4+i] ^= expectedProduct(factor, x)
		}
	}
	return append(rest[:4:4], data...)
}

// sampleData returns data blocks with few and with many symbols other than 0, and random ones.
func sampleData() [][]int {
	list := [][]int{make([]int, 11), slices.Repeat([]int{15}, 11), {1, 2, 3, 4, 5, 6, 7, 8, 9, 10, 11}}
	for i := range 11 {
		one := make([]int, 11)
		one[i] = i + 3
		list = append(list, one)
	}
	next := numbers(24)
	for range 40 {
		var data []int
		for range impl.DataSize {
			data = append(data, next(16))
		}
		list = append(list, data)
	}
	return list
}

// badLists returns lists that do not consist of so many symbols.
func badLists(size int) [][]int {
	whole := upTo(size)
	for i := range whole {
		whole[i] %= 16
	}
	list := [][]int{nil, {1}, whole[:size-1], append(slices.Clone(whole), 1), append(slices.Clone(whole), whole...)}
	for _, x := range notSymbols {
		first, last := slices.Clone(whole), slices.Clone(whole)
		first[0], last[size-1] = x, x
		list = append(list, first, last)
	}
	return list
}

func TestMultiplySymbols(t *testing.T) {
	check(t, impl.MultiplySymbols, in(2, 8), out(3, true))
	check(t, impl.MultiplySymbols, in(15, 15), out(10, true))
	check(t, impl.MultiplySymbols, in(0, 7), out(0, true))
	check(t, impl.MultiplySymbols, in(1, 13), out(13, true))
	for a := range 16 {
		for b := range 16 {
			check(t, impl.MultiplySymbols, in(a, b), out(expectedProduct(a, b), true))
			// The polynomials, without exponents: bit by bit.
			product := 0
			for i := range 4 {
				for k := range 4 {
					if a>>i&1 == 1 && b>>k&1 == 1 {
						product ^= []int{1, 2, 4, 8, 3, 6, 12}[i+k]
					}
				}
			}
			check(t, impl.MultiplySymbols, in(a, b), out(product, true))
		}
		for _, x := range notSymbols {
			checkFails(t, impl.MultiplySymbols, a, x)
			checkFails(t, impl.MultiplySymbols, x, a)
		}
	}
}

func TestInverseSymbol(t *testing.T) {
	check(t, impl.InverseSymbol, in(1), out(1, true))
	check(t, impl.InverseSymbol, in(2), out(9, true))
	for a := 1; a < 16; a++ {
		want := 1
		for expectedProduct(a, want) != 1 {
			want++
		}
		check(t, impl.InverseSymbol, in(a), out(want, true))
	}
	checkFails(t, impl.InverseSymbol, 0)
	for _, x := range notSymbols {
		checkFails(t, impl.InverseSymbol, x)
	}
}

func TestEncodeBlock(t *testing.T) {
	// The check symbols of a block with only one 1, by hand from the polynomial that divides it.
	check(t, impl.EncodeBlock, in([]int{1, 0, 0, 0, 0, 0, 0, 0, 0, 0, 0}), out([]int{7, 8, 12, 13, 1, 0, 0, 0, 0, 0, 0, 0, 0, 0, 0}, true))
	check(t, impl.EncodeBlock, in(make([]int, 11)), out(make([]int, 15), true))
	for _, data := range sampleData() {
		block := expectedBlock(data)
		check(t, impl.EncodeBlock, in(data), out(block, true))
		check(t, impl.SyndromesOf, in(block), out([]int{0, 0, 0, 0}, true))
		check(t, impl.DecodeBlock, in(block), out(data, []int{}, true, true))
		check(t, impl.EraseBlock, in(block, []int{}), out(data, true, true))
	}
	for _, list := range badLists(impl.DataSize) {
		checkFails(t, impl.EncodeBlock, list)
	}
}

func TestSyndromesOf(t *testing.T) {
	check(t, impl.SyndromesOf, in([]int{1, 0, 0, 0, 0, 0, 0, 0, 0, 0, 0, 0, 0, 0, 0}), out([]int{1, 1, 1, 1}, true))
	check(t, impl.SyndromesOf, in([]int{0, 1, 0, 0, 0, 0, 0, 0, 0, 0, 0, 0, 0, 0, 0}), out([]int{2, 4, 8, 3}, true))
	check(t, impl.SyndromesOf, in([]int{0, 0, 0, 0, 0, 0, 0, 0, 0, 0, 0, 0, 0, 0, 5}), out([]int{11, 12, 6, 3}, true))
	next := numbers(241)
	for range 200 {
		var block []int
		for range impl.CodeSize {
			block = append(block, next(16))
		}
		check(t, impl.SyndromesOf, in(block), out(expectedSyndromes(block), true))
	}
	for _, list := range badLists(impl.CodeSize) {
		checkFails(t, impl.SyndromesOf, list)
		checkFails(t, impl.DecodeBlock, list)
		checkFails(t, impl.EraseBlock, list, []int{})
		checkFails(t, impl.EraseBlock, list, []int{0, 14})
	}
}

// An errorTable has, for the syndromes of all errors at up to two places, as a number, the places and
// what is added there.
type errorTable map[int][][2]int

// syndromeNumber returns the syndromes of a block as a number with a digit for each.
func syndromeNumber(block []int) int {
	number := 0
	for _, x := range expectedSyndromes(block) {
		number = 16*number + x
	}
	return number
}

func errorsUpToTwo() errorTable {
	single := map[[2]int]int{}
	for place := range impl.CodeSize {
		for x := 1; x < 16; x++ {
			block := make([]int, impl.CodeSize)
			block[place] = x
			single[[2]int{place, x}] = syndromeNumber(block)
		}
	}
	table := errorTable{0: {}}
	for e, number := range single {
		table[number] = [][2]int{e}
		for f, other := range single {
			if e[0] < f[0] {
				table[number^other] = [][2]int{e, f}
			}
		}
	}
	return table
}

// decode looks up the errors of a block.
func (table errorTable) decode(block []int) ([]int, []int, bool) {
	places, corrected := []int{}, slices.Clone(block)
	found, ok := table[syndromeNumber(block)]
	if !ok {
		return []int{}, []int{}, false
	}
	for _, e := range found {
		places = append(places, e[0])
		corrected[e[0]] ^= e[1]
	}
	return corrected[4:], places, true
}

func TestDecodeBlock(t *testing.T) {
	table := errorsUpToTwo()
	if len(table) != 1+15*15+15*14/2*15*15 {
		t.Fatalf("there are %d different errors", len(table))
	}
	data := []int{1, 2, 3, 4, 5, 6, 7, 8, 9, 10, 11}
	block := expectedBlock(data)
	// One error, of every size at every place, also in the check symbols, and two of some sizes.
	for a := range impl.CodeSize {
		for x := 1; x < 16; x++ {
			bad := slices.Clone(block)
			bad[a] ^= x
			check(t, impl.DecodeBlock, in(bad), out(data, []int{a}, true, true))
			for b := a + 1 + x%3; b < impl.CodeSize; b += 3 {
				worse := slices.Clone(bad)
				worse[b] ^= 1 + (x+b)%15
				check(t, impl.DecodeBlock, in(worse), out(data, []int{a, b}, true, true))
			}
		}
	}
	// Words too far from any block, and words that are close to another one.
	next := numbers(242)
	far, near := 0, 0
	for _, data := range sampleData() {
		for count := 3; count <= 6; count++ {
			bad := expectedBlock(data)
			for range count {
				bad[next(15)] ^= 1 + next(15)
			}
			corrected, places, found := table.decode(bad)
			check(t, impl.DecodeBlock, in(bad), out(corrected, places, found, true))
			if found {
				near++
			} else {
				far++
			}
		}
	}
	if far < 50 || near < 20 {
		t.Errorf("%d words are too far from any block, and %d are not", far, near)
	}
}

// expectedErased tries all symbols at the erased places.
func expectedErased(block []int, erased []int) ([]int, bool) {
	counts := make([][]int, len(erased))
	tried := slices.Clone(block)
	for i, place := range erased {
		tried[place] = 0
		for x := range 16 {
			single := make([]int, impl.CodeSize)
			single[place] = x
			counts[i] = append(counts[i], syndromeNumber(single))
		}
	}
	var try func(i int, number int) bool
	try = func(i int, number int) bool {
		if i == len(erased) {
			return number == 0
		}
		for x := range 16 {
			if tried[erased[i]] = x; try(i+1, number^counts[i][x]) {
				return true
			}
		}
		return false
	}
	if !try(0, syndromeNumber(tried)) {
		return []int{}, false
	}
	return tried[4:], true
}

func TestEraseBlock(t *testing.T) {
	data := []int{1, 2, 3, 4, 5, 6, 7, 8, 9, 10, 11}
	block := expectedBlock(data)
	next := numbers(243)
	for range 300 {
		// Up to four erasures; some of the erased places are correct.
		erased := randomSet(impl.CodeSize, next)
		erased = erased[:min(len(erased), next(5))]
		lost := slices.Clone(block)
		for _, place := range erased {
			lost[place] = []int{lost[place], 0, next(16)}[next(3)]
		}
		check(t, impl.EraseBlock, in(lost, erased), out(data, true, true))
		// An error elsewhere: another block agrees with the rest only if there are four erasures.
		elsewhere := next(impl.CodeSize)
		if slices.Contains(erased, elsewhere) {
			continue
		}
		lost[elsewhere] ^= 1 + next(15)
		if len(erased) < 4 {
			check(t, impl.EraseBlock, in(lost, erased), out([]int{}, false, true))
		}
	}
	// Every list of four places, with all of them lost.
	for _, erased := range listsBelow(impl.CodeSize) {
		if len(erased) != 4 {
			continue
		}
		lost := slices.Clone(block)
		for i, place := range erased {
			lost[place] = []int{0, 15, lost[place], 7}[i]
		}
		if erased[0]%2 == 0 {
			check(t, impl.EraseBlock, in(lost, erased), out(data, true, true))
		}
	}
	// With four erasures there is always a block that agrees with the rest.
	for range 20 {
		word := slices.Clone(block)
		for range 3 {
			word[next(15)] = next(16)
		}
		erased := [][]int{{0, 1, 2, 3}, {4, 7, 8, 14}, {0, 3, 11, 12}, {11, 12, 13, 14}}[next(4)]
		want, found := expectedErased(word, erased)
		check(t, impl.EraseBlock, in(word, erased), out(want, found, true))
		want, found = expectedErased(word, erased[:3])
		check(t, impl.EraseBlock, in(word, erased[:3]), out(want, found, true))
		want, found = expectedErased(word, erased[1:2])
		check(t, impl.EraseBlock, in(word, erased[1:2]), out(want, found, true))
	}
	// Five erasures, and lists that are not strictly ascending lists of places.
	for _, erased := range [][]int{{0, 1, 2, 3, 4}, {1, 3, 5, 7, 9}, upTo(15), {-1}, {15}, {3, 3}, {5, 4}, {0, 15}, {-1, 3}, {minInt}, {0, maxInt}, {1, 2, 2, 3}} {
		checkFails(t, impl.EraseBlock, block, erased)
	}
}

// expectedTable reads a table, written row by row, column by column.
func expectedTable(list []int, rows int) []int {
	read, columns := []int{}, len(list)/rows
	for column := range columns {
		for row := range rows {
			read = append(read, list[row*columns+column])
		}
	}
	return read
}

func TestInterleaveSymbols(t *testing.T) {
	check(t, impl.InterleaveSymbols, in([]int{1, 2, 3, 4, 5, 6}, 2), out([]int{1, 4, 2, 5, 3, 6}, true))
	check(t, impl.InterleaveSymbols, in([]int{1, 2, 3, 4, 5, 6}, 3), out([]int{1, 3, 5, 2, 4, 6}, true))
	check(t, impl.DeinterleaveSymbols, in([]int{1, 4, 2, 5, 3, 6}, 2), out([]int{1, 2, 3, 4, 5, 6}, true))
	next := numbers(244)
	for rows := 1; rows <= impl.MaxBlocks; rows++ {
		// The empty list, one column, and as many symbols as possible.
		check(t, impl.InterleaveSymbols, in([]int{}, rows), out([]int{}, true))
		check(t, impl.DeinterleaveSymbols, in([]int{}, rows), out([]int{}, true))
		for columns := 1; columns*rows <= 120; columns++ {
			var list []int
			for range rows * columns {
				list = append(list, next(16))
			}
			check(t, impl.InterleaveSymbols, in(list, rows), out(expectedTable(list, rows), true))
			check(t, impl.DeinterleaveSymbols, in(expectedTable(list, rows), rows), out(list, true))
			if rows > 1 {
				checkFails(t, impl.InterleaveSymbols, list[1:], rows)
				checkFails(t, impl.DeinterleaveSymbols, append(list, 3), rows)
			}
		}
		long := make([]int, 120/rows*rows+rows)
		if len(long) > 120 {
			checkFails(t, impl.InterleaveSymbols, long, rows)
			checkFails(t, impl.DeinterleaveSymbols, long, rows)
		}
	}
	for _, f := range []any{impl.InterleaveSymbols, impl.DeinterleaveSymbols} {
		check(t, f, in(make([]int, 120), 8), out(make([]int, 120), true))
		checkFails(t, f, make([]int, 121), 1)
		checkFails(t, f, make([]int, 128), 8)
		for _, rows := range []int{0, -1, 9, 15, minInt, maxInt} {
			checkFails(t, f, make([]int, 90), rows)
			checkFails(t, f, []int{}, rows)
		}
		for _, x := range notSymbols {
			checkFails(t, f, []int{x}, 1)
			checkFails(t, f, []int{1, 2, 3, x}, 2)
		}
	}
}

// expectedStream encodes data blocks and interleaves them.
func expectedStream(blocks [][]int) []int {
	var coded []int
	for _, data := range blocks {
		coded = append(coded, expectedBlock(data)...)
	}
	return expectedTable(coded, len(blocks))
}

func TestStreams(t *testing.T) {
	next, samples := numbers(245), sampleData()
	for count := 1; count <= impl.MaxBlocks; count++ {
		for range 6 {
			var blocks [][]int
			for range count {
				blocks = append(blocks, samples[next(len(samples))])
			}
			data, stream := slices.Concat(blocks...), expectedStream(blocks)
			check(t, impl.EncodeStream, in(data), out(stream, true))
			check(t, impl.DecodeStream, in(stream), out(data, 0, true, true))
			// Up to two errors in every block, and then a block that cannot be corrected.
			places := 0
			for row := range count {
				for k := range next(3) {
					stream[(next(7)*2+k)*count+row] ^= 1 + next(15)
					places++
				}
			}
			check(t, impl.DecodeStream, in(stream), out(data, places, true, true))
			row := next(count)
			copy(stream, expectedStream(blocks))
			for _, column := range []int{0, 5, 9} {
				stream[column*count+row] ^= 1
			}
			if _, _, found := errorsUpToTwo().decode(expectedRow(stream, count, row)); !found {
				check(t, impl.DecodeStream, in(stream), out([]int{}, 0, false, true))
			} else {
				t.Errorf("the block %d of %v can be corrected", row, stream)
			}
		}
	}
	// No block, one block more than MaxBlocks, lists of another length, and numbers that are no symbols.
	for _, size := range []int{0, 1, 10, 12, 21, 87, 89, 99, 110} {
		checkFails(t, impl.EncodeStream, make([]int, size))
	}
	for _, size := range []int{0, 1, 14, 16, 29, 31, 119, 121, 135} {
		checkFails(t, impl.DecodeStream, make([]int, size))
	}
	for _, x := range notSymbols {
		for _, at := range []int{0, 10, 11, 32} {
			data := make([]int, 33)
			data[at] = x
			checkFails(t, impl.EncodeStream, data)
		}
		for _, at := range []int{0, 14, 15, 44} {
			stream := make([]int, 45)
			stream[at] = x
			checkFails(t, impl.DecodeStream, stream)
			// It does not matter that another block cannot be corrected.
			stream[1], stream[4], stream[7] = 1, 1, 1
			checkFails(t, impl.DecodeStream, stream)
		}
	}
}

// expectedRow returns a block of a stream.
func expectedRow(stream []int, rows int, row int) []int {
	var block []int
	for at := row; at < len(stream); at += rows {
		block = append(block, stream[at])
	}
	return block
}
