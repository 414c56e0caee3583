package tests

import (
	"slices"
	"testing"

	"loop.example/g00897/impl"
)

// The tests of this file compare every function of chapter 23 with what the document states:
// ordinary inputs, the edge cases that the chapter names, and invalid inputs.

func frame(counter int, pointer int, payload ...int) impl.Frame {
	return impl.Frame{Counter: counter, Pointer: pointer, Payload: payload}
}

// counting returns the numbers from first on, as many as a container has bytes.
func counting(first int) []int {
	var list []int
	for i := range impl.PayloadSize {
		list = append(list, first+i)
	}
	return list
}

// framesAt returns frames with these Pointers that carry 0, 1, 2, ...
func framesAt(pointers ...int) []impl.Frame {
	list := []impl.Frame{}
	for i, pointer := range pointers {
		list = append(list, frame(i, pointer, counting(i*impl.PayloadSize)...))
	}
	return list
}

// notBytes are numbers that are no bytes.
var notBytes = []int{-1, 256, 1000, minInt, maxInt}

// badFrames returns frames that are not valid.
func badFrames() []impl.Frame {
	list := []impl.Frame{{}, frame(0, 0), frame(0, 0, counting(0)[:11]...), frame(0, 0, append(counting(0), 12)...), frame(0, 12, counting(0)...), frame(0, -1, counting(0)...)}
	for _, x := range notBytes {
		first, last := counting(0), counting(0)
		first[0], last[11] = x, x
		list = append(list, frame(x, 0, counting(0)...), frame(0, x, counting(0)...), frame(0, 0, first...), frame(0, 0, last...))
	}
	return list
}

// expectedBytes returns the bytes of a valid frame.
func expectedBytes(f impl.Frame) []int {
	list := append([]int{246, 40, f.Counter, f.Pointer}, f.Payload...)
	parity := 0
	for bit := 1; bit < 256; bit *= 2 {
		ones := 0
		for _, x := range list {
			ones += x / bit % 2
		}
		parity += ones % 2 * bit
	}
	return append(list, parity)
}

// randomFrame returns a valid frame.
func randomFrame(next func(limit int) int) impl.Frame {
	f := frame(next(256), next(impl.PayloadSize))
	for range impl.PayloadSize {
		f.Payload = append(f.Payload, []int{next(256), 246, 40, 0}[next(4)])
	}
	return f
}

func TestFrameBytes(t *testing.T) {
	f := frame(7, 3, 1, 2, 3, 4, 5, 6, 7, 8, 9, 10, 11, 12)
	check(t, impl.IsValidFrame, in(f), out(true))
	check(t, impl.FrameBytes, in(f), out([]int{246, 40, 7, 3, 1, 2, 3, 4, 5, 6, 7, 8, 9, 10, 11, 12, 214}, true))
	if len(expectedBytes(f)) != impl.FrameSize {
		t.Errorf("a frame has %d bytes", len(expectedBytes(f)))
	}
	// Counters of 255 and 0, pointers of 0 and PayloadSize-1, and bytes of 255 and 0.
	for _, f := range []impl.Frame{frame(0, 0, make([]int, 12)...), frame(255, 11, slices.Repeat([]int{255}, 12)...), frame(255, 0, counting(244)...), frame(0, 11, counting(0)...)} {
		check(t, impl.IsValidFrame, in(f), out(true))
		check(t, impl.FrameBytes, in(f), out(expectedBytes(f), true))
		check(t, impl.ParseFrame, in(expectedBytes(f)), out(f, true))
	}
	next := numbers(23)
	for range 200 {
		f := randomFrame(next)
		check(t, impl.FrameBytes, in(f), out(expectedBytes(f), true))
		check(t, impl.ParseFrame, in(expectedBytes(f)), out(f, true))
	}
	for _, f := range badFrames() {
		check(t, impl.IsValidFrame, in(f), out(false))
		checkFails(t, impl.FrameBytes, f)
		for _, frames := range [][]impl.Frame{{f}, append(framesAt(0, 0), f), append([]impl.Frame{f}, framesAt(3)...)} {
			checkFails(t, impl.ReadContainers, frames)
			checkFails(t, impl.CounterGaps, frames)
		}
	}
}

func TestParseFrame(t *testing.T) {
	whole := expectedBytes(frame(7, 3, 1, 2, 3, 4, 5, 6, 7, 8, 9, 10, 11, 12))
	check(t, impl.ParseFrame, in(whole), out(frame(7, 3, 1, 2, 3, 4, 5, 6, 7, 8, 9, 10, 11, 12), true))
	// Every changed byte is found by the parity, and so is every other parity.
	for i := range whole {
		for _, x := range append([]int{0, whole[i] ^ 1, whole[i] ^ 128, 255}, notBytes...) {
			changed := slices.Clone(whole)
			if changed[i] = x; x != whole[i] {
				checkFails(t, impl.ParseFrame, changed)
			}
		}
	}
	// The parity is right, but a mark or the pointer is not.
	for _, change := range [][2]int{{0, 1}, {0, 255}, {1, 1}, {1, 40}, {3, 12}, {3, 15}, {3, 8}, {3, 255}} {
		changed := slices.Clone(whole)
		changed[change[0]] ^= change[1]
		changed[16] ^= change[1]
		if changed[0] == 246 && changed[1] == 40 && changed[3] < impl.PayloadSize {
			check(t, impl.ParseFrame, in(changed), out(frame(7, changed[3], whole[4:16]...), true))
		} else {
			checkFails(t, impl.ParseFrame, changed)
		}
	}
	// Two marks that trade their places, a parity that is no byte, and lists of another length.
	swapped := slices.Clone(whole)
	swapped[0], swapped[1] = 40, 246
	checkFails(t, impl.ParseFrame, swapped)
	beyond := slices.Clone(whole)
	beyond[16] += 256
	checkFails(t, impl.ParseFrame, beyond)
	beyond[16] -= 256
	beyond[4] += 256
	checkFails(t, impl.ParseFrame, beyond)
	for _, list := range [][]int{nil, {246}, {246, 40}, whole[:4], whole[:16], append(slices.Clone(whole), 0), append(slices.Clone(whole), whole...), whole[1:], make([]int, 17)} {
		checkFails(t, impl.ParseFrame, list)
	}
}

// expectedFound marks all places at which a frame begins, and then takes them from the first one on.
func expectedFound(stream []int) []int {
	var begins []bool
	for at := range stream {
		isFrame := false
		if at+impl.FrameSize <= len(stream) {
			part := stream[at : at+impl.FrameSize]
			isFrame = part[3] < impl.PayloadSize && slices.Equal(expectedBytes(frame(part[2], part[3], slices.Clone(part[4:16])...)), part)
		}
		begins = append(begins, isFrame)
	}
	found, free := []int{}, 0
	for at, isFrame := range begins {
		if isFrame && at >= free {
			found = append(found, at)
			free = at + impl.FrameSize
		}
	}
	return found
}

// nested returns a frame whose bytes from a place on look like another frame that goes on behind it.
func nested(at int) []int {
	inner := expectedBytes(frame(1, 2, counting(50)...))
	outer := expectedBytes(frame(3, 4, append(make([]int, at-4), inner[:16-at]...)...))
	// The parity of the outer frame is a byte of the inner one: another byte before makes it right.
	outer[4] ^= outer[16] ^ inner[16-at]
	outer[16] = inner[16-at]
	return append(outer, inner[17-at:]...)
}

func TestFindFrames(t *testing.T) {
	whole := expectedBytes(frame(7, 3, counting(1)...))
	other := expectedBytes(frame(255, 0, counting(99)...))
	check(t, impl.FindFrames, in([]int{}), out([]int{}, true))
	check(t, impl.FindFrames, in(whole), out([]int{0}, true))
	check(t, impl.FindFrames, in(whole[:16]), out([]int{}, true))
	check(t, impl.FindFrames, in(whole[1:]), out([]int{}, true))
	check(t, impl.FindFrames, in(slices.Concat(whole, other, whole)), out([]int{0, 17, 34}, true))
	check(t, impl.FindFrames, in(slices.Concat([]int{246, 40, 0}, whole)), out([]int{3}, true))
	check(t, impl.FindFrames, in(slices.Concat([]int{246}, whole, []int{246, 40}, other, whole[:16])), out([]int{1, 20}, true))
	// A frame with a wrong parity, and false beginnings in front of and within it.
	wrong := slices.Clone(whole)
	wrong[16] ^= 4
	check(t, impl.FindFrames, in(slices.Concat(wrong, other)), out([]int{17}, true))
	check(t, impl.FindFrames, in(slices.Concat(whole, wrong, other)), out([]int{0, 34}, true))
	check(t, impl.FindFrames, in(slices.Concat(whole[:9], whole)), out([]int{9}, true))
	check(t, impl.FindFrames, in(slices.Concat([]int{246, 246, 40}, whole[2:])), out([]int{1}, true))
	// A frame within another one is found only if the search has not gone on behind that one.
	for at := 5; at < impl.FrameSize; at++ {
		stream := nested(at)
		check(t, impl.FindFrames, in(stream), out([]int{0}, true))
		check(t, impl.FindFrames, in(stream[1:]), out([]int{at - 1}, true))
		check(t, impl.FindFrames, in(slices.Concat(stream, whole)), out([]int{0, len(stream)}, true))
		stream[1] ^= 1
		check(t, impl.FindFrames, in(slices.Concat(stream, whole)), out([]int{at, len(stream)}, true))
	}
	// Streams of MaxStream bytes and one more.
	long := slices.Repeat(whole, 23)
	var all []int
	for i := range 23 {
		all = append(all, 17*i)
	}
	check(t, impl.FindFrames, in(slices.Concat(long, make([]int, 9))), out(all, true))
	check(t, impl.FindFrames, in(slices.Concat(make([]int, impl.MaxStream-17), whole)), out([]int{impl.MaxStream - 17}, true))
	checkFails(t, impl.FindFrames, slices.Concat(long, make([]int, 10)))
	checkFails(t, impl.FindFrames, make([]int, impl.MaxStream+1))
	for _, x := range notBytes {
		checkFails(t, impl.FindFrames, []int{x})
		checkFails(t, impl.FindFrames, slices.Concat(whole, []int{x}))
		checkFails(t, impl.FindFrames, slices.Concat([]int{1, x, 2}, whole))
	}
	next := numbers(231)
	for range 150 {
		var stream []int
		for len(stream) < 300 {
			part := expectedBytes(randomFrame(next))
			switch next(5) {
			case 0:
				part = part[:next(17)]
			case 1:
				part[next(17)] = next(256)
			case 2:
				part = nested(5 + next(12))
			}
			stream = append(stream, part...)
		}
		check(t, impl.FindFrames, in(stream), out(expectedFound(stream), true))
	}
}

// expectedContainers reads containers byte by byte, each until the next one begins.
func expectedContainers(frames []impl.Frame) [][]int {
	containers := [][]int{}
	for i, f := range frames {
		if i == len(frames)-1 && f.Pointer > 0 {
			break
		}
		container := []int{}
		for k := range impl.PayloadSize {
			at, inside := i, f.Pointer+k
			if inside >= impl.PayloadSize {
				at, inside = i+1, inside-impl.PayloadSize
			}
			if at > i && inside >= frames[at].Pointer {
				break
			}
			container = append(container, frames[at].Payload[inside])
		}
		containers = append(containers, container)
	}
	return containers
}

func TestReadContainers(t *testing.T) {
	check(t, impl.ReadContainers, in([]impl.Frame{}), out([][]int{}, true))
	check(t, impl.ReadContainers, in(framesAt(0)), out([][]int{counting(0)}, true))
	check(t, impl.ReadContainers, in(framesAt(1)), out([][]int{}, true))
	check(t, impl.ReadContainers, in(framesAt(11)), out([][]int{}, true))
	check(t, impl.ReadContainers, in(framesAt(0, 0)), out([][]int{counting(0), counting(12)}, true))
	check(t, impl.ReadContainers, in(framesAt(2, 2)), out([][]int{counting(2)}, true))
	// Stuffing between containers, and containers that are cut off.
	check(t, impl.ReadContainers, in(framesAt(2, 5, 5)), out([][]int{counting(2), counting(17)}, true))
	check(t, impl.ReadContainers, in(framesAt(0, 11)), out([][]int{counting(0)}, true))
	check(t, impl.ReadContainers, in(framesAt(3, 2, 2)), out([][]int{counting(3)[:11], counting(14)}, true))
	check(t, impl.ReadContainers, in(framesAt(11, 0)), out([][]int{{11}, counting(12)}, true))
	check(t, impl.ReadContainers, in(framesAt(11, 1)), out([][]int{{11, 12}}, true))
	check(t, impl.ReadContainers, in(framesAt(5, 0, 7, 0)), out([][]int{counting(5)[:7], counting(12), counting(31)[:5], counting(36)}, true))
	for a := range impl.PayloadSize {
		for b := range impl.PayloadSize {
			frames := framesAt(a, b, (a+b)%3)
			check(t, impl.ReadContainers, in(frames), out(expectedContainers(frames), true))
			check(t, impl.ReadContainers, in(frames[:2]), out(expectedContainers(frames[:2]), true))
		}
	}
	next := numbers(232)
	for range 100 {
		var frames []impl.Frame
		for range next(impl.MaxFrames + 1) {
			frames = append(frames, randomFrame(next))
		}
		check(t, impl.ReadContainers, in(frames), out(expectedContainers(frames), true))
	}
	// Exactly MaxFrames frames and one more.
	many := framesAt(1, 2, 3, 4, 5, 6, 7, 8, 9, 10, 11, 0)
	check(t, impl.ReadContainers, in(many), out(expectedContainers(many), true))
	checkFails(t, impl.ReadContainers, framesAt(1, 2, 3, 4, 5, 6, 7, 8, 9, 10, 11, 0, 0))
	checkFails(t, impl.CounterGaps, framesAt(1, 2, 3, 4, 5, 6, 7, 8, 9, 10, 11, 0, 0))
}

// expectedWritten puts the bytes of containers one by one into frames.
func expectedWritten(containers [][]int, pointer int) []impl.Frame {
	var frames []impl.Frame
	put := func(x int) {
		if len(frames) == 0 || len(frames[len(frames)-1].Payload) == impl.PayloadSize {
			frames = append(frames, frame(len(frames), pointer))
		}
		last := &frames[len(frames)-1]
		last.Payload = append(last.Payload, x)
	}
	for range pointer {
		put(0)
	}
	for _, container := range containers {
		for _, x := range container {
			put(x)
		}
	}
	for len(frames[len(frames)-1].Payload) < impl.PayloadSize {
		put(0)
	}
	return frames
}

func TestWriteContainers(t *testing.T) {
	a, b := counting(1), counting(101)
	check(t, impl.WriteContainers, in([][]int{a}, 0), out([]impl.Frame{frame(0, 0, a...)}, true))
	check(t, impl.WriteContainers, in([][]int{a, b}, 0), out([]impl.Frame{frame(0, 0, a...), frame(1, 0, b...)}, true))
	check(t, impl.WriteContainers, in([][]int{a, b}, 2), out([]impl.Frame{frame(0, 2, 0, 0, 1, 2, 3, 4, 5, 6, 7, 8, 9, 10), frame(1, 2, 11, 12, 101, 102, 103, 104, 105, 106, 107, 108, 109, 110), frame(2, 2, 111, 112, 0, 0, 0, 0, 0, 0, 0, 0, 0, 0)}, true))
	check(t, impl.WriteContainers, in([][]int{a}, 11), out([]impl.Frame{frame(0, 11, 0, 0, 0, 0, 0, 0, 0, 0, 0, 0, 0, 1), frame(1, 11, 2, 3, 4, 5, 6, 7, 8, 9, 10, 11, 12, 0)}, true))
	// Exactly MaxFrames-1 containers, one more, and none.
	many := slices.Repeat([][]int{a, b}, 6)
	for pointer := range impl.PayloadSize {
		for count := 1; count < impl.MaxFrames; count++ {
			check(t, impl.WriteContainers, in(many[:count], pointer), out(expectedWritten(many[:count], pointer), true))
		}
		checkFails(t, impl.WriteContainers, many, pointer)
		checkFails(t, impl.WriteContainers, [][]int{}, pointer)
	}
	for _, pointer := range []int{-1, 12, minInt, maxInt} {
		checkFails(t, impl.WriteContainers, [][]int{a}, pointer)
		checkFails(t, impl.MovePointer, pointer, 0)
		checkFails(t, impl.MovePointer, pointer, 1)
		checkFails(t, impl.MovePointer, pointer, -1)
	}
	for _, bad := range append([][]int{{}, a[:11], append(slices.Clone(a), 13)}, badContainers()...) {
		checkFails(t, impl.WriteContainers, [][]int{bad}, 0)
		checkFails(t, impl.WriteContainers, [][]int{a, bad}, 3)
		checkFails(t, impl.WriteContainers, [][]int{bad, a, b}, 11)
	}
}

// badContainers returns containers with a number that is no byte.
func badContainers() [][]int {
	var list [][]int
	for _, x := range notBytes {
		container := counting(0)
		container[len(list)] = x
		list = append(list, container)
	}
	return list
}

func TestMovePointer(t *testing.T) {
	for pointer := range impl.PayloadSize {
		check(t, impl.MovePointer, in(pointer, 0), out(pointer, true))
		check(t, impl.MovePointer, in(pointer, 1), out([]int{1, 2, 3, 4, 5, 6, 7, 8, 9, 10, 11, 0}[pointer], true))
		check(t, impl.MovePointer, in(pointer, -1), out([]int{11, 0, 1, 2, 3, 4, 5, 6, 7, 8, 9, 10}[pointer], true))
		for _, drift := range []int{-2, 2, 12, -12, minInt, maxInt} {
			checkFails(t, impl.MovePointer, pointer, drift)
		}
	}
}

// expectedJustified moves the bytes of a buffer one by one.
func expectedJustified(fill int, writes []int, size int, low int, high int) ([]int, []int, bool) {
	buffer := make([]bool, fill)
	justified, fills := []int{}, []int{}
	for _, written := range writes {
		buffer = append(buffer, make([]bool, written)...)
		if len(buffer) > size {
			return nil, nil, false
		}
		j, removed := 0, impl.PayloadSize
		switch {
		case len(buffer) > high:
			j, removed = 1, removed+1
		case len(buffer) < low:
			j, removed = -1, removed-1
		}
		if removed > len(buffer) {
			return nil, nil, false
		}
		buffer = buffer[removed:]
		justified, fills = append(justified, j), append(fills, len(buffer))
	}
	return justified, fills, true
}

func TestJustifyBuffer(t *testing.T) {
	check(t, impl.JustifyBuffer, in(10, []int{13, 13, 8}, 40, 20, 22), out([]int{1, 1, -1}, []int{10, 10, 7}, true))
	check(t, impl.JustifyBuffer, in(10, []int{}, 40, 20, 22), out([]int{}, []int{}, true))
	// Fills before the removal that are equal to low and high, and next to them.
	for _, x := range []struct{ written, justified, fill int }{{9, -1, 8}, {10, 0, 8}, {11, 0, 9}, {12, 0, 10}, {13, 1, 10}} {
		check(t, impl.JustifyBuffer, in(10, []int{x.written}, 40, 20, 22), out([]int{x.justified}, []int{x.fill}, true))
	}
	check(t, impl.JustifyBuffer, in(10, []int{12, 12}, 22, 22, 22), out([]int{0, 0}, []int{10, 10}, true))
	check(t, impl.JustifyBuffer, in(10, []int{12}, 22, 0, 0), out([]int{1}, []int{9}, true))
	check(t, impl.JustifyBuffer, in(10, []int{12}, 100, 100, 100), out([]int{-1}, []int{11}, true))
	// Fills that run empty or over, by one byte and not.
	check(t, impl.JustifyBuffer, in(0, []int{12}, 40, 0, 40), out([]int{0}, []int{0}, true))
	checkFails(t, impl.JustifyBuffer, 0, []int{11}, 40, 0, 40)
	check(t, impl.JustifyBuffer, in(0, []int{11}, 40, 12, 40), out([]int{-1}, []int{0}, true))
	checkFails(t, impl.JustifyBuffer, 0, []int{10}, 40, 12, 40)
	checkFails(t, impl.JustifyBuffer, 0, []int{12}, 40, 0, 11)
	check(t, impl.JustifyBuffer, in(0, []int{13}, 40, 0, 11), out([]int{1}, []int{0}, true))
	check(t, impl.JustifyBuffer, in(30, []int{10}, 40, 0, 40), out([]int{0}, []int{28}, true))
	checkFails(t, impl.JustifyBuffer, 30, []int{11}, 40, 0, 40)
	checkFails(t, impl.JustifyBuffer, 30, []int{10, 12, 14}, 41, 0, 40)
	checkFails(t, impl.JustifyBuffer, 10, []int{13, 13, 0}, 40, 20, 22)
	check(t, impl.JustifyBuffer, in(12, []int{0}, 12, 0, 12), out([]int{0}, []int{0}, true))
	// Writes of 0 and PayloadSize+2, and outside.
	check(t, impl.JustifyBuffer, in(20, []int{14, 0}, 34, 0, 34), out([]int{0, 0}, []int{22, 10}, true))
	for _, written := range []int{-1, 15, minInt, maxInt} {
		checkFails(t, impl.JustifyBuffer, 20, []int{written}, 100, 0, 100)
		checkFails(t, impl.JustifyBuffer, 20, []int{12, 12, written}, 100, 0, 100)
		checkFails(t, impl.JustifyBuffer, 100, []int{written}, 100, 0, 100)
	}
	// 40 steps and one more.
	forty := slices.Repeat([]int{12}, 40)
	check(t, impl.JustifyBuffer, in(10, forty, 40, 20, 22), out(make([]int, 40), slices.Repeat([]int{10}, 40), true))
	checkFails(t, impl.JustifyBuffer, 10, append(slices.Clone(forty), 12), 40, 20, 22)
	// Sizes, fills, low and high at their limits and outside.
	check(t, impl.JustifyBuffer, in(0, []int{}, 1, 0, 0), out([]int{}, []int{}, true))
	check(t, impl.JustifyBuffer, in(1, []int{}, 1, 1, 1), out([]int{}, []int{}, true))
	check(t, impl.JustifyBuffer, in(100, []int{0}, 100, 0, 99), out([]int{1}, []int{87}, true))
	for _, x := range [][4]int{{-1, 40, 20, 22}, {41, 40, 20, 22}, {0, 0, 0, 0}, {0, -1, 0, 0}, {0, 101, 0, 0}, {50, 101, 20, 22}, {10, 40, -1, 22}, {10, 40, 22, 20}, {10, 40, 20, 41}, {10, 40, 41, 41},
		{10, 40, 23, 22}, {minInt, 40, 20, 22}, {maxInt, 40, 20, 22}, {10, maxInt, 20, 22}, {10, minInt, 20, 22}, {10, 40, minInt, 22}, {10, 40, 20, maxInt}, {10, 40, maxInt, 22}, {10, 40, 20, minInt}} {
		checkFails(t, impl.JustifyBuffer, x[0], []int{12}, x[1], x[2], x[3])
		checkFails(t, impl.JustifyBuffer, x[0], []int{}, x[1], x[2], x[3])
	}
	next := numbers(233)
	fine := 0
	for range 400 {
		size := 20 + next(81)
		fill, low := next(size+1), next(size+1)
		high := low + next(size-low+1)
		var writes []int
		for range next(12) {
			writes = append(writes, 10+next(5))
		}
		if justified, fills, ok := expectedJustified(fill, writes, size, low, high); ok {
			check(t, impl.JustifyBuffer, in(fill, writes, size, low, high), out(justified, fills, true))
			fine++
		} else {
			checkFails(t, impl.JustifyBuffer, fill, writes, size, low, high)
		}
	}
	if fine < 100 || fine > 350 {
		t.Errorf("%d of 400 buffers neither run empty nor over", fine)
	}
}

func TestCounterGaps(t *testing.T) {
	with := func(counters ...int) []impl.Frame {
		frames := framesAt(make([]int, len(counters))...)
		for i, counter := range counters {
			frames[i].Counter = counter
		}
		return frames
	}
	check(t, impl.CounterGaps, in(with()), out([]int{}, true))
	check(t, impl.CounterGaps, in(with(9)), out([]int{}, true))
	check(t, impl.CounterGaps, in(with(9, 10, 11)), out([]int{}, true))
	check(t, impl.CounterGaps, in(with(9, 9)), out([]int{1}, true))
	check(t, impl.CounterGaps, in(with(9, 8, 10, 11, 13)), out([]int{1, 2, 4}, true))
	// 255 is followed by 0, and only by 0.
	check(t, impl.CounterGaps, in(with(254, 255, 0, 1)), out([]int{}, true))
	check(t, impl.CounterGaps, in(with(255, 1, 0, 255, 255, 0)), out([]int{1, 2, 3, 4}, true))
	check(t, impl.CounterGaps, in(with(0, 1, 2, 3, 4, 5, 6, 7, 8, 9, 10, 12)), out([]int{11}, true))
	for a := range 256 {
		for _, b := range []int{0, 1, a, (a + 1) % 256, (a + 255) % 256, 255} {
			want := []int{1}
			if b == a+1 || a == 255 && b == 0 {
				want = []int{}
			}
			check(t, impl.CounterGaps, in(with(a, b)), out(want, true))
		}
	}
}
