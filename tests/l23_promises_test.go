package tests

import (
	"reflect"
	"slices"
	"testing"

	"loop.example/g00897/impl"
)

// The tests of this file would fail if promise 23, or promise 29 for a function of chapter 23, were
// broken.

// TestPromise23FramesAreRecoveredFromTheirBytes writes frames into a stream, with other bytes
// between them, and reads them again.
func TestPromise23FramesAreRecoveredFromTheirBytes(t *testing.T) {
	next := numbers(234)
	for range 200 {
		var stream, places []int
		var frames []impl.Frame
		for len(stream) < 360 {
			for range next(20) {
				stream = append(stream, []int{0, 246, 41, 255}[next(4)])
			}
			f := randomFrame(next)
			whole, ok := impl.FrameBytes(f)
			if !ok || len(whole) != impl.FrameSize {
				t.Fatalf("FrameBytes(%v) = %v, %v", f, whole, ok)
			}
			places, frames = append(places, len(stream)), append(frames, f)
			stream = append(stream, whole...)
		}
		// The bytes between have no 40, so that no false frame begins there.
		found, ok := impl.FindFrames(stream)
		if !ok || !slices.Equal(found, places) {
			t.Errorf("FindFrames(%v) = %v, %v instead of %v", stream, found, ok, places)
			continue
		}
		for i, at := range found {
			f, ok := impl.ParseFrame(stream[at : at+impl.FrameSize])
			if !ok || !same(reflect.ValueOf(f), reflect.ValueOf(frames[i])) {
				t.Errorf("the frame %v is read as %v, %v", frames[i], f, ok)
			}
		}
	}
}

// TestPromise23ContainersAreRecoveredFromTheirFrames writes containers into frames, and reads them
// again, also through the bytes of the frames.
func TestPromise23ContainersAreRecoveredFromTheirFrames(t *testing.T) {
	next := numbers(235)
	for count := 1; count < impl.MaxFrames; count++ {
		for pointer := range impl.PayloadSize {
			var containers [][]int
			for range count {
				containers = append(containers, randomFrame(next).Payload)
			}
			frames, ok := impl.WriteContainers(containers, pointer)
			if !ok {
				t.Fatalf("WriteContainers(%v, %d) fails", containers, pointer)
			}
			if gaps, fine := impl.CounterGaps(frames); !fine || len(gaps) > 0 {
				t.Errorf("the Counters of %v have gaps: %v, %v", frames, gaps, fine)
			}
			var received []impl.Frame
			for _, f := range frames {
				whole, _ := impl.FrameBytes(f)
				g, fine := impl.ParseFrame(whole)
				if !fine {
					t.Fatalf("%v is no frame", whole)
				}
				received = append(received, g)
			}
			again, fine := impl.ReadContainers(received)
			if !fine || !same(reflect.ValueOf(again), reflect.ValueOf(containers)) {
				t.Errorf("the containers %v at %d are read as %v, %v", containers, pointer, again, fine)
			}
		}
	}
}

// TestPromise23JustificationKeepsTheCountOfBytes adds up what is written, removed and left: every
// justification is the byte by which a removal differs from PayloadSize.
func TestPromise23JustificationKeepsTheCountOfBytes(t *testing.T) {
	next := numbers(236)
	up, down := 0, 0
	for range 2000 {
		size := 30 + next(71)
		low := next(size - 12)
		high := low + next(size-low)
		fill, pointer := low+next(size-low), next(impl.PayloadSize)
		fill -= min(fill, 12)
		var writes []int
		for range next(41) {
			writes = append(writes, 11+next(4)-next(2)*next(2))
		}
		justified, fills, ok := impl.JustifyBuffer(fill, writes, size, low, high)
		if !ok {
			continue
		}
		if len(justified) != len(writes) || len(fills) != len(writes) {
			t.Fatalf("JustifyBuffer(%d, %v, %d, %d, %d) = %v, %v", fill, writes, size, low, high, justified, fills)
		}
		at, moved := fill, pointer
		for i, written := range writes {
			if fills[i] != at+written-impl.PayloadSize-justified[i] || fills[i] < 0 || at+written > size {
				t.Errorf("step %d of JustifyBuffer(%d, %v, %d, %d, %d) = %v, %v loses bytes", i, fill, writes, size, low, high, justified, fills)
			}
			if justified[i] > 0 != (at+written > high) || justified[i] < 0 != (at+written < low) {
				t.Errorf("step %d of JustifyBuffer(%d, %v, %d, %d, %d) = %v, %v is not justified", i, fill, writes, size, low, high, justified, fills)
			}
			at = fills[i]
			if justified[i] > 0 {
				up++
			} else if justified[i] < 0 {
				down++
			}
			// The pointer follows by as many places, and comes back by the opposite drift.
			before := moved
			moved, _ = impl.MovePointer(moved, justified[i])
			if back, fine := impl.MovePointer(moved, -justified[i]); !fine || back != before || (moved-before-justified[i])%impl.PayloadSize != 0 {
				t.Errorf("the pointer %d moves by %d to %d, and back to %d", before, justified[i], moved, back)
			}
		}
	}
	if up < 300 || down < 300 {
		t.Errorf("only %d and %d steps are justified", up, down)
	}
}

func frameCandidates() candidates {
	c := candidates{}
	whole := expectedBytes(frame(7, 3, counting(1)...))
	for _, f := range badFrames() {
		c.add(f)
	}
	c.add(frame(0, 0, counting(0)...), frame(255, 11, counting(244)...))
	c.add([]int(nil), []int{}, whole, whole[:16], slices.Repeat(whole, 3), slices.Repeat(whole, 24), []int{12, 13}, []int{-1}, []int{256}, slices.Repeat([]int{12}, 40), slices.Repeat([]int{12}, 41))
	c.add([]impl.Frame(nil), framesAt(0), framesAt(3, 2, 1, 0), framesAt(1, 2, 3, 4, 5, 6, 7, 8, 9, 10, 11, 0), framesAt(1, 2, 3, 4, 5, 6, 7, 8, 9, 10, 11, 0, 0), badFrames()[:3], append(framesAt(0), badFrames()[7:9]...))
	c.add([][]int(nil), [][]int{counting(0)}, [][]int{counting(0), counting(200)}, slices.Repeat([][]int{counting(9)}, 11), slices.Repeat([][]int{counting(9)}, 12), [][]int{{1}}, badContainers(), badContainers()[:1])
	c.add(minInt, -1, 0, 1, 11, 12, 20, 40, 100, 101, maxInt)
	return c
}

func TestPromise29FrameFunctions(t *testing.T) {
	c := frameCandidates()
	for _, f := range []any{impl.IsValidFrame, impl.FrameBytes, impl.ParseFrame, impl.FindFrames, impl.ReadContainers, impl.WriteContainers, impl.MovePointer, impl.JustifyBuffer, impl.CounterGaps} {
		sweep(t, f, c, 4000, func(args []any) bool {
			f, ok := args[0].(impl.Frame)
			return ok && !impl.IsValidFrame(f)
		})
	}
}
