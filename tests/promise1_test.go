package tests

import (
	"fmt"
	"math"
	"slices"
	"strings"
	"testing"

	"loop.example/g00632/impl"
)

// oddNumbers and oddTexts are what anybody may hand in, right or wrong.
func oddNumbers() []int {
	list := []int{math.MinInt, math.MinInt + 1, -1 << 31, -20, -1, 19, 20, 1 << 31, 1 << 32, math.MaxInt - 1, math.MaxInt, impl.MaxNumber + 1}
	return append(list, edgeNumbers()...)
}

func oddTexts() []string {
	texts := append(sumTexts(), "ok", "version", "name_1", long(40), long(41), long(60000), long(60001), long(impl.MaxText), long(impl.MaxText+1),
		strings.Repeat("\x80", impl.MaxText), strings.Repeat("\xff", impl.MaxText+1), strings.Repeat("\x00", impl.MaxText),
		plainList(counted(300)), plainFrame("ab"), plainFrame(long(60000)), "\xff\xff\xff\xff\xff\xff\xff\xff\xff\x7f")
	state := uint32(1)
	for range 300 { // a plain rule makes them, so that each run has the same ones
		text := make([]byte, state>>16%12)
		for i := range text {
			state = state*1664525 + 1013904223
			text[i] = byte(state >> 24)
		}
		state = state*1664525 + 1013904223
		texts = append(texts, string(text))
	}
	return texts
}

func oddLists() [][]int {
	return [][]int{nil, {}, {0}, {math.MinInt}, {5, -1}, edgeNumbers(), oddNumbers(), counted(impl.MaxList), counted(impl.MaxList + 1)}
}

// callsOfStage1 holds every call of chapters 1 and 2 with its arguments; each tells its answer.
func callsOfStage1() []func() string {
	var calls []func() string
	for _, n := range oddNumbers() {
		calls = append(calls,
			func() string { return impl.CodeWord(n) },
			func() string { return fmt.Sprint(impl.PackNumber(n)) })
	}
	for _, list := range oddLists() {
		calls = append(calls, func() string { return fmt.Sprint(impl.PackList(list)) })
	}
	for _, text := range oddTexts() {
		calls = append(calls,
			func() string { return fmt.Sprint(impl.NameOK(text)) },
			func() string { return fmt.Sprint(impl.CodeOf(text)) },
			func() string { return fmt.Sprint(impl.UnpackNumber(text)) },
			func() string { return fmt.Sprint(impl.UnpackList(text)) },
			func() string { return fmt.Sprint(impl.SumOf(text)) },
			func() string { return fmt.Sprint(impl.FrameText(text)) },
			func() string { return fmt.Sprint(impl.UnframeText(text)) })
	}
	return calls
}

// A panic anywhere here fails the test too.
func TestAnswersDoNotHangOnWhatWasCalledAhead(t *testing.T) {
	calls := callsOfStage1()
	first := make([]string, len(calls))
	for i, call := range calls {
		first[i] = call()
	}
	for i, call := range slices.Backward(calls) {
		if again := call(); again != first[i] {
			t.Errorf("call %d answered %.60q, then %.60q", i, first[i], again)
		}
	}
}

func TestPackListLeavesItsArgument(t *testing.T) {
	for _, list := range oddLists() {
		room := append(slices.Clone(list), 7, 8, 9)
		was := slices.Clone(room)
		impl.PackList(room[:len(list)])
		if !slices.Equal(room, was) {
			t.Errorf("a list of %d numbers, or what is behind it, was changed", len(list))
		}
	}
}

func TestListsOfAnswersShareNoMemory(t *testing.T) {
	want := counted(300)
	packed := plainList(want)
	one, _ := impl.UnpackList(packed)
	other, _ := impl.UnpackList(packed)
	clear(one[:cap(one)])
	third, _ := impl.UnpackList(packed)
	if !slices.Equal(other, want) || !slices.Equal(third, want) {
		t.Error("an answer changed with another one")
	}
}

func TestCallsBesideOneAnother(t *testing.T) {
	calls := callsOfStage1()
	want := make([]string, len(calls))
	for i, call := range calls {
		want[i] = call()
	}
	for worker := range 4 {
		t.Run(fmt.Sprint(worker), func(t *testing.T) {
			t.Parallel()
			for i, call := range calls {
				if got := call(); got != want[i] {
					t.Errorf("call %d answered %.60q, then %.60q", i, want[i], got)
				}
			}
		})
	}
}
