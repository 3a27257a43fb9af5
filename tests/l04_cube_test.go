package tests

import (
	"fmt"
	"math"
	"slices"
	"testing"

	"loop.example/g00552/impl"
)

const farStart = 2 * impl.MaxTime

func pane(win, mask, start int, a impl.Agg, key ...int) impl.Pane {
	return impl.Pane{Win: win, Mask: mask, Start: start, Key: key, A: a}
}

func samePane(a, b impl.Pane) bool {
	return a.Win == b.Win && a.Mask == b.Mask && a.Start == b.Start && slices.Equal(a.Key, b.Key) && a.A == b.A
}

func samePanes(a, b []impl.Pane) bool {
	return slices.EqualFunc(a, b, samePane)
}

func copyPanes(list []impl.Pane) []impl.Pane {
	list = slices.Clone(list)
	for i := range list {
		list[i].Key = slices.Clone(list[i].Key)
	}
	return list
}

// cubeConfig has windows that overlap and finer ones, and masks of which some are in others; place 3 of Masks keeps nothing.
func cubeConfig() impl.Config {
	return config(3, []impl.Win{win(10, 5), win(5, 5), win(30, 15)}, []int{5, 7, 4, 0}, 3, 4)
}

// cubeConfigs holds configs of each number of Dims, with and without Wins and Masks.
func cubeConfigs() []impl.Config {
	list := append(acceptedConfigs(), cubeConfig())
	for dims := range impl.MaxDims + 1 {
		masks := []int{}
		for mask := 1<<dims - 1; mask >= 0 && len(masks) < impl.MaxMasks; mask-- {
			masks = append(masks, mask)
		}
		list = append(list, config(dims, []impl.Win{win(7, 7), win(21, 21), win(84, 7)}, masks, 0, 0))
		list = append(list, config(dims, []impl.Win{win(1, 1), win(spread, 1), win(widest, 5000)}, masks[:1], 0, 0))
	}
	return list
}

// mixedEvents tells n events that differ from one seed to another, of few keys, with moments on both sides of 0 and at the limits.
func mixedEvents(c impl.Config, n, seed int) []impl.Event {
	vals, times, dims := mixed(n, seed), mixed(n, seed+1), mixed(n*impl.MaxDims, seed+2)
	list := make([]impl.Event, n)
	for i := range list {
		at := times[i]%50 - times[i]%3
		switch times[i] % 11 {
		case 7:
			at = latest - i%2
		case -7:
			at = -latest + i%3
		}
		list[i] = event(at, vals[i])
		for d := range c.Dims {
			list[i].Dims = append(list[i].Dims, []int{0, 1, 10, topDim}[(dims[i*impl.MaxDims+d]/7+bound)%4])
		}
	}
	return list
}

// keyByHand tells what a mask keeps, told without the program.
func keyByHand(mask int, dims []int) []int {
	key := []int{}
	for i, dim := range dims {
		if mask/(1<<i)%2 == 1 {
			key = append(key, dim)
		}
	}
	return key
}

// panesByHand tells the panes of events: it gathers the values that belong to each, and puts the names of the panes in order as texts.
func panesByHand(t *testing.T, c impl.Config, list []impl.Event) []impl.Pane {
	t.Helper()
	found := map[string]impl.Pane{}
	values := map[string][]int{}
	for _, e := range list {
		for w := range c.Wins {
			for _, start := range startsByStep(c.Wins[w], e.At) {
				for m, mask := range c.Masks {
					key := keyByHand(mask, e.Dims)
					name := fmt.Sprintf("%d %d %07d %02d", w, m, start+1000000, key)
					found[name] = pane(w, m, start, impl.Agg{}, key...)
					values[name] = append(values[name], e.Val)
				}
			}
		}
	}
	names := []string{}
	for name := range found {
		names = append(names, name)
	}
	slices.Sort(names)
	panes := []impl.Pane{}
	for _, name := range names {
		p := found[name]
		p.A = listed(t, values[name])
		panes = append(panes, p)
	}
	return panes
}

func panesOf(t *testing.T, c impl.Config, list []impl.Event) []impl.Pane {
	t.Helper()
	panes, ok := impl.PanesOf(c, list)
	if !ok {
		t.Fatalf("PanesOf(%v) refuses %d events", c, len(list))
	}
	return panes
}

func onlyMask(list []impl.Pane, mask int) []impl.Pane {
	return slices.DeleteFunc(slices.Clone(list), func(p impl.Pane) bool { return p.Mask != mask })
}

func onlyWin(list []impl.Pane, win int) []impl.Pane {
	return slices.DeleteFunc(slices.Clone(list), func(p impl.Pane) bool { return p.Win != win })
}

func refusesEvents(t *testing.T, c impl.Config, list []impl.Event) {
	t.Helper()
	if got, ok := impl.PanesOf(c, list); ok || len(got) != 0 {
		t.Errorf("PanesOf(%v) of %d events: %d panes, %v; want nothing, false", c, len(list), len(got), ok)
	}
}

func refusesRollUp(t *testing.T, c impl.Config, list []impl.Pane, from, to int) {
	t.Helper()
	if got := impl.RollUp(c, list, from, to); len(got) != 0 {
		t.Errorf("RollUp(%v, %.200v, %d, %d) = %.200v; want nothing", c, fmt.Sprint(list), from, to, fmt.Sprint(got))
	}
}

func refusesWiden(t *testing.T, c impl.Config, list []impl.Pane, from, to int) {
	t.Helper()
	if got := impl.Widen(c, list, from, to); len(got) != 0 {
		t.Errorf("Widen(%v, %.200v, %d, %d) = %.200v; want nothing", c, fmt.Sprint(list), from, to, fmt.Sprint(got))
	}
}

// risingPanes holds panes in order, each ahead of all behind it by just one thing or by one that counts ahead of others.
func risingPanes() []impl.Pane {
	a := agg(1, 7, 7, 7)
	return []impl.Pane{
		pane(math.MinInt, 9, 9, a, 9), pane(-1, 9, 9, a, 9),
		pane(0, math.MinInt, 9, a, 9), pane(0, -1, 9, a, 9),
		pane(0, 0, math.MinInt, a, 9), pane(0, 0, -10, a, 9), pane(0, 0, -9, a, 9),
		pane(0, 0, 0, a), pane(0, 0, 0, a, math.MinInt), pane(0, 0, 0, a, -1), pane(0, 0, 0, a, 0),
		pane(0, 0, 0, a, 0, 0), pane(0, 0, 0, a, 0, 0, 0), pane(0, 0, 0, a, 0, 0, 0, 0), pane(0, 0, 0, a, 0, 0, 1), pane(0, 0, 0, a, 0, 1), pane(0, 0, 0, a, 0, 10),
		pane(0, 0, 0, a, 2), pane(0, 0, 0, a, 2, 9), pane(0, 0, 0, a, 10), pane(0, 0, 0, a, 10, 1), pane(0, 0, 0, a, math.MaxInt),
		pane(0, 0, 9, a), pane(0, 0, 10, a, 0), pane(0, 0, math.MaxInt, a),
		pane(0, 1, -10, a), pane(0, 2, 0, a), pane(0, 10, 0, a), pane(0, math.MaxInt, 0, a),
		pane(1, 0, 0, a), pane(2, -1, -1, a), pane(10, 0, 0, a), pane(math.MaxInt, math.MinInt, math.MinInt, a),
	}
}

func TestPaneCmp(t *testing.T) {
	list := risingPanes()
	for i, a := range list {
		for j, b := range list {
			want := 0
			if i < j {
				want = -1
			}
			if i > j {
				want = 1
			}
			b.A = agg(2, i-j, math.MaxInt, math.MinInt)
			if got := impl.PaneCmp(a, b); got != want {
				t.Errorf("PaneCmp(%v, %v) = %d; want %d", a, b, got, want)
			}
		}
	}
}

func TestPaneCmpReadsNothingBehindAKey(t *testing.T) {
	room := []int{1, 2, 3}
	a, b := pane(0, 0, 0, impl.Agg{}, room[:1]...), pane(0, 0, 0, impl.Agg{}, 1)
	if got := impl.PaneCmp(a, b); got != 0 {
		t.Errorf("PaneCmp = %d", got)
	}
	none := pane(0, 0, 0, impl.Agg{})
	none.Key = room[:0]
	if got := impl.PaneCmp(none, impl.Pane{}); got != 0 {
		t.Errorf("PaneCmp of an empty key and nil = %d", got)
	}
}

// soundPanes are PanesOk with cubeConfig: both limits of a start and of a key's numbers, and an A of MaxCount values.
func soundPanes() []impl.Pane {
	return []impl.Pane{
		pane(0, 0, -farStart, agg(1, -bound, -bound, -bound), 0, topDim),
		pane(0, 0, -5, agg(1, 0, 0, 0), 0, 0),
		pane(0, 0, -5, agg(2, 3, -2, 5), 0, 1),
		pane(0, 0, -5, agg(1, 7, 7, 7), 1, 0),
		pane(0, 0, 0, agg(1, 7, 7, 7), 0, 0),
		pane(0, 1, -5, agg(most, most*bound, bound, bound), topDim, topDim, topDim),
		pane(0, 2, farStart, agg(most, 0, -1, 1), 2),
		pane(0, 2, farStart, agg(1, 1, 1, 1), 10),
		pane(0, 3, -10, agg(3, 8, -2, 5)),
		pane(1, 3, -10, agg(3, 8, -2, 5)),
		pane(2, 0, -15, agg(1, 7, 7, 7), 0, 0),
		pane(2, 3, -15, agg(1, 7, 7, 7)),
		pane(2, 3, 0, agg(1, 7, 7, 7)),
	}
}

// refusedPanes holds those of which a single thing is not as PanesOk asks for.
func refusedPanes() []impl.Pane {
	a := agg(1, 7, 7, 7)
	list := []impl.Pane{
		pane(-1, 3, 0, a), pane(3, 3, 0, a), pane(0, -1, 0, a), pane(0, 4, 0, a), pane(3, 4, 0, a), pane(-1, -1, 0, a),
		pane(0, 3, 1, a), pane(0, 3, -1, a), pane(0, 3, 4, a), pane(0, 3, -6, a), pane(2, 3, 5, a), pane(2, 3, -20, a), pane(2, 3, 10, a),
		pane(0, 3, farStart+5, a), pane(0, 3, -farStart-5, a), pane(0, 3, farStart+1, a), pane(0, 3, -farStart-1, a),
		pane(0, 3, 0, a, 0), pane(0, 2, 0, a), pane(0, 2, 0, a, 0, 0), pane(0, 0, 0, a), pane(0, 0, 0, a, 1), pane(0, 0, 0, a, 1, 1, 1),
		pane(0, 1, 0, a, 1, 1), pane(0, 1, 0, a, 1, 1, 1, 1), pane(0, 1, 0, a, filled(40, 0)...),
		pane(0, 3, 0, impl.Agg{}), pane(0, 1, 0, impl.Agg{}, 1, 2, 3),
	}
	for _, n := range farNumbers() {
		list = append(list, pane(n, 3, 0, a), pane(0, n, 0, a), pane(n, n, 0, a), pane(n, n, n, a, n))
		// As a start, 64 is within the limits, but a multiple of neither Slide.
		list = append(list, pane(0, 3, n, a), pane(2, 3, n, a))
	}
	for _, n := range []int{-1, topDim + 1, math.MaxInt, math.MinInt, 1 << 32} {
		list = append(list, pane(0, 2, 0, a, n), pane(0, 0, 0, a, n, 0), pane(0, 0, 0, a, 0, n), pane(0, 1, 0, a, 0, n, 0), pane(0, 1, 0, a, 0, 0, n))
	}
	for _, bad := range refusedAggs() {
		list = append(list, pane(0, 3, 0, bad), pane(1, 2, -5, bad, 1))
	}
	return list
}

// unsoundLists holds lists that are not PanesOk with cubeConfig: a pane that is refused, alone, first, amid others and last, and lists out of order.
func unsoundLists() [][]impl.Pane {
	sound := soundPanes()
	turned, twice, again := copyPanes(sound), copyPanes(sound), copyPanes(sound)
	slices.Reverse(turned)
	for i := range twice {
		twice[i] = twice[0]
	}
	again = append(again, again[len(again)-1])
	lists := [][]impl.Pane{turned, twice, again}
	for _, p := range refusedPanes() {
		place, _ := slices.BinarySearchFunc(sound, p, impl.PaneCmp)
		for place < len(sound) && impl.PaneCmp(sound[place], p) == 0 {
			place++
		}
		lists = append(lists, []impl.Pane{p}, slices.Insert(slices.Clone(sound), place, p))
	}
	for i := range len(sound) - 1 {
		swapped := slices.Clone(sound)
		swapped[i], swapped[i+1] = swapped[i+1], swapped[i]
		same := sound[i]
		same.A = agg(1, 3, 3, 3)
		lists = append(lists, swapped, slices.Insert(slices.Clone(sound), i, same), slices.Insert(slices.Clone(sound), i+1, same))
	}
	return lists
}

func TestPanesOk(t *testing.T) {
	sound := soundPanes()
	if !impl.PanesOk(cubeConfig(), sound) {
		t.Fatalf("PanesOk(%v) = false", sound)
	}
	for i := range sound {
		for j := i; j <= len(sound); j++ {
			if !impl.PanesOk(cubeConfig(), sound[i:j]) {
				t.Errorf("PanesOk(%v) = false", sound[i:j])
			}
		}
	}
	for _, list := range unsoundLists() {
		if impl.PanesOk(cubeConfig(), list) {
			t.Errorf("PanesOk(%v) = true", list)
		}
	}
}

func TestPanesOkOfEachStart(t *testing.T) {
	for _, w := range []impl.Win{win(1, 1), win(spread, 1), win(7, 7), win(20, 10), win(widest, widest), win(19998, 6666)} {
		c := config(0, []impl.Win{w}, []int{0}, 0, 0)
		starts := []int{farStart, farStart + 1, farStart - 1, -farStart, -farStart - 1, -farStart + 1, farStart + widest, -farStart - widest, latest, -latest}
		for s := -50; s <= 50; s++ {
			starts = append(starts, s, s*w.Slide)
		}
		for _, s := range starts {
			want := s%w.Slide == 0 && s >= -farStart && s <= farStart
			if got := impl.PanesOk(c, []impl.Pane{pane(0, 0, s, agg(1, 7, 7, 7))}); got != want {
				t.Errorf("PanesOk with %v of the start %d = %v", w, s, got)
			}
		}
	}
}

func TestPanesOkOfEachKey(t *testing.T) {
	for dims := range impl.MaxDims + 1 {
		for mask := range 1 << dims {
			c := config(dims, []impl.Win{win(1, 1)}, []int{mask}, 0, 0)
			kept := len(keyByHand(mask, filled(dims, 0)))
			for n := range 6 {
				for _, dim := range []int{0, topDim} {
					if got := impl.PanesOk(c, []impl.Pane{pane(0, 0, 0, agg(1, 7, 7, 7), filled(n, dim)...)}); got != (n == kept) {
						t.Errorf("PanesOk with the mask %d of a key of %d = %v", mask, n, got)
					}
				}
			}
		}
	}
}

func TestPanesOkOfNoPanesIsConfigOk(t *testing.T) {
	for _, c := range cubeConfigs() {
		if !impl.PanesOk(c, nil) || !impl.PanesOk(c, []impl.Pane{}) {
			t.Errorf("PanesOk(%v) of none = false", c)
		}
	}
	for _, c := range refusedConfigs() {
		for _, list := range [][]impl.Pane{nil, {}, {pane(0, 0, 0, agg(1, 7, 7, 7))}, {pane(0, 0, 0, agg(1, 7, 7, 7), 0)}} {
			if impl.PanesOk(c, list) {
				t.Errorf("PanesOk(%v, %v) = true", c, list)
			}
		}
	}
	for _, c := range []impl.Config{{}, config(1, []impl.Win{win(5, 5)}, nil, 0, 0), config(1, nil, []int{0}, 0, 0)} {
		if impl.PanesOk(c, []impl.Pane{pane(0, 0, 0, agg(1, 7, 7, 7))}) {
			t.Errorf("PanesOk(%v) = true, without Wins or Masks", c)
		}
	}
}

func TestPanesOf(t *testing.T) {
	c := config(2, []impl.Win{win(20, 10), win(10, 10)}, []int{2, 0}, 0, 0)
	got := panesOf(t, c, []impl.Event{event(-1, 4, 5, 9), event(3, -2, 6, 9), event(-10, 1, 5, 2)})
	want := []impl.Pane{
		pane(0, 0, -20, agg(1, 1, 1, 1), 2), pane(0, 0, -20, agg(1, 4, 4, 4), 9),
		pane(0, 0, -10, agg(1, 1, 1, 1), 2), pane(0, 0, -10, agg(2, 2, -2, 4), 9),
		pane(0, 0, 0, agg(1, -2, -2, -2), 9),
		pane(0, 1, -20, agg(2, 5, 1, 4)), pane(0, 1, -10, agg(3, 3, -2, 4)), pane(0, 1, 0, agg(1, -2, -2, -2)),
		pane(1, 0, -10, agg(1, 1, 1, 1), 2), pane(1, 0, -10, agg(1, 4, 4, 4), 9), pane(1, 0, 0, agg(1, -2, -2, -2), 9),
		pane(1, 1, -10, agg(2, 5, 1, 4)), pane(1, 1, 0, agg(1, -2, -2, -2)),
	}
	if !samePanes(got, want) {
		t.Errorf("%v; want %v", got, want)
	}
}

func TestPanesAreTheAggListOfTheirValues(t *testing.T) {
	for seed, c := range cubeConfigs() {
		for _, n := range []int{0, 1, 2, 7, 60} {
			list := mixedEvents(c, n, 10*seed+n)
			got := panesOf(t, c, list)
			if want := panesByHand(t, c, list); !samePanes(got, want) {
				t.Errorf("PanesOf(%v) of %d events = %.500v; want %.500v", c, n, fmt.Sprint(got), fmt.Sprint(want))
			}
			if !impl.PanesOk(c, got) {
				t.Errorf("PanesOf(%v) of %d events is not PanesOk", c, n)
			}
		}
	}
}

func TestPanesOfEventsInAnotherOrder(t *testing.T) {
	for seed, c := range cubeConfigs() {
		list := mixedEvents(c, 40, seed)
		want := panesOf(t, c, list)
		turned := slices.Clone(list)
		slices.Reverse(turned)
		for cut := 0; cut < len(list); cut += 7 {
			for _, other := range [][]impl.Event{slices.Concat(list[cut:], list[:cut]), slices.Concat(turned[cut:], turned[:cut])} {
				if got := panesOf(t, c, other); !samePanes(got, want) {
					t.Fatalf("PanesOf(%v) hangs on the order, at the cut %d", c, cut)
				}
			}
		}
	}
}

func TestPanesOfTheSameEventTwice(t *testing.T) {
	c := config(1, []impl.Win{win(5, 5)}, []int{1}, 0, 0)
	e := event(-5, -8, 3)
	if got := panesOf(t, c, []impl.Event{e, e, e}); !samePanes(got, []impl.Pane{pane(0, 0, -5, agg(3, -24, -8, -8), 3)}) {
		t.Errorf("%v", got)
	}
}

func TestPanesOfNothing(t *testing.T) {
	for _, c := range cubeConfigs() {
		if got, ok := impl.PanesOf(c, nil); !ok || len(got) != 0 {
			t.Errorf("PanesOf(%v) of no events = %v, %v", c, got, ok)
		}
		list := mixedEvents(c, 5, 3)
		for _, less := range []impl.Config{config(c.Dims, nil, c.Masks, 0, 0), config(c.Dims, c.Wins, nil, 0, 0)} {
			if got, ok := impl.PanesOf(less, list); !ok || len(got) != 0 {
				t.Errorf("PanesOf(%v) = %v, %v", less, got, ok)
			}
			for _, e := range refusedEvents(c.Dims) {
				refusesEvents(t, less, append(list, e))
			}
		}
	}
}

func TestPanesOfAsManyEventsAsThereMayBe(t *testing.T) {
	c := config(1, []impl.Win{win(60, 5)}, []int{0, 1}, 0, 0)
	same := slices.Repeat([]impl.Event{event(7, bound, 1)}, most+1)
	got := panesOf(t, c, same[:most])
	if len(got) != 2*spread || got[0].A != agg(most, most*bound, bound, bound) || !impl.PanesOk(c, got) {
		t.Errorf("%d panes, the first one %v", len(got), got[0])
	}
	refusesEvents(t, c, same)
	// It is the events that are counted, not those of one pane.
	apart := mixedEvents(cubeConfig(), most+1, 5)
	for i := range apart {
		apart[i].At = 10*i - 5000
	}
	if got := panesOf(t, cubeConfig(), apart[:most]); !samePanes(got, panesByHand(t, cubeConfig(), apart[:most])) {
		t.Error("PanesOf of MaxCount events is not what they say")
	}
	refusesEvents(t, cubeConfig(), apart)
	refusesEvents(t, impl.Config{Dims: 3}, apart)
}

func TestPanesOfRefuses(t *testing.T) {
	for seed, c := range cubeConfigs() {
		list := mixedEvents(c, 6, seed)
		for _, e := range refusedEvents(c.Dims) {
			for _, place := range []int{0, 3, 6} {
				refusesEvents(t, c, slices.Insert(slices.Clone(list), place, e))
			}
			refusesEvents(t, c, []impl.Event{e})
		}
	}
	for _, c := range refusedConfigs() {
		refusesEvents(t, c, nil)
		refusesEvents(t, c, []impl.Event{})
		for dims := range 5 {
			refusesEvents(t, c, []impl.Event{event(1, 1, filled(dims, 1)...)})
		}
	}
}

func TestRollUp(t *testing.T) {
	c := config(3, []impl.Win{win(10, 10), win(20, 20)}, []int{7, 5, 4, 0}, 0, 0)
	list := []impl.Pane{
		pane(0, 0, -10, agg(1, 4, 4, 4), 1, 2, 3), pane(0, 0, -10, agg(2, 3, -2, 5), 1, 9, 3), pane(0, 0, -10, agg(1, 8, 8, 8), 2, 2, 3),
		pane(0, 0, 0, agg(1, 1, 1, 1), 1, 2, 3),
		pane(0, 1, 0, agg(5, 50, 10, 10), 7, 7),
		pane(1, 0, 0, agg(1, 6, 6, 6), 1, 2, 3), pane(1, 0, 0, agg(1, 9, 9, 9), 4, 2, 1),
	}
	for _, step := range []struct {
		from, to int
		want     []impl.Pane
	}{
		{0, 1, []impl.Pane{
			pane(0, 1, -10, agg(3, 7, -2, 5), 1, 3), pane(0, 1, -10, agg(1, 8, 8, 8), 2, 3), pane(0, 1, 0, agg(1, 1, 1, 1), 1, 3),
			pane(1, 1, 0, agg(1, 6, 6, 6), 1, 3), pane(1, 1, 0, agg(1, 9, 9, 9), 4, 1),
		}},
		// The key of the last pane is ahead once only its last number is left.
		{0, 2, []impl.Pane{
			pane(0, 2, -10, agg(4, 15, -2, 8), 3), pane(0, 2, 0, agg(1, 1, 1, 1), 3), pane(1, 2, 0, agg(1, 9, 9, 9), 1), pane(1, 2, 0, agg(1, 6, 6, 6), 3),
		}},
		{0, 3, []impl.Pane{pane(0, 3, -10, agg(4, 15, -2, 8)), pane(0, 3, 0, agg(1, 1, 1, 1)), pane(1, 3, 0, agg(2, 15, 6, 9))}},
		{1, 2, []impl.Pane{pane(0, 2, 0, agg(5, 50, 10, 10), 7)}},
		{1, 1, []impl.Pane{pane(0, 1, 0, agg(5, 50, 10, 10), 7, 7)}},
		{3, 3, nil}, {2, 3, nil},
	} {
		if got := impl.RollUp(c, list, step.from, step.to); !samePanes(got, step.want) {
			t.Errorf("RollUp from %d to %d = %v; want %v", step.from, step.to, got, step.want)
		}
	}
}

func TestWhatIsRolledUpIsWhatComesOfTheEventsAtOnce(t *testing.T) {
	for seed, c := range cubeConfigs() {
		list := mixedEvents(c, 50, seed+1)
		panes := panesOf(t, c, list)
		for from := range c.Masks {
			for to := range c.Masks {
				if c.Masks[to]&c.Masks[from] != c.Masks[to] {
					refusesRollUp(t, c, panes, from, to)
					continue
				}
				want := onlyMask(panesByHand(t, c, list), to)
				if got := impl.RollUp(c, panes, from, to); !samePanes(got, want) {
					t.Errorf("RollUp(%v) from %d to %d = %.500v; want %.500v", c, from, to, fmt.Sprint(got), fmt.Sprint(want))
				}
				if got := impl.RollUp(c, onlyMask(panes, from), from, to); !samePanes(got, want) {
					t.Errorf("RollUp(%v) from %d to %d hangs on the panes of other masks", c, from, to)
				}
			}
		}
	}
}

func TestRollUpRefuses(t *testing.T) {
	c := cubeConfig()
	sound := soundPanes()
	for _, n := range append(farNumbers(), -1, len(c.Masks), len(c.Masks)+1) {
		refusesRollUp(t, c, sound, n, 3)
		refusesRollUp(t, c, sound, 1, n)
		refusesRollUp(t, c, sound, n, n)
	}
	// A mask may be in another one without being below it by place, and not be in it though it is a smaller number.
	for _, step := range [][2]int{{0, 1}, {2, 0}, {2, 1}, {3, 0}, {3, 1}, {3, 2}} {
		refusesRollUp(t, c, sound, step[0], step[1])
	}
	apart := config(2, []impl.Win{win(5, 5)}, []int{1, 2}, 0, 0)
	refusesRollUp(t, apart, []impl.Pane{pane(0, 0, 0, agg(1, 7, 7, 7), 1), pane(0, 1, 0, agg(1, 7, 7, 7), 1)}, 0, 1)
	refusesRollUp(t, apart, []impl.Pane{pane(0, 0, 0, agg(1, 7, 7, 7), 1), pane(0, 1, 0, agg(1, 7, 7, 7), 1)}, 1, 0)
	for _, list := range unsoundLists() {
		refusesRollUp(t, c, list, 1, 3)
		refusesRollUp(t, c, list, 3, 3)
	}
	for _, bad := range refusedConfigs() {
		for dims := range 5 {
			refusesRollUp(t, bad, []impl.Pane{pane(0, 0, 0, agg(1, 7, 7, 7), filled(dims, 1)...)}, 0, 0)
		}
	}
	refusesRollUp(t, impl.Config{}, nil, 0, 0)
	refusesRollUp(t, config(0, []impl.Win{win(5, 5)}, nil, 0, 0), nil, 0, 0)
	refusesRollUp(t, c, nil, 1, 3)
}

func TestRollUpWithJoinsThatAreFalse(t *testing.T) {
	c := config(1, []impl.Win{win(5, 5)}, []int{1, 0}, 0, 0)
	half := agg(most/2, 0, 0, 0)
	list := []impl.Pane{pane(0, 0, 0, half, 1), pane(0, 0, 0, half, 2), pane(0, 0, 5, half, 1)}
	if got := impl.RollUp(c, list, 0, 1); !samePanes(got, []impl.Pane{pane(0, 1, 0, agg(most, 0, 0, 0)), pane(0, 1, 5, half)}) {
		t.Errorf("RollUp of MaxCount values = %v", got)
	}
	// One join that is false is enough, wherever it is, and whatever else would be joined behind it.
	for i := range 2 {
		over := copyPanes(list)
		over[i].A = agg(most/2+1, 0, 0, 0)
		refusesRollUp(t, c, over, 0, 1)
		refusesRollUp(t, c, slices.Insert(over, 2, pane(0, 0, 0, agg(1, 7, 7, 7), 3)), 0, 1)
	}
	late := append(copyPanes(list), pane(0, 0, 5, agg(most, 0, 0, 0), 2), pane(0, 0, 10, half, 1))
	refusesRollUp(t, c, late, 0, 1)
	if got := impl.RollUp(c, late, 0, 0); !samePanes(got, late) {
		t.Errorf("RollUp to the same mask = %v", got)
	}
}

func TestWiden(t *testing.T) {
	c := config(1, []impl.Win{win(5, 5), win(20, 10), win(10, 10)}, []int{0, 1}, 0, 0)
	list := []impl.Pane{
		pane(0, 0, -5, agg(1, 4, 4, 4)),
		pane(0, 1, -10, agg(1, 1, 1, 1), 9), pane(0, 1, -5, agg(2, 3, -2, 5), 9), pane(0, 1, 0, agg(1, 8, 8, 8), 2), pane(0, 1, 5, agg(1, 6, 6, 6), 9),
		pane(1, 1, 30, agg(5, 50, 10, 10), 7),
		pane(2, 0, 10, agg(1, 3, 3, 3)),
	}
	for _, step := range []struct {
		from, to int
		want     []impl.Pane
	}{
		{0, 1, []impl.Pane{
			pane(1, 0, -20, agg(1, 4, 4, 4)), pane(1, 0, -10, agg(1, 4, 4, 4)),
			pane(1, 1, -20, agg(3, 4, -2, 5), 9), pane(1, 1, -10, agg(1, 8, 8, 8), 2), pane(1, 1, -10, agg(4, 10, -2, 6), 9),
			pane(1, 1, 0, agg(1, 8, 8, 8), 2), pane(1, 1, 0, agg(1, 6, 6, 6), 9),
		}},
		{0, 2, []impl.Pane{
			pane(2, 0, -10, agg(1, 4, 4, 4)), pane(2, 1, -10, agg(3, 4, -2, 5), 9), pane(2, 1, 0, agg(1, 8, 8, 8), 2), pane(2, 1, 0, agg(1, 6, 6, 6), 9),
		}},
		{2, 1, []impl.Pane{pane(1, 0, 0, agg(1, 3, 3, 3)), pane(1, 0, 10, agg(1, 3, 3, 3))}},
		{0, 0, list[:5]},
		{2, 2, list[6:]},
	} {
		if got := impl.Widen(c, list, step.from, step.to); !samePanes(got, step.want) {
			t.Errorf("Widen from %d to %d = %v; want %v", step.from, step.to, got, step.want)
		}
	}
}

func TestWhatIsWidenedIsWhatComesOfTheEventsAtOnce(t *testing.T) {
	for seed, c := range cubeConfigs() {
		list := mixedEvents(c, 50, seed+2)
		panes := panesOf(t, c, list)
		for from, a := range c.Wins {
			for to, b := range c.Wins {
				if a.Size != a.Slide || b.Slide%a.Slide != 0 {
					refusesWiden(t, c, panes, from, to)
					continue
				}
				want := onlyWin(panesByHand(t, c, list), to)
				if got := impl.Widen(c, panes, from, to); !samePanes(got, want) {
					t.Errorf("Widen(%v) from %d to %d = %.500v; want %.500v", c, from, to, fmt.Sprint(got), fmt.Sprint(want))
				}
				if got := impl.Widen(c, onlyWin(panes, from), from, to); !samePanes(got, want) {
					t.Errorf("Widen(%v) from %d to %d hangs on the panes of other windows", c, from, to)
				}
			}
		}
	}
}

func TestEachTwoOfFinerWindowsAreWidened(t *testing.T) {
	for seed, pair := range finerPairs() {
		c := config(1, []impl.Win{pair[0], pair[1]}, []int{1, 0}, 0, 0)
		if pair[0] == pair[1] {
			c.Wins = c.Wins[:1]
		}
		list := mixedEvents(c, 25, seed)
		to := len(c.Wins) - 1
		if got, want := impl.Widen(c, panesOf(t, c, list), 0, to), onlyWin(panesByHand(t, c, list), to); !samePanes(got, want) {
			t.Errorf("Widen(%v) = %.500v; want %.500v", c, fmt.Sprint(got), fmt.Sprint(want))
		}
	}
}

func TestRolledUpAndWidenedInEitherOrder(t *testing.T) {
	c := cubeConfig()
	for seed := range 5 {
		panes := panesOf(t, c, mixedEvents(c, 200, seed))
		want := onlyMask(onlyWin(panes, 2), 3)
		first := impl.RollUp(c, impl.Widen(c, panes, 1, 2), 1, 3)
		second := impl.Widen(c, impl.RollUp(c, impl.RollUp(c, panes, 1, 0), 0, 3), 1, 2)
		if !samePanes(first, want) || !samePanes(second, want) || len(want) == 0 {
			t.Errorf("%v or %v; want %v", first, second, want)
		}
	}
}

// A window may begin ahead of where a pane may, as the windows begin at all multiples of the Slide.
func TestWidenAtTheLimitsOfAStart(t *testing.T) {
	c := config(0, []impl.Win{win(10, 10), win(40, 20), win(15000, 15000)}, []int{0}, 0, 0)
	a, b := agg(1, 7, 7, 7), agg(1, 9, 9, 9)
	list := []impl.Pane{pane(0, 0, -farStart, a), pane(0, 0, farStart, b)}
	want := []impl.Pane{pane(1, 0, -farStart-20, a), pane(1, 0, -farStart, a), pane(1, 0, farStart-20, b), pane(1, 0, farStart, b)}
	if got := impl.Widen(c, list, 0, 1); !samePanes(got, want) {
		t.Errorf("%v; want %v", got, want)
	}
	if got := impl.Widen(c, list, 0, 2); !samePanes(got, []impl.Pane{pane(2, 0, -210000, a), pane(2, 0, 195000, b)}) {
		t.Errorf("%v", got)
	}
	if got := impl.Widen(c, list, 0, 0); !samePanes(got, list) {
		t.Errorf("%v", got)
	}
	for _, p := range []impl.Pane{pane(0, 0, -farStart-10, a), pane(0, 0, farStart+10, a)} {
		refusesWiden(t, c, []impl.Pane{p}, 0, 1)
	}
}

func TestWidenRefuses(t *testing.T) {
	c := cubeConfig()
	sound := soundPanes()
	for _, n := range append(farNumbers(), -1, len(c.Wins), len(c.Wins)+1) {
		refusesWiden(t, c, sound, n, 2)
		refusesWiden(t, c, sound, 1, n)
		refusesWiden(t, c, sound, n, n)
	}
	for _, step := range [][2]int{{0, 0}, {0, 1}, {0, 2}, {2, 0}, {2, 1}, {2, 2}} {
		refusesWiden(t, c, sound, step[0], step[1])
	}
	uneven := config(0, []impl.Win{win(10, 10), win(15, 15), win(30, 30)}, []int{0}, 0, 0)
	list := []impl.Pane{pane(0, 0, 0, agg(1, 7, 7, 7)), pane(1, 0, 0, agg(1, 7, 7, 7)), pane(2, 0, 0, agg(1, 7, 7, 7))}
	for _, step := range [][2]int{{0, 1}, {1, 0}, {2, 0}, {2, 1}} {
		refusesWiden(t, uneven, list, step[0], step[1])
	}
	for _, list := range unsoundLists() {
		refusesWiden(t, c, list, 1, 2)
		refusesWiden(t, c, list, 1, 1)
	}
	for _, bad := range refusedConfigs() {
		for dims := range 5 {
			refusesWiden(t, bad, []impl.Pane{pane(0, 0, 0, agg(1, 7, 7, 7), filled(dims, 1)...)}, 0, 0)
		}
	}
	refusesWiden(t, impl.Config{}, nil, 0, 0)
	refusesWiden(t, config(0, nil, []int{0}, 0, 0), nil, 0, 0)
	refusesWiden(t, c, nil, 1, 2)
}

func TestWidenWithJoinsThatAreFalse(t *testing.T) {
	c := config(1, []impl.Win{win(5, 5), win(20, 10)}, []int{1}, 0, 0)
	half := agg(most/2, 0, 0, 0)
	list := []impl.Pane{pane(0, 0, 0, half, 1), pane(0, 0, 0, half, 2), pane(0, 0, 10, half, 1)}
	want := []impl.Pane{
		pane(1, 0, -10, half, 1), pane(1, 0, -10, half, 2), pane(1, 0, 0, agg(most, 0, 0, 0), 1), pane(1, 0, 0, half, 2), pane(1, 0, 10, half, 1),
	}
	if got := impl.Widen(c, list, 0, 1); !samePanes(got, want) {
		t.Errorf("Widen of MaxCount values = %v; want %v", got, want)
	}
	for _, i := range []int{0, 2} {
		over := copyPanes(list)
		over[i].A = agg(most/2+1, 0, 0, 0)
		refusesWiden(t, c, over, 0, 1)
		refusesWiden(t, c, append(over, pane(0, 0, 15, agg(1, 7, 7, 7), 1)), 0, 1)
	}
	apart := copyPanes(list)
	apart[1].A = agg(most, 0, 0, 0)
	if got := impl.Widen(c, apart, 0, 1); len(got) != len(want) {
		t.Errorf("Widen joins what has different keys: %v", got)
	}
}

func TestPaneAt(t *testing.T) {
	list := risingPanes()
	for i, p := range list {
		if got := impl.PaneAt(list, p.Win, p.Mask, p.Start, p.Key); got != i {
			t.Errorf("PaneAt of the pane at %d = %d", i, got)
		}
		if got := impl.PaneAt(slices.Delete(slices.Clone(list), i, i+1), p.Win, p.Mask, p.Start, p.Key); got != -1 {
			t.Errorf("PaneAt of a pane that is not there = %d", got)
		}
		// Neither the order nor what is the same again matters.
		turned := slices.Concat(list, list)
		slices.Reverse(turned)
		if got := impl.PaneAt(turned, p.Win, p.Mask, p.Start, p.Key); got != len(list)-1-i {
			t.Errorf("PaneAt of the pane at %d, twice there = %d", len(list)-1-i, got)
		}
	}
	if impl.PaneAt(nil, 0, 0, 0, nil) != -1 || impl.PaneAt([]impl.Pane{}, 0, 0, 0, []int{1}) != -1 {
		t.Error("PaneAt finds a pane where there is none")
	}
	if got := impl.PaneAt([]impl.Pane{pane(1, 0, 0, impl.Agg{}), {Key: []int{}}, {}}, 0, 0, 0, nil); got != 1 {
		t.Errorf("PaneAt of nothing = %d", got)
	}
}

func TestPaneAtAsksForAllFour(t *testing.T) {
	list := []impl.Pane{pane(1, 2, 30, agg(1, 7, 7, 7), 4, 5)}
	room := []int{4, 5, 6}
	if got := impl.PaneAt(list, 1, 2, 30, room[:2]); got != 0 {
		t.Errorf("PaneAt = %d", got)
	}
	for _, p := range []impl.Pane{
		pane(0, 2, 30, impl.Agg{}, 4, 5), pane(2, 2, 30, impl.Agg{}, 4, 5), pane(1, 1, 30, impl.Agg{}, 4, 5), pane(1, 3, 30, impl.Agg{}, 4, 5),
		pane(1, 2, 29, impl.Agg{}, 4, 5), pane(1, 2, 31, impl.Agg{}, 4, 5), pane(1, 2, -30, impl.Agg{}, 4, 5),
		pane(1, 2, 30, impl.Agg{}), pane(1, 2, 30, impl.Agg{}, 4), pane(1, 2, 30, impl.Agg{}, 5), pane(1, 2, 30, impl.Agg{}, 5, 4),
		pane(1, 2, 30, impl.Agg{}, 4, 5, 6), pane(1, 2, 30, impl.Agg{}, 4, 6), pane(1, 2, 30, impl.Agg{}, 3, 5),
	} {
		if got := impl.PaneAt(list, p.Win, p.Mask, p.Start, p.Key); got != -1 {
			t.Errorf("PaneAt of %v = %d", p, got)
		}
	}
}

// keysApart writes into all the room of each key and looks at the other ones.
func keysApart(t *testing.T, list []impl.Pane) {
	t.Helper()
	for i := range list {
		before := copyPanes(list)
		room := list[i].Key[:cap(list[i].Key)]
		for j := range room {
			room[j] = 77
		}
		for j := range list {
			if j != i && !samePane(list[j], before[j]) {
				t.Fatalf("the keys of the panes %d and %d share memory", i, j)
			}
		}
	}
}

func TestPanesAreNewMemory(t *testing.T) {
	c := cubeConfig()
	room := mixedEvents(c, 12, 4)
	room[10], room[11] = event(latest+1, 0), event(0, bound+1, 1)
	dims := make([][]int, len(room))
	for i := range room {
		dims[i] = slices.Clone(room[i].Dims)
	}
	list := room[:10]
	first := panesOf(t, c, list)
	want := copyPanes(first)
	keysApart(t, first)
	_ = append(first, impl.Pane{Win: 78})
	for i := range room {
		if !slices.Equal(room[i].Dims, dims[i]) {
			t.Fatalf("a key shares memory with the Dims of event %d", i)
		}
	}
	if got := panesOf(t, c, list); !samePanes(got, want) || room[10].At != latest+1 || room[11].Val != bound+1 {
		t.Error("PanesOf tells what was written into an earlier answer, or writes into its argument")
	}
}

func TestCoarserPanesAreNewMemory(t *testing.T) {
	c := cubeConfig()
	room := append(panesOf(t, c, mixedEvents(c, 10, 6)), impl.Pane{Win: -5, Key: []int{-5}}, impl.Pane{Mask: -6})
	for i := range room {
		room[i].Key = append(room[i].Key, 100, -100)[:len(room[i].Key)]
	}
	before := copyPanes(room)
	list := room[:len(room)-2]
	for _, call := range []func() []impl.Pane{
		func() []impl.Pane { return impl.RollUp(c, list, 1, 0) },
		func() []impl.Pane { return impl.RollUp(c, list, 1, 1) },
		func() []impl.Pane { return impl.RollUp(c, list, 1, 3) },
		func() []impl.Pane { return impl.Widen(c, list, 1, 2) },
		func() []impl.Pane { return impl.Widen(c, list, 1, 1) },
	} {
		got := call()
		want := copyPanes(got)
		if len(got) == 0 {
			t.Error("what lies behind a list is read")
		}
		keysApart(t, got)
		_ = append(got, impl.Pane{Win: 78})
		if !samePanes(room, before) {
			t.Fatal("an answer shares memory with the panes that it comes of")
		}
		if !samePanes(call(), want) {
			t.Error("what was written into an earlier answer is told")
		}
	}
	for _, p := range room[:len(list)] {
		behind := p.Key[len(p.Key) : len(p.Key)+2]
		if !slices.Equal(behind, []int{100, -100}) {
			t.Fatalf("the room behind a key holds %v", behind)
		}
	}
}
