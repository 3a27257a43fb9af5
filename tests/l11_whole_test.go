package tests

import (
	"fmt"
	"math"
	"reflect"
	"slices"
	"testing"

	"loop.example/g00552/impl"
)

func sameEvents(a, b []impl.Event) bool {
	return slices.EqualFunc(a, b, sameEvent)
}

func eventsByHand(c impl.Config, logs []impl.Part) []impl.Event {
	list := []impl.Event{}
	for _, at := range orderByHand(c, logs) {
		if e, ok := readByForm(c.Dims, logs[at.Part].Recs[at.Rec]); ok {
			list = append(list, e)
		}
	}
	return list
}

// nextByHand tells the part to be read next, -1 where all is read. It goes down the numbers, so that the least of
// those that are alike is the last to be found.
func nextByHand(s impl.State, logs []impl.Part) int {
	next, least := -1, math.MaxInt
	for i := len(logs) - 1; i >= 0; i-- {
		if s.Offs[i] < len(logs[i].Recs) && s.Marks[i] <= least {
			next, least = i, s.Marks[i]
		}
	}
	return next
}

// onwardByHand tells what the records that are left make of a state, told without the program; limits are not held.
func onwardByHand(c impl.Config, s impl.State, logs []impl.Part) impl.State {
	for next := nextByHand(s, logs); next >= 0; next = nextByHand(s, logs) {
		s = takeByHand(c, s, next, logs[next].Recs[s.Offs[next]])
	}
	return s
}

// onwardByTake tells it with Take alone.
func onwardByTake(c impl.Config, s impl.State, logs []impl.Part) (impl.State, bool) {
	ok := true
	for next := nextByHand(s, logs); next >= 0; next = nextByHand(s, logs) {
		if s, ok = impl.Take(c, s, next, logs[next].Recs[s.Offs[next]]); !ok {
			return impl.State{}, false
		}
	}
	return s, true
}

func wholeByHand(c impl.Config, logs []impl.Part) ([]impl.Row, int) {
	s := onwardByHand(c, impl.Fresh(c, len(logs)), logs)
	return tellByHand(s.Rows, s.Panes), s.Drops
}

func panesIn(rows []impl.Row) []impl.Pane {
	list := []impl.Pane{}
	for _, r := range rows {
		list = append(list, paneOf(r))
	}
	return list
}

// delayedConfigs tells cubeConfigs, each with each of these numbers as Delay and as Late.
func delayedConfigs(nums ...int) []impl.Config {
	list := []impl.Config{}
	for _, c := range cubeConfigs() {
		for _, delay := range nums {
			for _, late := range nums {
				list = append(list, config(c.Dims, c.Wins, c.Masks, delay, late))
			}
		}
	}
	return list
}

// risingLogs tells parts of which each has moments that do not fall, so that nothing in them is late.
func risingLogs(c impl.Config, seed int, counts ...int) []impl.Part {
	list := []impl.Part{}
	for i, n := range counts {
		p := impl.Part{}
		events := mixedEvents(c, n, seed+17*i)
		slices.SortFunc(events, func(a, b impl.Event) int { return a.At - b.At })
		for j, e := range events {
			rec := wordsOf(e)
			if (i+j)%7 == 6 {
				rec = "?"
			}
			p.Recs = append(p.Recs, rec)
		}
		list = append(list, p)
	}
	return list
}

// tideConfig has one dimension, and masks that keep it and nothing.
func tideConfig(delay, late int) impl.Config {
	return config(1, []impl.Win{win(10, 10)}, []int{1, 0}, delay, late)
}

func onward(t *testing.T, c impl.Config, s impl.State, logs []impl.Part) impl.State {
	t.Helper()
	got, ok := impl.Onward(c, s, logs)
	if !ok {
		t.Fatalf("Onward(%v, %.300v, %.300q) = false", c, fmt.Sprint(s), logs)
	}
	return got
}

func refusesOnward(t *testing.T, c impl.Config, s impl.State, logs []impl.Part) {
	t.Helper()
	if got, ok := impl.Onward(c, s, logs); ok || !reflect.ValueOf(got).IsZero() {
		t.Errorf("Onward(%v, %.300v) of %d parts = %.300v, %v; want nothing, false", c, fmt.Sprint(s), len(logs), fmt.Sprint(got), ok)
	}
}

// refusesWhole asks that nothing comes of logs.
func refusesWhole(t *testing.T, c impl.Config, logs []impl.Part) {
	t.Helper()
	if got := impl.EventsOf(c, logs); len(got) != 0 {
		t.Errorf("EventsOf(%v) of %d parts = %v; want none", c, len(logs), got)
	}
	if rows, drops := impl.Whole(c, logs); len(rows) != 0 || drops != 0 {
		t.Errorf("Whole(%v) of %d parts = %v, %d; want nothing, 0", c, len(logs), rows, drops)
	}
	if got := impl.Spread(c, logs); !reflect.ValueOf(got).IsZero() {
		t.Errorf("Spread(%v) of %d parts = %v; want nothing", c, len(logs), got)
	}
}

func TestEventsOf(t *testing.T) {
	for _, x := range []struct {
		dims, delay int
		logs        []impl.Part
		want        []impl.Event
	}{
		{0, 0, []impl.Part{part()}, nil},
		{0, 0, []impl.Part{part(), part(), part()}, nil},
		{0, 0, []impl.Part{part("?", ""), part("e 1", "e 1 2 3")}, nil},
		{0, 5, []impl.Part{part("e 3 1")}, []impl.Event{event(3, 1)}},
		{0, 5, []impl.Part{part("e 9 1", "?", "e 3 2", "e 3 2")}, []impl.Event{event(9, 1), event(3, 2), event(3, 2)}},
		{1, 5, []impl.Part{part("e 20 1 1", "?", "e 5 2 2"), part("e 10 3 3", "e 40 4 4", "")}, []impl.Event{event(20, 1, 1), event(10, 3, 3), event(40, 4, 4), event(5, 2, 2)}},
		{2, 0, []impl.Part{part(), part("e 1 0 99 5"), part("e 1 0 5", "e -1 2 3 -4")}, []impl.Event{event(1, 5, 0, 99), event(-1, -4, 2, 3)}},
		// With marks that are alike the first part is read first, again and again.
		{0, 0, []impl.Part{part("e 5 1", "e 5 2", "e 6 3", "e 7 4"), part("e 5 5", "e 6 6", "e 6 7"), part("e 5 8", "e 5 9")},
			[]impl.Event{event(5, 1), event(5, 5), event(5, 8), event(5, 2), event(6, 3), event(6, 6), event(5, 9), event(7, 4), event(6, 7)}},
	} {
		c := config(x.dims, nil, nil, x.delay, 0)
		if got := impl.EventsOf(c, x.logs); !sameEvents(got, x.want) {
			t.Errorf("EventsOf(%v, %q) = %v; want %v", c, x.logs, got, x.want)
		}
		if got := eventsByHand(c, x.logs); !sameEvents(got, x.want) {
			t.Errorf("the test's own of %q = %v; want %v", x.logs, got, x.want)
		}
	}
}

func TestEventsOfManyLogs(t *testing.T) {
	events, strays := 0, 0
	for _, c := range append(operatorConfigs(), acceptedConfigs()...) {
		for _, logs := range mergeLogs(c) {
			want := eventsByHand(c, logs)
			if got := impl.EventsOf(c, logs); !sameEvents(got, want) {
				t.Fatalf("EventsOf(%v, %q) = %v; want %v", c, logs, got, want)
			}
			events, strays = events+len(want), strays+countRecs(logs)-len(want)
		}
	}
	if events < 10000 || strays < 5000 {
		t.Errorf("the logs are too dull: %d events, %d records that are none", events, strays)
	}
}

func TestWhole(t *testing.T) {
	type ls = []impl.Part
	type rs = []impl.Row
	noWins, noMasks := plainConfig(0, 0), plainConfig(0, 0)
	noWins.Wins, noMasks.Masks = nil, nil
	for _, x := range []struct {
		name  string
		c     impl.Config
		logs  ls
		want  rs
		drops int
	}{
		{"no records", plainConfig(0, 0), ls{part(), part()}, nil, 0},
		{"no events", plainConfig(0, 0), ls{part("?", ""), part("e 1")}, nil, 0},
		{"an event", plainConfig(0, 0), ls{part("e 3 7")}, rs{told(0, one(7), 1)}, 0},
		{"a correction, a drop, what is told at the end", plainConfig(0, 10), ls{part("e 3 1", "e 12 2", "e 4 5", "?", "e 21 1", "e 5 9")},
			rs{told(0, agg(2, 6, 1, 5), 2), told(10, one(2), 1), told(20, one(1), 1)}, 1},
		{"two keys", tideConfig(5, 10), ls{part("e 3 1 4", "e 30 2 6", "?", "e 4 1 5")},
			rs{row(0, 0, 0, one(4), 1, 1), row(0, 0, 30, one(6), 1, 2), row(0, 1, 0, one(4), 1), row(0, 1, 30, one(6), 1)}, 1},
		{"a part without a mark holds back all", plainConfig(0, 0), ls{part("e 50 1", "e 0 2", "e 51 3"), part()}, rs{told(0, one(2), 1), told(50, agg(2, 4, 1, 3), 1)}, 0},
		{"the same without that part", plainConfig(0, 0), ls{part("e 50 1", "e 0 2", "e 51 3")}, rs{told(50, agg(2, 4, 1, 3), 1)}, 1},
		{"dropped in one window, told in the other", config(0, []impl.Win{win(20, 10)}, []int{0}, 0, 0), ls{part("e 5 1", "e 10 2", "e 9 3")},
			rs{told(-10, one(1), 1), told(0, agg(3, 6, 1, 3), 1), told(10, one(2), 1)}, 1},
		{"two parts", plainConfig(0, 0), ls{part("e 5 1", "e 25 2"), part("e 15 3", "e 7 4", "e 30 5")}, rs{told(0, one(1), 1), told(10, one(3), 1), told(20, one(2), 1), told(30, one(5), 1)}, 1},
		{"no Wins", noWins, ls{part("e 5 1", "e 10 1", "e 9 1")}, nil, 0},
		{"no Masks", noMasks, ls{part("e 5 1", "e 10 1", "e 9 1")}, nil, 1},
		{"both ends of time", plainConfig(0, 0), ls{part("e -100000 1", "e 100000 2", "e -100000 3")}, rs{told(-latest, one(1), 1), told(latest, one(2), 1)}, 1},
	} {
		if got, drops := impl.Whole(x.c, x.logs); !sameRows(got, x.want) || drops != x.drops {
			t.Errorf("%s: Whole = %v, %d; want %v, %d", x.name, got, drops, x.want, x.drops)
		}
		if got, drops := wholeByHand(x.c, x.logs); !sameRows(got, x.want) || drops != x.drops {
			t.Errorf("%s: the test's own = %v, %d; want %v, %d", x.name, got, drops, x.want, x.drops)
		}
	}
}

func TestWholeOfManyLogs(t *testing.T) {
	rows, drops, again := 0, 0, 0
	for i, c := range append(operatorConfigs(), acceptedConfigs()...) {
		for seed, counts := range [][]int{{24}, {0}, {0, 24}, {7, 24, 11}, {24, 24, 24}} {
			logs := mixedLogs(c, i+7*seed, counts...)
			got, lost := impl.Whole(c, logs)
			want, none := wholeByHand(c, logs)
			if !sameRows(got, want) || lost != none {
				t.Fatalf("Whole(%v, %q) = %.500v, %d; want %.500v, %d", c, logs, fmt.Sprint(got), lost, fmt.Sprint(want), none)
			}
			rows, drops = rows+len(got), drops+lost
			for _, r := range got {
				again += r.Times - 1
			}
		}
	}
	if rows < 5000 || drops < 300 || again < 300 {
		t.Errorf("the logs are too dull: %d rows, %d drops, %d told again", rows, drops, again)
	}
}

// Where nothing is late, all windows are told with all their values, whatever the Delay and the Late.
func TestAllThatCameIsToldWhereNothingIsDropped(t *testing.T) {
	rows := 0
	for i, c := range delayedConfigs(0, 7, longest) {
		for seed, counts := range [][]int{{24}, {9, 24}, {20, 0, 24}} {
			logs := risingLogs(c, i+5*seed, counts...)
			want := panesByHand(t, c, eventsByHand(c, logs))
			got, drops := impl.Whole(c, logs)
			if drops != 0 || !samePanes(panesIn(got), want) {
				t.Fatalf("Whole(%v, %q) = %.500v, %d; want %.500v, 0", c, logs, fmt.Sprint(got), drops, fmt.Sprint(want))
			}
			rows += len(got)
		}
	}
	if rows < 50000 {
		t.Errorf("the logs are too dull: %d rows", rows)
	}
}

// windowsOf tells in how many windows one event is.
func windowsOf(c impl.Config) int {
	n := 0
	for _, w := range c.Wins {
		n += w.Size / w.Slide
	}
	return n
}

// checksSums asks that each value is told or counted as dropped, and told in its own row.
func checksSums(t *testing.T, c impl.Config, logs []impl.Part, rows []impl.Row, drops int) {
	t.Helper()
	events := impl.EventsOf(c, logs)
	for mask := range c.Masks {
		n := drops
		for _, r := range rows {
			if r.Mask == mask {
				n += r.A.N
			}
		}
		if want := len(events) * windowsOf(c); n != want {
			t.Fatalf("Whole(%v, %q) tells and drops %d values with mask %d; want %d", c, logs, n, mask, want)
		}
	}
	all := panesOf(t, c, events)
	for _, r := range rows {
		i := impl.PaneAt(all, r.Win, r.Mask, r.Start, r.Key)
		if i < 0 || r.A.N > all[i].A.N || r.A.Min < all[i].A.Min || r.A.Max > all[i].A.Max || drops == 0 && r.A != all[i].A {
			t.Fatalf("Whole(%v, %q) tells %v, which is none of %v", c, logs, r, all)
		}
	}
	if drops == 0 && len(rows) != len(all) {
		t.Fatalf("Whole(%v, %q) tells %d rows; want %d", c, logs, len(rows), len(all))
	}
}

func TestEachValueIsToldOrCountedAsDropped(t *testing.T) {
	some, none := 0, 0
	for i, c := range delayedConfigs(0, 7, longest) {
		for seed, counts := range [][]int{{24}, {24, 9}, {24, 24, 24}} {
			logs := mixedLogs(c, i+7*seed, counts...)
			rows, drops := impl.Whole(c, logs)
			checksSums(t, c, logs, rows, drops)
			if drops > 0 {
				some++
			} else {
				none++
			}
		}
	}
	if some < 100 || none < 100 {
		t.Errorf("the logs are too dull: %d with drops, %d without", some, none)
	}
}

// The rows of one window with a mask that keeps more, joined, are those with one that keeps less, also where something is dropped.
func TestTheRowsOfAWindowJoined(t *testing.T) {
	joined, dropped := 0, 0
	for i := range 40 {
		c := config(2, []impl.Win{win(10, 5), win(30, 30)}, []int{3, 0, 1}, 3*(i%4), 5*(i%3))
		logs := mixedLogs(c, i, 24, 24)
		rows, drops := impl.Whole(c, logs)
		for _, r := range rows {
			if r.Mask != 1 {
				continue
			}
			parts := impl.RowsIn(rows, r.Win, 0, r.Start)
			if all, ok := impl.Total(parts); !ok || all != r.A || len(parts) == 0 {
				t.Fatalf("Total of %v = %v, %v; want %v", parts, all, ok, r.A)
			}
			if all, ok := impl.Total(impl.RowsIn(rows, r.Win, 2, r.Start)); !ok || all != r.A {
				t.Fatalf("Total of the rows with a mask between = %v, %v; want %v", all, ok, r.A)
			}
			joined += len(parts) - 1
		}
		for _, to := range []int{1, 2} {
			if got := impl.RollUp(c, panesIn(rows), 0, to); !samePanes(got, onlyMask(panesIn(rows), to)) {
				t.Fatalf("RollUp of what Whole tells = %v; want %v", got, onlyMask(panesIn(rows), to))
			}
		}
		dropped += drops
	}
	if joined < 500 || dropped < 100 {
		t.Errorf("the logs are too dull: %d rows joined, %d drops", joined, dropped)
	}
}

// What whole logs tell is what comes of their events at once, in whatever order, and what is rolled up and widened of it.
func TestCubesOfWholeLogs(t *testing.T) {
	for seed := range 30 {
		c := cubeConfig()
		logs := risingLogs(c, seed, 24, 24, 24)
		rows, drops := impl.Whole(c, logs)
		panes, events := panesIn(rows), impl.EventsOf(c, logs)
		for again := range 3 {
			for i, n := range mixed(len(events), seed+again) {
				j := (n + bound) % (i + 1)
				events[i], events[j] = events[j], events[i]
			}
			if got := panesOf(t, c, events); drops != 0 || !samePanes(got, panes) {
				t.Fatalf("PanesOf the events of %q = %v; want %v", logs, got, panes)
			}
		}
		for _, to := range []int{0, 2, 3} {
			if got := impl.RollUp(c, panes, 1, to); !samePanes(got, onlyMask(panes, to)) {
				t.Fatalf("RollUp to %d = %v; want %v", to, got, onlyMask(panes, to))
			}
		}
		for _, to := range []int{0, 2} {
			if got := impl.Widen(c, panes, 1, to); !samePanes(got, onlyWin(panes, to)) {
				t.Fatalf("Widen to %d = %v; want %v", to, got, onlyWin(panes, to))
			}
		}
	}
}

func TestOnwardFromEachNumberOfRecords(t *testing.T) {
	rows, drops := 0, 0
	for i, c := range operatorConfigs() {
		for seed, counts := range [][]int{{24}, {0, 24}, {5, 24, 11}} {
			logs := mixedLogs(c, i+3*seed, counts...)
			all := countRecs(logs)
			want := onwardByHand(c, impl.Fresh(c, len(logs)), logs)
			for n := 0; n <= all; n++ {
				s, ok := impl.Fold(c, logs, n)
				if got := onward(t, c, s, logs); !ok || !sameState(got, want) {
					t.Fatalf("Onward(%v, %q) behind %d = %.500v; want %.500v", c, logs, n, fmt.Sprint(got), fmt.Sprint(want))
				}
			}
			rows, drops = rows+len(want.Rows), drops+want.Drops
		}
	}
	if rows < 1000 || drops < 100 {
		t.Errorf("the logs are too dull: %d rows, %d drops", rows, drops)
	}
}

// All logs that may be: empty parts, full ones, records of any bytes.
func TestOnwardOfManyLogs(t *testing.T) {
	for _, c := range []impl.Config{{}, plainConfig(0, 10), tideConfig(5, 0), config(2, []impl.Win{win(10, 5)}, []int{3, 1}, 0, 3)} {
		for _, logs := range mergeLogs(c) {
			want, _ := impl.Fold(c, logs, mostRead)
			none := impl.Fresh(c, len(logs))
			if got := onward(t, c, none, logs); !sameState(got, want) || !sameState(got, onwardByHand(c, none, logs)) {
				t.Fatalf("Onward(%v, %q) with none read = %v; want %v", c, logs, got, want)
			}
			if got := onward(t, c, want, logs); !sameState(got, want) {
				t.Fatalf("Onward(%v, %q) with all read = %v; want %v", c, logs, got, want)
			}
		}
	}
}

// No Fold of these logs leads to most of these states: what is read and the Marks are as they say.
func onwardCases() []struct {
	name string
	c    impl.Config
	s    impl.State
	logs []impl.Part
	want impl.State
} {
	type ls = []impl.Part
	type ps = []impl.Pane
	type rs = []impl.Row
	const no = noMark
	due, other := ps{at(0, one(1))}, rs{told(0, one(1), 1), told(10, one(3), 1)}
	return []struct {
		name string
		c    impl.Config
		s    impl.State
		logs []impl.Part
		want impl.State
	}{
		{"all read, though much is due", plainConfig(0, 0), state(2, 90, due, rs{told(40, one(4), 7)}, 5, 6), ls{part("e 1 1", "e 2 2")}, state(2, 90, due, rs{told(40, one(4), 7)}, 5, 6)},
		{"no records at all", plainConfig(0, 0), states([]int{0, 0}, []int{5, no}, due, nil, 1, 2), ls{part(), part()}, states([]int{0, 0}, []int{5, no}, due, nil, 1, 2)},
		{"none read", plainConfig(0, 0), state(0, no, nil, nil, 0, 0), ls{part("e 1 1", "e 12 2")}, state(2, 12, ps{at(10, one(2))}, rs{told(0, one(1), 1)}, 0, 0)},
		{"none read, with a mark, panes and tallies", plainConfig(0, 0), state(0, 5, due, nil, 3, 4), ls{part("?", "e 2 2", "e 10 3")},
			state(3, 10, ps{at(10, one(3))}, rs{told(0, agg(2, 3, 1, 2), 1)}, 3, 5)},
		{"the least mark of a part that is read", plainConfig(0, 0), states([]int{1, 0}, []int{-50, 90}, nil, nil, 0, 0), ls{part("?"), part("e 1 1")},
			states([]int{1, 1}, []int{-50, 90}, due, nil, 0, 0)},
		// Part 1 has no mark, and is read first: ahead of it nothing is late.
		{"a part without a mark", plainConfig(0, 0), states([]int{1, 1}, []int{30, no}, nil, nil, 0, 0), ls{part("?", "e 2 1"), part("?", "e 50 2")},
			states([]int{2, 2}, []int{30, 50}, ps{at(50, one(2))}, nil, 1, 0)},
		{"several parts without a mark", plainConfig(0, 0), states([]int{0, 1, 0}, []int{no, 20, no}, nil, nil, 0, 0), ls{part("?", "e 40 1"), part("?", "e 3 2"), part("", "e 30 3")},
			states([]int{2, 2, 2}, []int{40, 20, 30}, ps{at(30, one(3)), at(40, one(1))}, nil, 1, 2)},
		// The Marks say 90 and 10, whatever the records that are read: part 1 is the next one, and e 20 comes too late.
		{"Marks that the records do not have", plainConfig(0, 0), states([]int{1, 1}, []int{90, 10}, nil, nil, 0, 0), ls{part("e 10 1", "e 20 1"), part("e 90 1", "e 50 2")},
			states([]int{2, 2}, []int{90, 50}, ps{at(50, one(2))}, nil, 1, 0)},
		{"the same with the Marks turned", plainConfig(0, 0), states([]int{1, 1}, []int{10, 90}, nil, nil, 0, 0), ls{part("e 10 1", "e 20 1"), part("e 90 1", "e 50 2")},
			states([]int{2, 2}, []int{20, 90}, ps{at(20, one(1)), at(50, one(2))}, nil, 0, 0)},
		// The pane from 0 on is due: the first event of all tells it, also where it changes another one.
		{"Marks alike: the first part's event changes another pane", plainConfig(0, 20), states([]int{0, 0}, []int{20, 20}, due, nil, 0, 0), ls{part("e 15 3"), part("e 5 2")},
			states([]int{1, 1}, []int{20, 20}, ps{at(0, agg(2, 3, 1, 2)), at(10, one(3))}, rs{told(0, agg(2, 3, 1, 2), 2), told(10, one(3), 1)}, 0, 0)},
		{"Marks alike: the first part's event changes the pane", plainConfig(0, 20), states([]int{0, 0}, []int{20, 20}, due, nil, 0, 0), ls{part("e 5 2"), part("e 15 3")},
			states([]int{1, 1}, []int{20, 20}, ps{at(0, agg(2, 3, 1, 2)), at(10, one(3))}, rs{told(0, agg(2, 3, 1, 2), 1), told(10, one(3), 1)}, 0, 0)},
		{"Marks alike of the last two parts", plainConfig(0, 20), states([]int{0, 0, 0}, []int{21, 20, 20}, due, nil, 0, 0), ls{part("e 5 2"), part("e 15 3"), part("e 5 2")},
			states([]int{1, 1, 1}, []int{21, 20, 20}, ps{at(0, agg(3, 5, 1, 2)), at(10, one(3))}, rs{told(0, agg(3, 5, 1, 2), 3), told(10, one(3), 1)}, 0, 0)},
		{"Marks alike of the first and the last part", plainConfig(0, 20), states([]int{0, 0, 0}, []int{20, 21, 20}, due, nil, 0, 0), ls{part("e 5 2"), part("e 15 3"), part("e 15 3")},
			states([]int{1, 1, 1}, []int{20, 21, 20}, ps{at(0, agg(2, 3, 1, 2)), at(10, agg(2, 6, 3, 3))}, rs{told(0, agg(2, 3, 1, 2), 1), told(10, agg(2, 6, 3, 3), 2)}, 0, 0)},
		{"Marks alike of a part that is read, too", plainConfig(0, 20), states([]int{1, 0, 0}, []int{20, 20, 20}, due, nil, 0, 0), ls{part("e 5 2"), part("e 15 3"), part("?")},
			states([]int{1, 1, 1}, []int{20, 20, 20}, ps{at(0, one(1)), at(10, one(3))}, other, 0, 1)},
	}
}

func TestOnward(t *testing.T) {
	for _, x := range onwardCases() {
		if got := onward(t, x.c, x.s, x.logs); !sameState(got, x.want) || !impl.StateOk(x.c, got) {
			t.Errorf("%s: Onward = %v; want %v", x.name, got, x.want)
		}
		if got := onwardByHand(x.c, x.s, x.logs); !sameState(got, x.want) {
			t.Errorf("%s: the test's own = %v; want %v", x.name, got, x.want)
		}
	}
}

// Any state that is StateOk will do: its Offs say what is left, its Marks what comes next.
func TestOnwardOfStatesOutOfCourse(t *testing.T) {
	left, told := 0, 0
	marks := []int{noMark, leastMark, -20, 0, 0, 7, 7, 30, 100, latest}
	for i, c := range operatorConfigs() {
		for seed := range 40 {
			logs := mixedLogs(c, i+seed, 5+seed%20, seed%9, 24)[:1+seed%3]
			s, _ := impl.Fold(c, mixedLogs(c, i+seed+1, 24, 24, 24)[:len(logs)], seed)
			s.Drops, s.Bad = seed, 2*seed
			for p, n := range mixed(len(logs), 3*seed+i) {
				n += bound
				s.Offs[p], s.Marks[p] = n%(len(logs[p].Recs)+1), marks[n/25%len(marks)]
			}
			want := onwardByHand(c, s, logs)
			if got := onward(t, c, s, logs); !sameState(got, want) {
				t.Fatalf("Onward(%v, %.500v, %q) = %.500v; want %.500v", c, fmt.Sprint(s), logs, fmt.Sprint(got), fmt.Sprint(want))
			}
			left, told = left+countRecs(logs), told+len(want.Rows)-len(s.Rows)
		}
	}
	if left < 5000 || told < 1000 {
		t.Errorf("the states are too dull: %d records left, %d rows told", left, told)
	}
}

func TestOnwardOfAcceptedStates(t *testing.T) {
	c := cubeConfig()
	for _, s := range acceptedStates() {
		for seed := range 4 {
			logs := mixedLogs(c, seed, 24, 24, 24)[:len(s.Offs)]
			want, ok := onwardByTake(c, s, logs)
			if !ok {
				refusesOnward(t, c, s, logs)
			} else if got := onward(t, c, s, logs); !sameState(got, want) {
				t.Fatalf("Onward(%.500v, %q) = %.500v; want %.500v", fmt.Sprint(s), logs, fmt.Sprint(got), fmt.Sprint(want))
			}
		}
	}
}

func TestOnwardIsFalseWhereATakeIs(t *testing.T) {
	type ls = []impl.Part
	type ps = []impl.Pane
	type rs = []impl.Row
	full := agg(most, 5*most, 5, 5)
	for _, x := range []struct {
		name string
		s    impl.State
		logs ls
		ok   bool
	}{
		{"Bad", state(0, 5, nil, nil, 0, mostTallied), ls{part("e 6 1", "?", "e 7 1")}, false},
		{"Bad at its limit", state(0, 5, nil, nil, 0, mostTallied-1), ls{part("e 6 1", "?", "e 7 1")}, true},
		{"Bad, at the last of all", state(0, 5, nil, nil, 0, mostTallied-1), ls{part("?", "e 6 1", "?")}, false},
		{"Bad, where that record is read", state(2, 5, nil, nil, 0, mostTallied), ls{part("e 6 1", "?", "e 7 1")}, true},
		{"Bad, with none left", state(3, 5, nil, nil, 0, mostTallied), ls{part("e 6 1", "?", "?")}, true},
		{"Drops", state(0, 50, nil, nil, mostTallied, 0), ls{part("e 60 1", "e 1 1")}, false},
		{"Drops at their limit", state(0, 50, nil, nil, mostTallied-1, 0), ls{part("e 60 1", "e 1 1")}, true},
		{"Drops, where nothing is late", state(0, 50, nil, nil, mostTallied, 0), ls{part("e 60 1", "e 61 1")}, true},
		{"a join", state(0, 0, ps{at(0, full)}, nil, 0, 0), ls{part("?", "e 6 5")}, false},
		{"a join of another pane", state(0, 0, ps{at(0, full)}, nil, 0, 0), ls{part("?", "e 16 5")}, true},
		{"Times", state(0, 10, ps{at(0, one(5))}, rs{told(0, one(5), most)}, 0, 0), ls{part("?", "e 6 5")}, false},
		{"Times, twice", state(0, 10, ps{at(0, one(5))}, rs{told(0, one(5), most-1)}, 0, 0), ls{part("e 6 5", "e 6 5")}, false},
		{"Times at their limit", state(0, 10, ps{at(0, one(5))}, rs{told(0, one(5), most-1)}, 0, 0), ls{part("e 6 5", "e 16 5")}, true},
		// With Marks alike the first part's event tells the pane, so that the other one's tells it once too often, or not.
		{"Times, twice by two parts", states([]int{0, 0}, []int{10, 10}, ps{at(0, one(5))}, rs{told(0, one(4), most-1)}, 0, 0), ls{part("e 9 1"), part("e 6 5")}, false},
		{"Times, once by two parts", states([]int{0, 0}, []int{10, 10}, ps{at(0, one(5))}, rs{told(0, agg(2, 10, 5, 5), most)}, 0, 0), ls{part("e 6 5"), part("e 16 1")}, true},
		{"Times, with the parts turned", states([]int{0, 0}, []int{10, 10}, ps{at(0, one(5))}, rs{told(0, agg(2, 10, 5, 5), most)}, 0, 0), ls{part("e 16 1"), part("e 6 5")}, false},
	} {
		c := plainConfig(0, 10)
		if want, ok := onwardByTake(c, x.s, x.logs); ok != x.ok || !impl.StateOk(c, x.s) {
			t.Errorf("%s: Take of each = %v, %v", x.name, want, ok)
		} else if !ok {
			refusesOnward(t, c, x.s, x.logs)
		} else if got := onward(t, c, x.s, x.logs); !sameState(got, want) {
			t.Errorf("%s: Onward = %v; want %v", x.name, got, want)
		}
	}
}

func TestOnwardOfAsManyAsThePartHasAndOneMore(t *testing.T) {
	for _, c := range operatorConfigs() {
		for _, counts := range [][]int{{0}, {1}, {7}, {23}, {0, 0}, {3, 23}, {23, 3}, {0, 23, 5}, {5, 0, 23}, {23, 23, 23}} {
			logs := eventLogs(c.Dims, counts...)
			s, _ := impl.Fold(c, logs, mostRead)
			if got := onward(t, c, s, logs); !slices.Equal(s.Offs, counts) || !sameState(got, s) {
				t.Errorf("Onward(%v) with all of %v read = %v; want %v", c, counts, got, s)
			}
			for i := range counts {
				more, none := copyState(s), impl.Fresh(c, len(logs))
				more.Offs[i]++
				refusesOnward(t, c, more, logs)
				none.Offs[i] = counts[i] + 1
				refusesOnward(t, c, none, logs)
				none.Offs[i] = impl.MaxRecs
				refusesOnward(t, c, none, logs)
			}
		}
		full := eventLogs(c.Dims, impl.MaxRecs, 0, impl.MaxRecs)
		s, _ := impl.Fold(c, full, mostRead)
		if got := onward(t, c, s, full); !sameState(got, s) || got.Offs[2] != impl.MaxRecs {
			t.Errorf("Onward(%v) with all of MaxRecs read = %v; want %v", c, got, s)
		}
	}
}

func TestOnwardAsksForAsManyPartsAsThereAre(t *testing.T) {
	for _, c := range operatorConfigs() {
		for parts := 1; parts <= impl.MaxParts; parts++ {
			for others := 1; others <= impl.MaxParts; others++ {
				for _, count := range []int{0, 3} {
					logs := eventLogs(c.Dims, filled(others, count)...)
					if parts != others {
						refusesOnward(t, c, impl.Fresh(c, parts), logs)
					} else if got := onward(t, c, impl.Fresh(c, parts), logs); !slices.Equal(got.Offs, filled(others, count)) {
						t.Errorf("Onward of %d parts = %v", parts, got)
					}
				}
			}
		}
	}
}

func TestOnwardRefusesStatesThatAreNotStateOk(t *testing.T) {
	c := cubeConfig()
	for _, s := range refusedStates() {
		for n := 1; n <= impl.MaxParts; n++ {
			refusesOnward(t, c, s, mixedLogs(c, n, 24, 24, 24)[:n])
			refusesOnward(t, c, s, eventLogs(c.Dims, 0, 0, 0)[:n])
		}
		refusesOnward(t, c, s, nil)
		refusesOnward(t, c, s, logs(0, filled(len(s.Offs), 25)...))
	}
}

func TestTheWholeRefusesLogsThatAreNotLogsOk(t *testing.T) {
	const recs = impl.MaxRecs
	for _, c := range append(operatorConfigs(), acceptedConfigs()...) {
		list := append(refusedLogs(), eventLogs(c.Dims, 1, 1, 1, 1), eventLogs(c.Dims, recs+1), eventLogs(c.Dims, 1, recs+1), eventLogs(c.Dims, 1, 1, recs+1))
		for _, logs := range list {
			refusesWhole(t, c, logs)
			for parts := 1; parts <= impl.MaxParts; parts++ {
				refusesOnward(t, c, impl.Fresh(c, parts), logs)
				refusesOnward(t, c, states(filled(parts, recs), filled(parts, 5), nil, nil, 0, 0), logs)
			}
		}
		for _, logs := range acceptedLogs() {
			if got := impl.EventsOf(c, logs); len(got) > 1 {
				t.Errorf("EventsOf(%v, %q) = %v", c, logs, got)
			}
			onward(t, c, impl.Fresh(c, len(logs)), logs)
		}
	}
}

func TestTheWholeRefusesAConfigThatIsNotConfigOk(t *testing.T) {
	for _, c := range refusedConfigs() {
		for dims := range 5 {
			refusesWhole(t, c, eventLogs(dims, 2))
			refusesOnward(t, c, impl.Fresh(c, 1), eventLogs(dims, 2))
			refusesOnward(t, c, impl.Fresh(c, 2), eventLogs(dims, 2, 0))
			refusesOnward(t, c, state(2, 5, nil, []impl.Row{told(0, one(7), 1)}, 0, 0), eventLogs(dims, 2))
		}
		refusesWhole(t, c, []impl.Part{part()})
		refusesWhole(t, c, nil)
		refusesOnward(t, c, impl.Fresh(c, 1), []impl.Part{part()})
	}
}

// inByHand looks at all rows for one of these three.
func inByHand(rows []impl.Row, win, mask, start int) []impl.Row {
	list := []impl.Row{}
	for _, r := range rows {
		if [3]int{r.Win, r.Mask, r.Start} == [3]int{win, mask, start} {
			list = append(list, r)
		}
	}
	return list
}

func TestRowsIn(t *testing.T) {
	rows := fewRows()
	rows = append(rows, row(0, 0, -5, one(9), 4, 3, 4), row(0, 0, 0, one(8), 1, 3, 4), row(0, 2, 0, one(6), 1, 1), row(0, 0, -5, one(5), 7, 0, 0))
	for _, x := range []struct {
		win, mask, start int
		want             []impl.Row
	}{
		{0, 0, -5, []impl.Row{rows[0], rows[4], rows[7]}}, {0, 2, 0, []impl.Row{rows[1], rows[6]}}, {0, 3, 10, rows[2:3]}, {1, 1, 5, rows[3:4]}, {0, 0, 0, rows[5:6]},
		{0, 0, 5, nil}, {0, 0, -4, nil}, {0, 0, -10, nil}, {1, 0, -5, nil}, {0, 1, -5, nil}, {1, 1, 0, nil}, {0, 3, 11, nil},
		{-1, 0, -5, nil}, {0, -1, -5, nil}, {2, 0, -5, nil}, {0, 4, 10, nil}, {3, 3, 10, nil}, {math.MinInt, math.MaxInt, math.MinInt, nil}, {1 << 32, 0, -5, nil},
	} {
		isRows(t, fmt.Sprintf("RowsIn(%d, %d, %d)", x.win, x.mask, x.start), impl.RowsIn(rows, x.win, x.mask, x.start), x.want)
		isRows(t, "RowsIn of none", impl.RowsIn(nil, x.win, x.mask, x.start), nil)
	}
}

// Nothing is asked of the rows: they stand in any order, with any places.
func TestRowsInOfAnyRows(t *testing.T) {
	wild := rowsOf(risingPanes())
	turned := copyRows(append(wild, wild...))
	slices.Reverse(turned)
	lists := [][]impl.Row{nil, {}, wild, turned, rowsOf(refusedPanes())}
	for seed := range 60 {
		lists = append(lists, mixedRows(seed%25, seed))
	}
	found := 0
	for _, rows := range lists {
		for _, r := range append(rows, row(0, 0, 5, one(1), 1), row(7, 1, 0, one(1), 1)) {
			want := inByHand(rows, r.Win, r.Mask, r.Start)
			isRows(t, fmt.Sprintf("RowsIn(%v, %d, %d, %d)", rows, r.Win, r.Mask, r.Start), impl.RowsIn(rows, r.Win, r.Mask, r.Start), want)
			found += len(want)
		}
	}
	if found < 2000 {
		t.Errorf("the rows are too dull: %d found", found)
	}
}

// withAggs tells rows of these aggregates, all of one name.
func withAggs(list ...impl.Agg) []impl.Row {
	rows := []impl.Row{}
	for _, a := range list {
		rows = append(rows, told(10, a, 1))
	}
	return rows
}

func TestTotal(t *testing.T) {
	half := agg(most/2, most, 2, 2)
	for _, x := range []struct {
		list []impl.Agg
		want impl.Agg
	}{
		{nil, impl.Agg{}},
		{[]impl.Agg{{}}, impl.Agg{}},
		{[]impl.Agg{one(7)}, one(7)},
		{[]impl.Agg{one(7), one(-2), one(7)}, agg(3, 12, -2, 7)},
		{[]impl.Agg{{}, one(5), {}, agg(2, 3, -2, 5), {}}, agg(3, 8, -2, 5)},
		{[]impl.Agg{one(bound), one(-bound)}, agg(2, 0, -bound, bound)},
		{[]impl.Agg{half, half}, agg(most, 2*most, 2, 2)},
		{[]impl.Agg{half, {}, half, {}}, agg(most, 2*most, 2, 2)},
		{[]impl.Agg{agg(most, most*bound, bound, bound)}, agg(most, most*bound, bound, bound)},
		{slices.Repeat([]impl.Agg{one(-3)}, most), agg(most, -3*most, -3, -3)},
		{append(slices.Repeat([]impl.Agg{one(-3)}, most), impl.Agg{}), agg(most, -3*most, -3, -3)},
	} {
		if got, ok := impl.Total(withAggs(x.list...)); !ok || got != x.want {
			t.Errorf("Total of %.200v = %v, %v; want %v", fmt.Sprint(x.list), got, ok, x.want)
		}
	}
}

func TestTotalRefuses(t *testing.T) {
	half := agg(most/2, most, 2, 2)
	lists := [][]impl.Agg{
		{half, half, one(2)}, {half, one(2), half}, {one(2), half, half}, {half, half, {}, one(2)}, {agg(most, 0, 0, 0), one(0)}, {one(0), agg(most, 0, 0, 0)},
		{half, half, half}, {half, half, half, half}, slices.Repeat([]impl.Agg{one(-3)}, most+1), slices.Repeat([]impl.Agg{one(-3)}, 2*most),
	}
	for _, a := range refusedAggs() {
		lists = append(lists, []impl.Agg{a}, []impl.Agg{a, one(7)}, []impl.Agg{one(7), a}, []impl.Agg{one(7), a, one(8)}, []impl.Agg{{}, a}, []impl.Agg{a, a})
	}
	for _, list := range lists {
		if got, ok := impl.Total(withAggs(list...)); ok || got != (impl.Agg{}) {
			t.Errorf("Total of %.200v = %v, %v; want nothing, false", fmt.Sprint(list), got, ok)
		}
	}
}

// Nothing is asked of the rows but of their As.
func TestTotalOfAnyRows(t *testing.T) {
	wild := rowsOf(risingPanes())
	if got, ok := impl.Total(wild); !ok || got != agg(len(wild), 7*len(wild), 7, 7) {
		t.Errorf("Total of %v = %v, %v", wild, got, ok)
	}
	for seed := range 60 {
		rows, values := mixedRows(seed%25, seed), []int{}
		for _, r := range rows {
			values = append(values, r.A.Sum)
		}
		if got, ok := impl.Total(rows); !ok || got != listed(t, values) {
			t.Errorf("Total of %v = %v, %v; want %v", rows, got, ok, listed(t, values))
		}
	}
}

// topByHand takes out of the rows the first one that has no other ahead of it, again and again.
func topByHand(rows []impl.Row, n int) []impl.Row {
	left, top := slices.Clone(rows), []impl.Row{}
	for len(top) < n && len(left) > 0 {
		first := 0
		for i, r := range left {
			sum, best := r.A.Sum, left[first].A.Sum
			if sum > best || sum == best && impl.PaneCmp(paneOf(r), paneOf(left[first])) == -1 {
				first = i
			}
		}
		top, left = append(top, left[first]), slices.Delete(left, first, first+1)
	}
	return top
}

func TestTopBy(t *testing.T) {
	three := tolds(10, 1, 1, 20, 5, 1, 30, 3, 1)
	low := tolds(10, -7, 1, 20, 0, 1, 30, -1, 1, 40, -9, 1)
	alike := tolds(30, 5, 1, 10, 5, 2, 40, 6, 3, 20, 5, 4)
	same := []impl.Row{told(10, one(5), 3), told(10, agg(2, 5, 0, 5), 1), told(10, one(5), 1), told(10, agg(2, 5, 2, 3), 2), told(10, agg(3, 6, 2, 2), 9)}
	keys := []impl.Row{row(0, 1, 0, one(5), 1, 2), row(0, 1, 0, one(5), 1, 1, 9), row(1, 0, 0, one(5), 1), row(0, 1, 0, one(5), 1, 1), row(0, 0, 9, one(5), 1), row(0, 1, 0, one(5), 1), row(0, 1, -1, one(5), 1, 9)}
	for _, x := range []struct {
		rows []impl.Row
		n    int
		want []impl.Row
	}{
		{nil, 0, nil}, {nil, 1, nil}, {nil, -1, nil}, {[]impl.Row{}, math.MaxInt, nil},
		{three, 1, tolds(20, 5, 1)}, {three, 2, tolds(20, 5, 1, 30, 3, 1)}, {three, 3, tolds(20, 5, 1, 30, 3, 1, 10, 1, 1)},
		{three, 0, nil}, {three, -1, nil}, {three, -3, nil}, {three, math.MinInt, nil},
		{three, 4, tolds(20, 5, 1, 30, 3, 1, 10, 1, 1)}, {three, 100, tolds(20, 5, 1, 30, 3, 1, 10, 1, 1)}, {three, math.MaxInt, tolds(20, 5, 1, 30, 3, 1, 10, 1, 1)},
		{low, 3, tolds(20, 0, 1, 30, -1, 1, 10, -7, 1)}, {low, 4, tolds(20, 0, 1, 30, -1, 1, 10, -7, 1, 40, -9, 1)},
		{alike, 1, tolds(40, 6, 3)}, {alike, 2, tolds(40, 6, 3, 10, 5, 2)}, {alike, 4, tolds(40, 6, 3, 10, 5, 2, 20, 5, 4, 30, 5, 1)},
		{same, 1, same[4:]}, {same, 3, []impl.Row{same[4], same[0], same[1]}}, {same, 5, []impl.Row{same[4], same[0], same[1], same[2], same[3]}},
		{keys, 9, []impl.Row{keys[4], keys[6], keys[5], keys[3], keys[1], keys[0], keys[2]}},
		{tolds(10, 5, 1, 10, 5, 1, 10, 5, 1), 2, tolds(10, 5, 1, 10, 5, 1)},
	} {
		isRows(t, fmt.Sprintf("TopBy(%v, %d)", x.rows, x.n), impl.TopBy(x.rows, x.n), x.want)
		isRows(t, fmt.Sprintf("the test's own of %v, %d", x.rows, x.n), topByHand(x.rows, x.n), x.want)
	}
}

// Of rows of one Sum and one name those that stand first come first, however many they are.
func TestTopByOfManyRowsThatAreAlike(t *testing.T) {
	rows := []impl.Row{}
	for i := range 300 {
		rows = append(rows, told(0, one(5), 300-i))
	}
	isRows(t, "TopBy of one name", impl.TopBy(rows, 300), rows)
	for i := range rows {
		rows[i].A, rows[i].Start = one(i%3), i%4
	}
	for _, n := range []int{1, 24, 25, 26, 100, 299, 300, 301} {
		isRows(t, fmt.Sprintf("TopBy of twelve names, %d", n), impl.TopBy(rows, n), topByHand(rows, n))
	}
}

// Nothing is asked of the rows: any places, and As of any numbers.
func TestTopByOfAnyRows(t *testing.T) {
	wild := rowsOf(risingPanes())
	turned := copyRows(wild)
	slices.Reverse(turned)
	isRows(t, "TopBy of turned rows", impl.TopBy(turned, len(wild)), wild)
	sums := withAggs()
	for i, sum := range []int{-1, math.MaxInt, 0, math.MinInt, 1, math.MinInt + 1, math.MaxInt - 1, math.MinInt, math.MaxInt} {
		sums = append(sums, told(10, agg(1-i, sum, 5, -5), i))
	}
	order := []int{1, 8, 6, 4, 2, 0, 5, 3, 7}
	for n := range 11 {
		want := []impl.Row{}
		for _, i := range order[:min(n, len(order))] {
			want = append(want, sums[i])
		}
		isRows(t, fmt.Sprintf("TopBy of the farthest Sums, %d", n), impl.TopBy(sums, n), want)
	}
	for seed := range 100 {
		rows := mixedRows(seed%40, seed)
		for i := range rows {
			rows[i].A.Sum -= i % 2
		}
		for _, n := range []int{-1, 0, 1, len(rows) / 2, len(rows) - 1, len(rows), len(rows) + 1} {
			isRows(t, fmt.Sprintf("TopBy(%v, %d)", rows, n), impl.TopBy(rows, n), topByHand(rows, n))
		}
	}
}

func TestQuestionsOfWhatWholeTells(t *testing.T) {
	c := tideConfig(5, 10)
	logs := []impl.Part{part("e 3 1 4", "e 30 2 6", "?", "e 4 1 5", "e 25 1 -8"), part("e 2 2 6", "e 31 2 -20", "e 5 2 2")}
	rows, drops := impl.Whole(c, logs)
	want := []impl.Row{
		row(0, 0, 0, one(4), 1, 1), row(0, 0, 0, one(6), 1, 2), row(0, 0, 20, one(-8), 1, 1), row(0, 0, 30, agg(2, -14, -20, 6), 1, 2),
		row(0, 1, 0, agg(2, 10, 4, 6), 1), row(0, 1, 20, one(-8), 1), row(0, 1, 30, agg(2, -14, -20, 6), 1),
	}
	if isRows(t, "Whole", rows, want); drops != 2 {
		t.Errorf("Whole tells %d drops; want 2", drops)
	}
	isRows(t, "RowsIn", impl.RowsIn(rows, 0, 0, 0), want[:2])
	isRows(t, "TopBy", impl.TopBy(rows, 4), []impl.Row{want[4], want[1], want[0], want[2]})
	isRows(t, "TopBy of RowsIn", impl.TopBy(impl.RowsIn(rows, 0, 0, 0), 1), want[1:2])
	if all, ok := impl.Total(rows); !ok || all != agg(10, -24, -20, 6) {
		t.Errorf("Total = %v, %v", all, ok)
	}
}

func TestSpread(t *testing.T) {
	for _, c := range append(operatorConfigs(), acceptedConfigs()...) {
		for _, logs := range append(acceptedLogs(), eventLogs(c.Dims, 3, 2)) {
			got := impl.Spread(c, logs)
			if got.Dims != c.Dims || !slices.Equal(got.Wins, c.Wins) || !slices.Equal(got.Masks, c.Masks) || got.Delay != 1000 || got.Late != 1000 || !impl.ConfigOk(got) {
				t.Errorf("Spread(%v) = %v", c, got)
			}
			if again := impl.Spread(got, logs); !reflect.DeepEqual(again, got) {
				t.Errorf("Spread of a Spread = %v; want %v", again, got)
			}
		}
	}
}

// With a Spread all is told of logs of which nothing is so late.
func TestWholeBySpread(t *testing.T) {
	lost, rows := 0, 0
	for i, c := range operatorConfigs() {
		for seed, counts := range [][]int{{24}, {24, 9}, {24, 24, 24}} {
			logs := mixedLogs(c, 3*i+seed%2+1, counts...)
			_, drops := impl.Whole(c, logs)
			wide := impl.Spread(c, logs)
			want := panesByHand(t, c, eventsByHand(c, logs))
			got, none := impl.Whole(wide, logs)
			if none != 0 || !samePanes(panesIn(got), want) {
				t.Fatalf("Whole(%v, %q) = %.500v, %d; want %.500v, 0", wide, logs, fmt.Sprint(got), none, fmt.Sprint(want))
			}
			lost, rows = lost+drops, rows+len(got)
		}
	}
	if lost < 100 || rows < 1000 {
		t.Errorf("the logs are too dull: %d drops without a Spread, %d rows", lost, rows)
	}
}

// With a Spread a value is dropped where the end of its window lies as far behind as Delay and Late together.
func TestASpreadAtItsLimit(t *testing.T) {
	for late, want := range map[int]int{10: 0, 2008: 0, 2009: 0, 2010: 1, 2011: 1, latest: 1} {
		logs := []impl.Part{part(fmt.Sprintf("e %d 1", late), "e 0 2")}
		c := plainConfig(3, 4)
		if rows, drops := impl.Whole(impl.Spread(c, logs), logs); drops != want || len(rows) != 2-want {
			t.Errorf("Whole by a Spread of %q = %v, %d", logs, rows, drops)
		}
		if rows, drops := impl.Whole(c, logs); late > 20 && (drops != 1 || len(rows) != 1) {
			t.Errorf("Whole of %q = %v, %d", logs, rows, drops)
		}
	}
}

// roomyConfig is cubeConfig with spare room behind its lists, and these lists with their room.
func roomyConfig() (impl.Config, []any) {
	c := cubeConfig()
	wins, masks := append(c.Wins, win(7, 7), win(8, 8)), append(c.Masks, 3, 2)
	c.Wins, c.Masks = wins[:3], masks[:4]
	return c, []any{wins, masks}
}

func TestTheWholeLeavesItsArguments(t *testing.T) {
	plain := cubeConfig()
	c, configBehind := roomyConfig()
	whole := mixedLogs(plain, 2, 9, 12, 24)
	room := make([]impl.Part, 3)
	for i := range room {
		room[i].Recs = append(slices.Clone(whole[i].Recs), "e 7 1 2 3 4", "e 8 1 2 3 4")[:len(whole[i].Recs)]
	}
	s, stateBehind := roomyState()
	rows, rowsBehind := roomyRows(fewRows())
	before := fmt.Sprint(configBehind, stateBehind, rowsBehind)
	few := room[:2]
	if got := impl.EventsOf(c, few); !sameEvents(got, eventsByHand(plain, whole[:2])) {
		t.Errorf("EventsOf = %v", got)
	}
	want, none := wholeByHand(plain, whole[:2])
	if got, drops := impl.Whole(c, few); !sameRows(got, want) || drops != none {
		t.Errorf("Whole = %v, %d; want %v, %d", got, drops, want, none)
	}
	if got, want := onward(t, c, s, few), onwardByHand(plain, soundState(), whole[:2]); !sameState(got, want) {
		t.Errorf("Onward = %v; want %v", got, want)
	}
	isRows(t, "RowsIn", impl.RowsIn(rows, 0, 0, -5), fewRows()[:1])
	isRows(t, "RowsIn of what lies behind", impl.RowsIn(rows, 0, 0, 1000), nil)
	isRows(t, "TopBy", impl.TopBy(rows, 9), topByHand(fewRows(), 4))
	isRows(t, "TopBy of none", impl.TopBy(rows[:0], 9), nil)
	if got, ok := impl.Total(rows); !ok || got != agg(5, 3, -7, 7) {
		t.Errorf("Total = %v, %v", got, ok)
	}
	if got := impl.Spread(c, few); len(got.Wins) != 3 || len(got.Masks) != 4 {
		t.Errorf("Spread = %v", got)
	}
	if fmt.Sprint(configBehind, stateBehind, rowsBehind) != before || !sameState(s, soundState()) || !sameRows(rows, fewRows()) || !reflect.DeepEqual(c, plain) {
		t.Errorf("something is written into an argument: %v, %v, %v", c, s, rows)
	}
	for i, p := range room {
		behind := p.Recs[len(p.Recs) : len(p.Recs)+2]
		if !slices.Equal(p.Recs, whole[i].Recs) || behind[0] != "e 7 1 2 3 4" || behind[1] != "e 8 1 2 3 4" {
			t.Errorf("something is written into the logs: %q, %q", p.Recs, behind)
		}
	}
}

func scribbleConfig(c impl.Config) {
	for i := range c.Wins {
		c.Wins[i] = win(91, 91)
	}
	scribbleNumbers(c.Masks)
	_ = append(c.Wins, win(92, 92))
}

func TestWhatTheWholeTellsIsNewMemory(t *testing.T) {
	c, configBehind := roomyConfig()
	logs := mixedLogs(c, 2, 9, 12)
	s, stateBehind := roomyState()
	rows, rowsBehind := roomyRows(append(fewRows(), fewRows()...))
	before := fmt.Sprint(configBehind, stateBehind, rowsBehind)
	read := copyState(s)
	read.Offs = []int{9, 12}
	for i, tells := range []func() (impl.State, impl.Config){
		func() (impl.State, impl.Config) {
			list := []impl.Pane{}
			for _, e := range impl.EventsOf(c, logs) {
				list = append(list, impl.Pane{Start: e.At, Key: e.Dims, A: one(e.Val)})
			}
			return impl.State{Panes: list}, impl.Config{}
		},
		func() (impl.State, impl.Config) {
			rows, drops := impl.Whole(c, logs)
			return impl.State{Rows: rows, Drops: drops}, impl.Config{}
		},
		func() (impl.State, impl.Config) { return onward(t, c, s, logs), impl.Config{} },
		func() (impl.State, impl.Config) { return onward(t, c, read, logs), impl.Config{} },
		func() (impl.State, impl.Config) {
			return impl.State{Rows: impl.RowsIn(rows, 0, 0, -5)}, impl.Config{}
		},
		func() (impl.State, impl.Config) { return impl.State{Rows: impl.TopBy(rows, 5)}, impl.Config{} },
		func() (impl.State, impl.Config) { return impl.State{Rows: impl.TopBy(rows, 8)}, impl.Config{} },
		func() (impl.State, impl.Config) { return impl.State{}, impl.Spread(c, logs) },
	} {
		got, conf := tells()
		want, wantConf := copyState(got), fmt.Sprint(conf)
		lists := append(slices.Clone(got.Panes), panesIn(got.Rows)...)
		keysApart(t, append(lists, impl.Pane{Key: got.Offs}, impl.Pane{Key: got.Marks}, impl.Pane{Key: conf.Masks}))
		scribble(got)
		scribbleConfig(conf)
		if fmt.Sprint(configBehind, stateBehind, rowsBehind) != before || !slices.Equal(read.Offs, []int{9, 12}) || read.Marks[0] != -20 {
			t.Fatalf("answer %d shares memory with an argument", i)
		}
		if again, conf := tells(); !sameState(again, want) || fmt.Sprint(conf) != wantConf {
			t.Fatalf("answer %d tells what was written into an earlier one: %v, %v; want %v, %v", i, again, conf, want, wantConf)
		}
	}
}

// What lies behind an answer is none of the rows that it leaves out.
func TestNothingLiesBehindTheTop(t *testing.T) {
	rows := tolds(10, 1, 1, 20, 5, 1, 30, 3, 1, 40, 9, 1)
	for n := range 5 {
		top := impl.TopBy(rows, n)
		for _, r := range top[len(top):cap(top)] {
			if !reflect.ValueOf(r).IsZero() {
				t.Errorf("behind TopBy of %d lies %v", n, r)
			}
		}
	}
}
