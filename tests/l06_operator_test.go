package tests

import (
	"fmt"
	"math"
	"reflect"
	"slices"
	"strings"
	"testing"

	"loop.example/g00552/impl"
)

// The limit of Drops and of Bad, and the least mark that an event can make.
const (
	mostTallied = 100000
	leastMark   = -101000
)

func one(v int) impl.Agg {
	return agg(1, v, v, v)
}

func row(win, mask, start int, a impl.Agg, times int, key ...int) impl.Row {
	return impl.Row{Win: win, Mask: mask, Start: start, Key: key, A: a, Times: times}
}

func rowOf(p impl.Pane, times int) impl.Row {
	return row(p.Win, p.Mask, p.Start, p.A, times, p.Key...)
}

// rowsOf tells a row of each pane, each told as often as the place of it says.
func rowsOf(list []impl.Pane) []impl.Row {
	rows := []impl.Row{}
	for i, p := range list {
		rows = append(rows, rowOf(p, 1+i))
	}
	return rows
}

func paneOf(r impl.Row) impl.Pane {
	return pane(r.Win, r.Mask, r.Start, r.A, r.Key...)
}

func sameRow(a, b impl.Row) bool {
	return samePane(paneOf(a), paneOf(b)) && a.Times == b.Times
}

func sameRows(a, b []impl.Row) bool {
	return slices.EqualFunc(a, b, sameRow)
}

func sameState(a, b impl.State) bool {
	return slices.Equal(a.Offs, b.Offs) && slices.Equal(a.Marks, b.Marks) && samePanes(a.Panes, b.Panes) && sameRows(a.Rows, b.Rows) && a.Drops == b.Drops && a.Bad == b.Bad
}

func copyRows(list []impl.Row) []impl.Row {
	list = slices.Clone(list)
	for i := range list {
		list[i].Key = slices.Clone(list[i].Key)
	}
	return list
}

func copyState(s impl.State) impl.State {
	s.Offs, s.Marks, s.Panes, s.Rows = slices.Clone(s.Offs), slices.Clone(s.Marks), copyPanes(s.Panes), copyRows(s.Rows)
	return s
}

// plainConfig has one kind of windows and one mask that keeps nothing.
func plainConfig(delay, late int) impl.Config {
	return config(0, []impl.Win{win(10, 10)}, []int{0}, delay, late)
}

// operatorConfigs holds configs that tell much of what mixedLogs tell, and such that tell nothing.
func operatorConfigs() []impl.Config {
	none, all, late := cubeConfig(), cubeConfig(), cubeConfig()
	none.Late, none.Delay = 0, 0
	all.Late = longest
	late.Late = 30
	wide := config(3, []impl.Win{win(12, 1), win(24, 2), win(60, 5)}, []int{7, 3, 1, 0}, 2, 7)
	return append(mergeConfigs(), plainConfig(0, 10), plainConfig(20, 0), cubeConfig(), none, all, late, wide,
		config(1, []impl.Win{win(1, 1), win(widest, 5000)}, []int{1, 0}, 10, 5), config(2, []impl.Win{win(10, 5)}, nil, 0, 3), config(1, nil, []int{1, 0}, 4, 4))
}

func take(t *testing.T, c impl.Config, s impl.State, part int, rec string) impl.State {
	t.Helper()
	next, ok := impl.Take(c, s, part, rec)
	if !ok {
		t.Fatalf("Take(%v, %.300v, %d, %q) = false", c, fmt.Sprint(s), part, rec)
	}
	return next
}

func refusesTake(t *testing.T, c impl.Config, s impl.State, part int, rec string) {
	t.Helper()
	if got, ok := impl.Take(c, s, part, rec); ok || !reflect.ValueOf(got).IsZero() {
		t.Errorf("Take(%v, %.300v, %d, %.80q) = %.300v, %v; want nothing, false", c, fmt.Sprint(s), part, rec, fmt.Sprint(got), ok)
	}
}

// byName puts panes in order without the program: by all numbers of their names.
func byName(a, b impl.Pane) int {
	return slices.Compare(append([]int{a.Win, a.Mask, a.Start}, a.Key...), append([]int{b.Win, b.Mask, b.Start}, b.Key...))
}

// withValue joins a value to a pane, or puts a new one at its place.
func withValue(list []impl.Pane, p impl.Pane, v int) []impl.Pane {
	i, found := slices.BinarySearchFunc(list, p, byName)
	if !found {
		p.A = one(v)
		return slices.Insert(list, i, p)
	}
	a := &list[i].A
	*a = agg(a.N+1, a.Sum+v, min(a.Min, v), max(a.Max, v))
	return list
}

// tellByHand tells panes that have no row, or another A than their row.
func tellByHand(rows []impl.Row, list []impl.Pane) []impl.Row {
	for _, p := range list {
		i, found := slices.BinarySearchFunc(rows, p, func(r impl.Row, p impl.Pane) int { return byName(paneOf(r), p) })
		switch {
		case !found:
			rows = slices.Insert(rows, i, rowOf(p, 1))
		case rows[i].A != p.A:
			rows[i] = rowOf(p, rows[i].Times+1)
		}
	}
	return rows
}

// takeByHand tells what one more record makes of a state, told without the program; limits are not held.
func takeByHand(c impl.Config, s impl.State, part int, rec string) impl.State {
	s = copyState(s)
	s.Offs[part]++
	e, ok := readByForm(c.Dims, rec)
	if !ok {
		s.Bad++
		return s
	}
	mark := slices.Min(s.Marks)
	for w, kind := range c.Wins {
		for _, start := range startsByStep(kind, e.At) {
			if mark >= start+kind.Size+c.Late {
				s.Drops++
				continue
			}
			for m, mask := range c.Masks {
				s.Panes = withValue(s.Panes, pane(w, m, start, impl.Agg{}, keyByHand(mask, e.Dims)...), e.Val)
			}
		}
	}
	s.Marks[part] = max(s.Marks[part], e.At-c.Delay)
	mark = slices.Min(s.Marks)
	due, left := []impl.Pane{}, []impl.Pane{}
	for _, p := range s.Panes {
		end := p.Start + c.Wins[p.Win].Size
		if mark >= end {
			due = append(due, p)
		}
		if mark < end+c.Late {
			left = append(left, p)
		}
	}
	s.Rows, s.Panes = tellByHand(s.Rows, due), left
	return s
}

func TestFresh(t *testing.T) {
	const no = noMark
	for parts, want := range map[int]impl.State{
		1: {Offs: []int{0}, Marks: []int{no}},
		2: {Offs: []int{0, 0}, Marks: []int{no, no}},
		3: {Offs: []int{0, 0, 0}, Marks: []int{no, no, no}},
	} {
		for _, c := range acceptedConfigs() {
			if got := impl.Fresh(c, parts); !sameState(got, want) || !impl.StateOk(c, got) {
				t.Errorf("Fresh(%v, %d) = %v; want %v", c, parts, got, want)
			}
		}
		// The document asks for nothing of the Config here.
		for _, c := range refusedConfigs() {
			if got := impl.Fresh(c, parts); !sameState(got, want) || impl.StateOk(c, got) {
				t.Errorf("Fresh(%v, %d) = %v; want %v", c, parts, got, want)
			}
		}
	}
	for _, parts := range append(farNumbers(), 0, -1, -2, 4, 5, 100) {
		for _, c := range append(acceptedConfigs(), refusedConfigs()...) {
			if got := impl.Fresh(c, parts); !reflect.ValueOf(got).IsZero() || impl.StateOk(c, got) {
				t.Errorf("Fresh(%v, %d) = %v; want nothing", c, parts, got)
			}
		}
	}
}

// soundState is StateOk with cubeConfig, in the midst of all limits.
func soundState() impl.State {
	return impl.State{Offs: []int{3, 7}, Marks: []int{-20, noMark}, Panes: soundPanes(), Rows: rowsOf(soundPanes()), Drops: 5, Bad: 6}
}

// changed tells soundState with something else in it.
func changed(change func(s *impl.State)) impl.State {
	s := soundState()
	change(&s)
	return s
}

// acceptedStates are StateOk with cubeConfig, with each limit met just so.
func acceptedStates() []impl.State {
	list := []impl.State{
		{Offs: []int{0}, Marks: []int{noMark}}, {Offs: []int{24, 0, 24}, Marks: []int{noMark, noMark, noMark}}, soundState(),
		changed(func(s *impl.State) { s.Panes = nil }), changed(func(s *impl.State) { s.Rows = nil }),
		changed(func(s *impl.State) { s.Rows[0].Times, s.Rows[12].Times = 1000, 1000 }),
		changed(func(s *impl.State) { s.Drops, s.Bad = 0, 0 }), changed(func(s *impl.State) { s.Drops, s.Bad = 100000, 100000 }),
	}
	for _, off := range []int{0, 1, 23, 24} {
		list = append(list, changed(func(s *impl.State) { s.Offs[0] = off }), changed(func(s *impl.State) { s.Offs[1] = off }))
	}
	for _, mark := range []int{noMark, leastMark, leastMark + 1, -1, 0, 1, latest - 1, latest} {
		list = append(list, changed(func(s *impl.State) { s.Marks[0] = mark }), changed(func(s *impl.State) { s.Marks[1] = mark }))
	}
	return list
}

// refusedStates holds states of which a single thing is not as StateOk asks for with cubeConfig.
func refusedStates() []impl.State {
	list := []impl.State{
		{}, {Offs: []int{0}}, {Marks: []int{noMark}}, {Offs: []int{0, 0}, Marks: []int{noMark}}, {Offs: []int{0}, Marks: []int{noMark, noMark}},
		{Offs: filled(4, 0), Marks: filled(4, noMark)}, {Offs: filled(3, 0), Marks: filled(4, noMark)}, {Offs: filled(4, 0), Marks: filled(3, noMark)}, {Offs: filled(100, 0), Marks: filled(100, noMark)},
		changed(func(s *impl.State) { s.Offs, s.Marks = nil, nil }), changed(func(s *impl.State) { s.Offs = s.Offs[:1] }), changed(func(s *impl.State) { s.Marks = s.Marks[:1] }),
	}
	for _, n := range append(farNumbers(), -1, 25) {
		list = append(list, changed(func(s *impl.State) { s.Offs[0] = n }), changed(func(s *impl.State) { s.Offs[1] = n }))
	}
	for _, n := range []int{noMark - 1, noMark + 1, leastMark - 1, latest + 1, -2 * noMark, math.MinInt, math.MaxInt, 1 << 32, -1 << 32} {
		list = append(list, changed(func(s *impl.State) { s.Marks[0] = n }), changed(func(s *impl.State) { s.Marks[1] = n }))
	}
	for _, n := range []int{math.MinInt, math.MaxInt, 1 << 32, -1 << 32, -1, mostTallied + 1} {
		list = append(list, changed(func(s *impl.State) { s.Drops = n }), changed(func(s *impl.State) { s.Bad = n }))
	}
	for _, n := range []int{math.MinInt, math.MaxInt, 1 << 32, -1 << 32, -1, 0, most + 1} {
		for _, i := range []int{0, 6, 12} {
			list = append(list, changed(func(s *impl.State) { s.Rows[i].Times = n }))
		}
	}
	for _, panes := range unsoundLists() {
		list = append(list, changed(func(s *impl.State) { s.Panes = panes }), changed(func(s *impl.State) { s.Rows = rowsOf(panes) }))
	}
	return list
}

func TestStateOk(t *testing.T) {
	for _, s := range acceptedStates() {
		if !impl.StateOk(cubeConfig(), s) {
			t.Errorf("StateOk(%v) = false", s)
		}
	}
	for _, s := range refusedStates() {
		if impl.StateOk(cubeConfig(), s) {
			t.Errorf("StateOk(%v) = true", s)
		}
	}
}

func TestStateOkAsksForAConfigThatIsConfigOk(t *testing.T) {
	for _, c := range refusedConfigs() {
		for _, s := range []impl.State{{Offs: []int{0}, Marks: []int{noMark}}, soundState(), {Offs: []int{1}, Marks: []int{5}, Panes: []impl.Pane{pane(0, 0, 0, one(7))}}} {
			if impl.StateOk(c, s) {
				t.Errorf("StateOk(%v, %v) = true", c, s)
			}
		}
	}
	// What is sound with one Config is not with another.
	for _, c := range []impl.Config{{}, plainConfig(0, 0), config(3, nil, []int{5, 7, 4, 0}, 3, 4), config(3, []impl.Win{win(10, 5), win(5, 5), win(30, 15)}, []int{5, 7, 4}, 3, 4)} {
		if impl.StateOk(c, soundState()) {
			t.Errorf("StateOk(%v) of panes that it has no windows or masks for = true", c)
		}
	}
}

// A taken record, and the whole state that is behind it.
type taken struct {
	part int
	rec  string
	want impl.State
}

type course struct {
	name  string
	c     impl.Config
	parts int
	steps []taken
}

// state tells a state of one part.
func state(off, mark int, panes []impl.Pane, rows []impl.Row, drops, bad int) impl.State {
	return states([]int{off}, []int{mark}, panes, rows, drops, bad)
}

func states(offs, marks []int, panes []impl.Pane, rows []impl.Row, drops, bad int) impl.State {
	return impl.State{Offs: offs, Marks: marks, Panes: panes, Rows: rows, Drops: drops, Bad: bad}
}

// at and told tell a pane and a row of plainConfig.
func at(start int, a impl.Agg) impl.Pane { return pane(0, 0, start, a) }

func told(start int, a impl.Agg, times int) impl.Row { return row(0, 0, start, a, times) }

func plainCourses() []course {
	type ps = []impl.Pane
	type rs = []impl.Row
	return []course{
		{"late corrections, a bad record, a drop", plainConfig(0, 10), 1, []taken{
			{0, "e 3 1", state(1, 3, ps{at(0, one(1))}, nil, 0, 0)},
			{0, "e 12 2", state(2, 12, ps{at(0, one(1)), at(10, one(2))}, rs{told(0, one(1), 1)}, 0, 0)},
			{0, "e 4 5", state(3, 12, ps{at(0, agg(2, 6, 1, 5)), at(10, one(2))}, rs{told(0, agg(2, 6, 1, 5), 2)}, 0, 0)},
			{0, "?", state(4, 12, ps{at(0, agg(2, 6, 1, 5)), at(10, one(2))}, rs{told(0, agg(2, 6, 1, 5), 2)}, 0, 1)},
			{0, "e 21 1", state(5, 21, ps{at(10, one(2)), at(20, one(1))}, rs{told(0, agg(2, 6, 1, 5), 2), told(10, one(2), 1)}, 0, 1)},
			{0, "e 5 9", state(6, 21, ps{at(10, one(2)), at(20, one(1))}, rs{told(0, agg(2, 6, 1, 5), 2), told(10, one(2), 1)}, 1, 1)},
		}},
		{"a window's end just at the mark, and one above it", plainConfig(0, 10), 1, []taken{
			{0, "e 0 7", state(1, 0, ps{at(0, one(7))}, nil, 0, 0)},
			{0, "e 9 8", state(2, 9, ps{at(0, agg(2, 15, 7, 8))}, nil, 0, 0)},
			{0, "e 10 1", state(3, 10, ps{at(0, agg(2, 15, 7, 8)), at(10, one(1))}, rs{told(0, agg(2, 15, 7, 8), 1)}, 0, 0)},
			{0, "e 11 1", state(4, 11, ps{at(0, agg(2, 15, 7, 8)), at(10, agg(2, 2, 1, 1))}, rs{told(0, agg(2, 15, 7, 8), 1)}, 0, 0)},
			{0, "e 19 1", state(5, 19, ps{at(0, agg(2, 15, 7, 8)), at(10, agg(3, 3, 1, 1))}, rs{told(0, agg(2, 15, 7, 8), 1)}, 0, 0)},
			{0, "e 8 0", state(6, 19, ps{at(0, agg(3, 15, 0, 8)), at(10, agg(3, 3, 1, 1))}, rs{told(0, agg(3, 15, 0, 8), 2)}, 0, 0)},
			{0, "e 20 1", state(7, 20, ps{at(10, agg(3, 3, 1, 1)), at(20, one(1))}, rs{told(0, agg(3, 15, 0, 8), 2), told(10, agg(3, 3, 1, 1), 1)}, 0, 0)},
			{0, "e 8 0", state(8, 20, ps{at(10, agg(3, 3, 1, 1)), at(20, one(1))}, rs{told(0, agg(3, 15, 0, 8), 2), told(10, agg(3, 3, 1, 1), 1)}, 1, 0)},
		}},
		{"told and gone at the same record", plainConfig(0, 10), 1, []taken{
			{0, "e -3 1", state(1, -3, ps{at(-10, one(1))}, nil, 0, 0)},
			{0, "e 50 2", state(2, 50, ps{at(50, one(2))}, rs{told(-10, one(1), 1)}, 0, 0)},
			{0, "e 30 3", state(3, 50, ps{at(50, one(2))}, rs{told(-10, one(1), 1)}, 1, 0)},
			{0, "e 31 3", state(4, 50, ps{at(50, one(2))}, rs{told(-10, one(1), 1)}, 2, 0)},
			{0, "e 40 4", state(5, 50, ps{at(40, one(4)), at(50, one(2))}, rs{told(-10, one(1), 1), told(40, one(4), 1)}, 2, 0)},
		}},
		{"a Delay, no Late", plainConfig(5, 0), 1, []taken{
			{0, "e 3 1", state(1, -2, ps{at(0, one(1))}, nil, 0, 0)},
			{0, "e 14 2", state(2, 9, ps{at(0, one(1)), at(10, one(2))}, nil, 0, 0)},
			{0, "e 2 5", state(3, 9, ps{at(0, agg(2, 6, 1, 5)), at(10, one(2))}, nil, 0, 0)},
			{0, "e 15 3", state(4, 10, ps{at(10, agg(2, 5, 2, 3))}, rs{told(0, agg(2, 6, 1, 5), 1)}, 0, 0)},
			{0, "e 9 3", state(5, 10, ps{at(10, agg(2, 5, 2, 3))}, rs{told(0, agg(2, 6, 1, 5), 1)}, 1, 0)},
			{0, "e 10 3", state(6, 10, ps{at(10, agg(3, 8, 2, 3))}, rs{told(0, agg(2, 6, 1, 5), 1)}, 1, 0)},
		}},
		{"the longest Late", plainConfig(0, longest), 1, []taken{
			{0, "e 5 1", state(1, 5, ps{at(0, one(1))}, nil, 0, 0)},
			{0, "e 1009 2", state(2, 1009, ps{at(0, one(1)), at(1000, one(2))}, rs{told(0, one(1), 1)}, 0, 0)},
			{0, "e 6 3", state(3, 1009, ps{at(0, agg(2, 4, 1, 3)), at(1000, one(2))}, rs{told(0, agg(2, 4, 1, 3), 2)}, 0, 0)},
			{0, "e 1010 4", state(4, 1010, ps{at(1000, one(2)), at(1010, one(4))}, rs{told(0, agg(2, 4, 1, 3), 2), told(1000, one(2), 1)}, 0, 0)},
			{0, "e 7 5", state(5, 1010, ps{at(1000, one(2)), at(1010, one(4))}, rs{told(0, agg(2, 4, 1, 3), 2), told(1000, one(2), 1)}, 1, 0)},
		}},
		{"both ends of time", plainConfig(longest, 0), 1, []taken{
			{0, "e -100000 1", state(1, leastMark, ps{at(-latest, one(1))}, nil, 0, 0)},
			{0, "e 100000 2", state(2, 99000, ps{at(latest, one(2))}, rs{told(-latest, one(1), 1)}, 0, 0)},
			{0, "e -99999 3", state(3, 99000, ps{at(latest, one(2))}, rs{told(-latest, one(1), 1)}, 1, 0)},
		}},
	}
}

func otherCourses() []course {
	type ps = []impl.Pane
	type rs = []impl.Row
	noWins, noMasks := plainConfig(0, 0), plainConfig(0, 0)
	noWins.Wins, noMasks.Masks = nil, nil
	a23, a32 := agg(2, 3, 1, 2), agg(2, 30, -10, 40)
	return []course{
		{"parts of which nothing was read hold back all", plainConfig(0, 10), 2, []taken{
			{0, "e 50 1", states([]int{1, 0}, []int{50, noMark}, ps{at(50, one(1))}, nil, 0, 0)},
			{0, "e 160 2", states([]int{2, 0}, []int{160, noMark}, ps{at(50, one(1)), at(160, one(2))}, nil, 0, 0)},
			{1, "?", states([]int{2, 1}, []int{160, noMark}, ps{at(50, one(1)), at(160, one(2))}, nil, 0, 1)},
			{1, "e 55 3", states([]int{2, 2}, []int{160, 55}, ps{at(50, agg(2, 4, 1, 3)), at(160, one(2))}, nil, 0, 1)},
			{0, "e 170 0", states([]int{3, 2}, []int{170, 55}, ps{at(50, agg(2, 4, 1, 3)), at(160, one(2)), at(170, one(0))}, nil, 0, 1)},
			{1, "e 60 4", states([]int{3, 3}, []int{170, 60}, ps{at(50, agg(2, 4, 1, 3)), at(60, one(4)), at(160, one(2)), at(170, one(0))}, rs{told(50, agg(2, 4, 1, 3), 1)}, 0, 1)},
			{1, "e 39 1", states([]int{3, 4}, []int{170, 60}, ps{at(50, agg(2, 4, 1, 3)), at(60, one(4)), at(160, one(2)), at(170, one(0))}, rs{told(50, agg(2, 4, 1, 3), 1)}, 1, 1)},
			{0, "e 52 9", states([]int{4, 4}, []int{170, 60}, ps{at(50, agg(3, 13, 1, 9)), at(60, one(4)), at(160, one(2)), at(170, one(0))}, rs{told(50, agg(3, 13, 1, 9), 2)}, 1, 1)},
			{1, "e 165 5", states([]int{4, 5}, []int{170, 165}, ps{at(160, agg(2, 7, 2, 5)), at(170, one(0))}, rs{told(50, agg(3, 13, 1, 9), 2), told(60, one(4), 1)}, 1, 1)},
		}},
		{"several windows and masks", config(2, []impl.Win{win(10, 5)}, []int{3, 1, 0}, 5, 0), 1, []taken{
			{0, "e 7 1 2 40", state(1, 2, ps{
				pane(0, 0, 0, one(40), 1, 2), pane(0, 0, 5, one(40), 1, 2), pane(0, 1, 0, one(40), 1), pane(0, 1, 5, one(40), 1), pane(0, 2, 0, one(40)), pane(0, 2, 5, one(40)),
			}, nil, 0, 0)},
			{0, "e 12 1 3 -10", state(2, 7, ps{
				pane(0, 0, 0, one(40), 1, 2), pane(0, 0, 5, one(40), 1, 2), pane(0, 0, 5, one(-10), 1, 3), pane(0, 0, 10, one(-10), 1, 3),
				pane(0, 1, 0, one(40), 1), pane(0, 1, 5, a32, 1), pane(0, 1, 10, one(-10), 1), pane(0, 2, 0, one(40)), pane(0, 2, 5, a32), pane(0, 2, 10, one(-10)),
			}, nil, 0, 0)},
			{0, "e 15 2 2 0", state(3, 10, ps{
				pane(0, 0, 5, one(40), 1, 2), pane(0, 0, 5, one(-10), 1, 3), pane(0, 0, 10, one(-10), 1, 3), pane(0, 0, 10, one(0), 2, 2), pane(0, 0, 15, one(0), 2, 2),
				pane(0, 1, 5, a32, 1), pane(0, 1, 10, one(-10), 1), pane(0, 1, 10, one(0), 2), pane(0, 1, 15, one(0), 2), pane(0, 2, 5, a32), pane(0, 2, 10, agg(2, -10, -10, 0)), pane(0, 2, 15, one(0)),
			}, rs{row(0, 0, 0, one(40), 1, 1, 2), row(0, 1, 0, one(40), 1, 1), row(0, 2, 0, one(40), 1)}, 0, 0)},
			// Dropped in the window from 0 on, counted in the one from 5 on.
			{0, "e 9 1 2 5", state(4, 10, ps{
				pane(0, 0, 5, agg(2, 45, 5, 40), 1, 2), pane(0, 0, 5, one(-10), 1, 3), pane(0, 0, 10, one(-10), 1, 3), pane(0, 0, 10, one(0), 2, 2), pane(0, 0, 15, one(0), 2, 2),
				pane(0, 1, 5, agg(3, 35, -10, 40), 1), pane(0, 1, 10, one(-10), 1), pane(0, 1, 10, one(0), 2), pane(0, 1, 15, one(0), 2), pane(0, 2, 5, agg(3, 35, -10, 40)), pane(0, 2, 10, agg(2, -10, -10, 0)), pane(0, 2, 15, one(0)),
			}, rs{row(0, 0, 0, one(40), 1, 1, 2), row(0, 1, 0, one(40), 1, 1), row(0, 2, 0, one(40), 1)}, 1, 0)},
		}},
		{"two kinds of windows", config(0, []impl.Win{win(10, 10), win(3, 3)}, []int{0}, 0, 0), 1, []taken{
			{0, "e 1 1", state(1, 1, ps{pane(0, 0, 0, one(1)), pane(1, 0, 0, one(1))}, nil, 0, 0)},
			{0, "e 3 2", state(2, 3, ps{pane(0, 0, 0, a23), pane(1, 0, 3, one(2))}, rs{row(1, 0, 0, one(1), 1)}, 0, 0)},
			{0, "e 2 2", state(3, 3, ps{pane(0, 0, 0, agg(3, 5, 1, 2)), pane(1, 0, 3, one(2))}, rs{row(1, 0, 0, one(1), 1)}, 1, 0)},
			{0, "e 10 0", state(4, 10, ps{pane(0, 0, 10, one(0)), pane(1, 0, 9, one(0))}, rs{row(0, 0, 0, agg(3, 5, 1, 2), 1), row(1, 0, 0, one(1), 1), row(1, 0, 3, one(2), 1)}, 1, 0)},
			{0, "e 1 1", state(5, 10, ps{pane(0, 0, 10, one(0)), pane(1, 0, 9, one(0))}, rs{row(0, 0, 0, agg(3, 5, 1, 2), 1), row(1, 0, 0, one(1), 1), row(1, 0, 3, one(2), 1)}, 3, 0)},
		}},
		{"no Wins", noWins, 1, []taken{
			{0, "e 5 1", state(1, 5, nil, nil, 0, 0)}, {0, "e 900 1", state(2, 900, nil, nil, 0, 0)}, {0, "e 5 1", state(3, 900, nil, nil, 0, 0)}, {0, "", state(4, 900, nil, nil, 0, 1)},
		}},
		{"no Masks", noMasks, 1, []taken{
			{0, "e 5 1", state(1, 5, nil, nil, 0, 0)}, {0, "e 10 1", state(2, 10, nil, nil, 0, 0)}, {0, "e 9 1", state(3, 10, nil, nil, 1, 0)}, {0, "e 10 1", state(4, 10, nil, nil, 1, 0)},
		}},
	}
}

func TestTake(t *testing.T) {
	for _, x := range append(plainCourses(), otherCourses()...) {
		s := impl.Fresh(x.c, x.parts)
		for i, step := range x.steps {
			got, ok := impl.Take(x.c, s, step.part, step.rec)
			if !ok || !sameState(got, step.want) || !impl.StateOk(x.c, got) {
				t.Fatalf("%s, step %d, %q: %v, %v; want %v", x.name, i, step.rec, got, ok, step.want)
			}
			s = got
		}
	}
}

// A course of one part is what Fold makes of its records.
func TestFoldOfEachCourse(t *testing.T) {
	for _, x := range append(plainCourses(), otherCourses()...) {
		if x.parts > 1 {
			continue
		}
		p := impl.Part{}
		for _, step := range x.steps {
			p.Recs = append(p.Recs, step.rec)
		}
		for i, step := range x.steps {
			got, ok := impl.Fold(x.c, []impl.Part{p}, i+1)
			if !ok || !sameState(got, step.want) {
				t.Errorf("%s: Fold of %d = %v, %v; want %v", x.name, i+1, got, ok, step.want)
			}
			if rows := impl.TableOf(x.c, []impl.Part{p}, i+1); !sameRows(rows, step.want.Rows) {
				t.Errorf("%s: TableOf %d = %v; want %v", x.name, i+1, rows, step.want.Rows)
			}
		}
	}
}

// These states are StateOk, though no course leads to them: what Take makes of them is said all the same.
func TestTakeOfStatesOutOfCourse(t *testing.T) {
	type ps = []impl.Pane
	type rs = []impl.Row
	for _, x := range []struct {
		name string
		s    impl.State
		rec  string
		want impl.State
	}{
		{"a bad record tells nothing that is due", state(0, 90, ps{at(0, one(1)), at(80, one(2))}, nil, 0, 0), "?",
			state(1, 90, ps{at(0, one(1)), at(80, one(2))}, nil, 0, 1)},
		{"any event tells what is due, and lets it go", state(0, 90, ps{at(0, one(1)), at(80, one(2))}, nil, 0, 0), "e 5 1",
			state(1, 90, ps{at(80, one(2))}, rs{told(0, one(1), 1), told(80, one(2), 1)}, 1, 0)},
		{"a row without a pane: a new one has the new value alone", state(3, 10, nil, rs{told(0, agg(2, 5, 2, 3), 4)}, 0, 0), "e 5 1",
			state(4, 10, ps{at(0, one(1))}, rs{told(0, one(1), 5)}, 0, 0)},
		{"the same A as the row's is not told again", state(3, 10, nil, rs{told(0, one(1), 4)}, 0, 0), "e 5 1",
			state(4, 10, ps{at(0, one(1))}, rs{told(0, one(1), 4)}, 0, 0)},
		{"the same Sum alone is told again", state(3, 10, ps{at(0, one(1))}, rs{told(0, one(1), 4)}, 0, 0), "e 5 0",
			state(4, 10, ps{at(0, agg(2, 1, 0, 1))}, rs{told(0, agg(2, 1, 0, 1), 5)}, 0, 0)},
		{"rows stand where they did", state(3, 10, ps{at(0, one(1)), at(200, one(3))}, rs{told(-50, one(1), 4), told(300, one(2), 9)}, 0, 0), "e 20 0",
			state(4, 20, ps{at(20, one(0)), at(200, one(3))}, rs{told(-50, one(1), 4), told(0, one(1), 1), told(300, one(2), 9)}, 0, 0)},
		{"a mark far above what comes", state(23, latest, nil, nil, 7, 8), "e 0 0", state(24, latest, nil, nil, 8, 8)},
		{"the farthest panes", state(0, leastMark, ps{at(-farStart, one(1)), at(farStart, one(2))}, nil, 0, 0), "e -99999 1",
			state(1, -99999, ps{at(-latest, one(1)), at(farStart, one(2))}, rs{told(-farStart, one(1), 1)}, 0, 0)},
	} {
		got, ok := impl.Take(plainConfig(0, 10), x.s, 0, x.rec)
		if !ok || !sameState(got, x.want) {
			t.Errorf("%s: %v, %v; want %v", x.name, got, ok, x.want)
		}
	}
}

func TestNothingIsEverDueAtNoMark(t *testing.T) {
	c := config(0, []impl.Win{win(1, 1), win(widest, 5000)}, []int{0}, 0, 0)
	s := states([]int{0, 0}, []int{noMark, noMark}, []impl.Pane{pane(0, 0, -farStart, one(1)), pane(1, 0, -farStart, one(2))}, nil, 0, 0)
	got := take(t, c, s, 0, "e -100000 3")
	if len(got.Rows) != 0 || got.Drops != 0 || len(got.Panes) != 7 || !slices.Equal(got.Marks, []int{-latest, noMark}) {
		t.Errorf("Take of a part's first record = %v", got)
	}
	got = take(t, c, got, 1, "e -100000 3")
	if len(got.Rows) != 2 || got.Drops != 0 || len(got.Panes) != 5 {
		t.Errorf("Take behind which each part has a mark = %v", got)
	}
}

func TestTakeAtAndBeyondLimits(t *testing.T) {
	type ps = []impl.Pane
	type rs = []impl.Row
	full, least := agg(most, 5*most, 5, 5), agg(most-1, 5*(most-1), 5, 5)
	for _, x := range []struct {
		name string
		late int
		s    impl.State
		rec  string
		want impl.State
	}{
		{"Offs", 0, state(23, noMark, nil, nil, 0, 0), "?", state(24, noMark, nil, nil, 0, 1)},
		{"Offs", 0, state(24, noMark, nil, nil, 0, 0), "?", impl.State{}},
		{"Offs", 0, state(24, noMark, nil, nil, 0, 0), "e 1 1", impl.State{}},
		{"Bad", 0, state(0, 5, nil, nil, 0, 99999), "?", state(1, 5, nil, nil, 0, 100000)},
		{"Bad", 0, state(0, 5, nil, nil, 0, 100000), "?", impl.State{}},
		{"Bad stays", 0, state(0, 5, nil, nil, 0, 100000), "e 6 1", state(1, 6, ps{at(0, one(1))}, nil, 0, 100000)},
		{"Drops", 0, state(0, 50, nil, nil, 99999, 0), "e 6 1", state(1, 50, nil, nil, 100000, 0)},
		{"Drops", 0, state(0, 50, nil, nil, 100000, 0), "e 6 1", impl.State{}},
		{"Drops stay", 0, state(0, 50, nil, nil, 100000, 0), "e 50 1", state(1, 50, ps{at(50, one(1))}, nil, 100000, 0)},
		{"Drops stay", 0, state(0, 50, nil, nil, 100000, 0), "?", state(1, 50, nil, nil, 100000, 1)},
		{"a join", 0, state(0, 0, ps{at(0, least)}, nil, 0, 0), "e 6 5", state(1, 6, ps{at(0, full)}, nil, 0, 0)},
		{"a join", 0, state(0, 0, ps{at(0, full)}, nil, 0, 0), "e 6 5", impl.State{}},
		{"a full pane of another window", 0, state(0, 0, ps{at(0, full)}, nil, 0, 0), "e 10 5", state(1, 10, ps{at(10, one(5))}, rs{told(0, full, 1)}, 0, 0)},
		{"a full pane that is over", 0, state(0, 50, ps{at(0, full)}, nil, 0, 0), "e 6 5", state(1, 50, nil, rs{told(0, full, 1)}, 1, 0)},
		{"Times", 10, state(0, 10, ps{at(0, one(5))}, rs{told(0, one(5), 999)}, 0, 0), "e 6 5", state(1, 10, ps{at(0, agg(2, 10, 5, 5))}, rs{told(0, agg(2, 10, 5, 5), 1000)}, 0, 0)},
		{"Times", 10, state(0, 10, ps{at(0, one(5))}, rs{told(0, one(5), 1000)}, 0, 0), "e 6 5", impl.State{}},
		{"Times", 0, state(0, 0, ps{at(0, one(5))}, rs{told(0, one(6), 1000)}, 0, 0), "e 10 5", impl.State{}},
		{"Times of one that is not due", 0, state(0, 0, ps{at(0, one(5))}, rs{told(0, one(6), 1000)}, 0, 0), "e 9 5", state(1, 9, ps{at(0, agg(2, 10, 5, 5))}, rs{told(0, one(6), 1000)}, 0, 0)},
		{"Times of one that has not changed", 10, state(0, 0, ps{at(0, one(5))}, rs{told(0, one(5), 1000)}, 0, 0), "e 10 5", state(1, 10, ps{at(0, one(5)), at(10, one(5))}, rs{told(0, one(5), 1000)}, 0, 0)},
		{"Times of one that has no pane", 0, state(0, 0, nil, rs{told(0, one(5), 1000)}, 0, 0), "e 10 5", state(1, 10, ps{at(10, one(5))}, rs{told(0, one(5), 1000)}, 0, 0)},
		{"Times where a record is bad", 0, state(0, 50, ps{at(0, one(5))}, rs{told(0, one(6), 1000)}, 0, 0), "?", state(1, 50, ps{at(0, one(5))}, rs{told(0, one(6), 1000)}, 0, 1)},
	} {
		c := plainConfig(0, x.late)
		if len(x.want.Offs) == 0 {
			refusesTake(t, c, x.s, 0, x.rec)
			continue
		}
		if got, ok := impl.Take(c, x.s, 0, x.rec); !ok || !sameState(got, x.want) {
			t.Errorf("%s: Take(%v, %q) = %v, %v; want %v", x.name, x.s, x.rec, got, ok, x.want)
		}
	}
}

// One event may be dropped in several windows, and be joined to several panes: one that passes a limit is enough.
func TestTakeIsFalseWhereOneOfManyPassesALimit(t *testing.T) {
	c := config(1, []impl.Win{win(12, 1), win(24, 2), win(60, 5)}, []int{1, 0}, 0, 0)
	for before, ok := range map[int]bool{mostTallied - 37: true, mostTallied - 36: true, mostTallied - 35: false, mostTallied - 1: false, mostTallied: false} {
		s := state(0, latest, nil, nil, before, 0)
		if !ok {
			refusesTake(t, c, s, 0, "e 0 7 1")
		} else if got := take(t, c, s, 0, "e 0 7 1"); got.Drops != before+36 {
			t.Errorf("Take of an event dropped 36 times: %d Drops behind %d", got.Drops, before)
		}
	}
	s := take(t, c, impl.Fresh(c, 1), 0, "e 0 7 1")
	if len(s.Panes) != 72 {
		t.Fatalf("an event is in %d panes", len(s.Panes))
	}
	for i := range s.Panes {
		full := copyState(s)
		full.Panes[i].A = agg(most, most, 1, 1)
		refusesTake(t, c, full, 0, "e 0 7 1")
		full.Panes[i].A = agg(most-1, most-1, 1, 1)
		take(t, c, full, 0, "e 0 7 1")
		often := copyState(s)
		often.Rows = rowsOf(s.Panes)
		often.Rows[i].A, often.Rows[i].Times = one(2), most
		refusesTake(t, c, often, 0, "e 90 7 1")
		often.Rows[i].Times = most - 1
		take(t, c, often, 0, "e 90 7 1")
	}
}

func TestTakeOfRecordsThatAreNoEvents(t *testing.T) {
	for _, c := range operatorConfigs() {
		s := impl.Fresh(c, 3)
		logs := mixedLogs(c, 5, 9, 9, 9)
		for i := range 9 {
			for part := range 3 {
				s = take(t, c, s, part, logs[part].Recs[i])
			}
		}
		for _, rec := range append(noEvents(c.Dims), strings.Repeat("e 1 ", 100000)) {
			want := copyState(s)
			want.Offs[1]++
			want.Bad++
			if got, ok := impl.Take(c, s, 1, rec); !ok || !sameState(got, want) {
				t.Fatalf("Take(%v, %.40q) = %.300v, %v; want %.300v", c, rec, fmt.Sprint(got), ok, fmt.Sprint(want))
			}
		}
	}
}

// turns tells some order of the records of logs in which those of each part are in theirs.
func turns(logs []impl.Part, seed int) []int {
	list := []int{}
	for i, p := range logs {
		list = append(list, filled(len(p.Recs), i)...)
	}
	for i, n := range mixed(len(list), seed) {
		j := (n + bound) % (i + 1)
		list[i], list[j] = list[j], list[i]
	}
	return list
}

func TestTakeInAnyOrderOfTheParts(t *testing.T) {
	rows, drops, bad := 0, 0, 0
	for i, c := range operatorConfigs() {
		for seed, counts := range [][]int{{24}, {24, 24}, {5, 24, 11}, {24, 24, 24}, {0, 7}} {
			logs := mixedLogs(c, i+3*seed, counts...)
			got := impl.Fresh(c, len(logs))
			want := copyState(got)
			for _, at := range orderOf(turns(logs, seed)...) {
				rec := logs[at.Part].Recs[at.Rec]
				got, want = take(t, c, got, at.Part, rec), takeByHand(c, want, at.Part, rec)
				if !sameState(got, want) || !impl.StateOk(c, got) {
					t.Fatalf("Take(%v, %q) = %.500v; want %.500v", c, rec, fmt.Sprint(got), fmt.Sprint(want))
				}
			}
			rows, drops, bad = rows+len(got.Rows), drops+got.Drops, bad+got.Bad
		}
	}
	if rows < 1000 || drops < 100 || bad < 100 {
		t.Errorf("the logs are too dull: %d rows, %d drops, %d bad", rows, drops, bad)
	}
}

func TestFoldIsTakeOfOneRecordMore(t *testing.T) {
	for i, c := range operatorConfigs() {
		for seed, counts := range [][]int{{24}, {9, 4}, {3, 8, 11}} {
			logs := mixedLogs(c, i+5*seed, counts...)
			want := impl.Fresh(c, len(logs))
			for n, at := range orderByHand(c, logs) {
				if got, ok := impl.Fold(c, logs, n); !ok || !sameState(got, want) {
					t.Fatalf("Fold(%v, %d) = %.500v, %v; want %.500v", c, n, fmt.Sprint(got), ok, fmt.Sprint(want))
				}
				if rows := impl.TableOf(c, logs, n); !sameRows(rows, want.Rows) {
					t.Fatalf("TableOf(%v, %d) = %v; want %v", c, n, rows, want.Rows)
				}
				want = take(t, c, want, at.Part, logs[at.Part].Recs[at.Rec])
			}
			if got, ok := impl.Fold(c, logs, countRecs(logs)); !ok || !sameState(got, want) {
				t.Fatalf("Fold(%v) of all = %.500v, %v; want %.500v", c, fmt.Sprint(got), ok, fmt.Sprint(want))
			}
		}
	}
}

func TestFoldOfNumbersBelowNoneAndPastAll(t *testing.T) {
	for _, c := range operatorConfigs() {
		for _, logs := range append(acceptedLogs(), mixedLogs(c, 4, 6, 7), mixedLogs(c, 5, 24, 24, 24)) {
			all := countRecs(logs)
			none, whole := impl.Fresh(c, len(logs)), impl.Fresh(c, len(logs))
			for _, at := range orderByHand(c, logs) {
				whole = takeByHand(c, whole, at.Part, logs[at.Part].Recs[at.Rec])
			}
			for _, n := range append(farNumbers(), -2, -1, 0, all, all+1, all+2) {
				want := none
				if n >= all {
					want = whole
				} else if n > 0 {
					continue
				}
				got, ok := impl.Fold(c, logs, n)
				if !ok || !sameState(got, want) {
					t.Fatalf("Fold(%v, %d) of %d = %.300v, %v; want %.300v", c, n, all, fmt.Sprint(got), ok, fmt.Sprint(want))
				}
				if rows := impl.TableOf(c, logs, n); !sameRows(rows, want.Rows) {
					t.Fatalf("TableOf(%v, %d) of %d = %.300v; want %.300v", c, n, all, fmt.Sprint(rows), fmt.Sprint(want.Rows))
				}
			}
		}
	}
}

// Offs and the mark of a Fold are what the merge says of as many records.
func TestFoldKeepsToTheMerge(t *testing.T) {
	for _, c := range operatorConfigs() {
		for _, logs := range mergeLogs(c)[:40] {
			for n := 0; n <= countRecs(logs); n += 5 {
				s, ok := impl.Fold(c, logs, n)
				if !ok || !slices.Equal(s.Offs, impl.Offsets(c, logs, n)) || impl.Lowest(s.Marks) != impl.MarkAt(c, logs, n) {
					t.Fatalf("Fold(%v, %d) has Offs %v and Marks %v, %v", c, n, s.Offs, s.Marks, ok)
				}
			}
		}
	}
}

func TestClosing(t *testing.T) {
	type ps = []impl.Pane
	type rs = []impl.Row
	for _, x := range []struct {
		name string
		s    impl.State
		want []impl.Row
	}{
		{"nothing came", state(0, noMark, nil, nil, 0, 0), nil},
		{"rows alone", state(9, 7, nil, rs{told(0, one(1), 3), told(10, one(2), 1)}, 5, 6), rs{told(0, one(1), 3), told(10, one(2), 1)}},
		{"panes alone", state(9, 7, ps{at(0, one(1)), at(10, one(2))}, nil, 5, 6), rs{told(0, one(1), 1), told(10, one(2), 1)}},
		{"a pane that is told already", state(9, 7, ps{at(0, one(1))}, rs{told(0, one(1), 3)}, 0, 0), rs{told(0, one(1), 3)}},
		{"a pane that has changed", state(9, 7, ps{at(0, agg(2, 1, 0, 1))}, rs{told(0, one(1), 3)}, 0, 0), rs{told(0, agg(2, 1, 0, 1), 4)}},
		{"panes ahead of rows, between them and behind them", state(9, 7, ps{at(-30, one(4)), at(0, one(5)), at(30, one(6))}, rs{told(-10, one(1), 3), told(0, one(2), 4), told(10, one(3), 5)}, 0, 0),
			rs{told(-30, one(4), 1), told(-10, one(1), 3), told(0, one(5), 5), told(10, one(3), 5), told(30, one(6), 1)}},
		{"parts of which nothing was read", states([]int{0, 3}, []int{noMark, 9}, ps{at(0, one(1))}, nil, 0, 0), rs{told(0, one(1), 1)}},
		{"the last window that there may be", state(9, latest, ps{at(latest, one(1)), at(farStart, one(2))}, nil, 0, 0), rs{told(latest, one(1), 1), told(farStart, one(2), 1)}},
		{"Times at their limit", state(9, 7, ps{at(0, one(1)), at(10, one(2))}, rs{told(0, one(1), 1000), told(10, one(1), 999)}, 0, 0), rs{told(0, one(1), 1000), told(10, one(2), 1000)}},
		// The document names no limit here: the row that the pane would have is told once more.
		{"Times beyond their limit", state(9, 7, ps{at(0, one(1)), at(10, one(2))}, rs{told(0, one(2), 1000)}, 0, 0), rs{told(0, one(1), 1001), told(10, one(2), 1)}},
	} {
		for _, late := range []int{0, 10, longest} {
			if got := impl.Closing(plainConfig(5, late), x.s); !sameRows(got, x.want) {
				t.Errorf("%s: Closing(%v) = %v; want %v", x.name, x.s, got, x.want)
			}
		}
	}
}

func TestClosingOfEachFold(t *testing.T) {
	for i, c := range operatorConfigs() {
		for seed, counts := range [][]int{{24}, {9, 4}, {24, 24, 24}} {
			logs := mixedLogs(c, i+7*seed, counts...)
			for n := 0; n <= countRecs(logs); n += 3 {
				s, ok := impl.Fold(c, logs, n)
				want := tellByHand(copyRows(s.Rows), s.Panes)
				if got := impl.Closing(c, s); !ok || !sameRows(got, want) {
					t.Fatalf("Closing(%v) behind %d records = %.300v; want %.300v", c, n, fmt.Sprint(got), fmt.Sprint(want))
				}
			}
		}
	}
}

// Where nothing is dropped, at the closing all is told, in whatever order it came.
func TestAtTheClosingAllIsTold(t *testing.T) {
	dropped := 0
	for i, c := range operatorConfigs() {
		c.Late = longest
		logs := mixedLogs(c, 3*i+1, 24, 20, 16)
		events := []impl.Event{}
		for _, p := range logs {
			for _, rec := range p.Recs {
				if e, ok := readByForm(c.Dims, rec); ok {
					events = append(events, e)
				}
			}
		}
		want := panesByHand(t, c, events)
		for seed := range 5 {
			s := impl.Fresh(c, len(logs))
			for _, at := range orderOf(turns(logs, seed)...) {
				s = take(t, c, s, at.Part, logs[at.Part].Recs[at.Rec])
			}
			if s.Drops > 0 {
				dropped++
				continue
			}
			got := []impl.Pane{}
			for _, r := range impl.Closing(c, s) {
				got = append(got, paneOf(r))
			}
			if !samePanes(got, want) {
				t.Fatalf("at the closing of %v: %.300v; want %.300v", c, fmt.Sprint(got), fmt.Sprint(want))
			}
		}
	}
	if dropped > 0 {
		t.Errorf("%d of the logs drop something", dropped)
	}
}

func TestTheOperatorRefusesStatesThatAreNotStateOk(t *testing.T) {
	event := "e 5 1 2 3 40"
	for _, s := range acceptedStates() {
		if got := impl.Closing(cubeConfig(), s); len(got) < max(len(s.Rows), len(s.Panes)) {
			t.Errorf("Closing(%v) = %v", s, got)
		}
	}
	for _, s := range refusedStates() {
		for _, rec := range []string{event, "?"} {
			for part := -1; part <= len(s.Offs); part++ {
				refusesTake(t, cubeConfig(), s, part, rec)
			}
		}
		if got := impl.Closing(cubeConfig(), s); len(got) != 0 {
			t.Errorf("Closing(%v) = %v; want nothing", s, got)
		}
	}
}

func TestTakeRefusesPartsThatThereAreNot(t *testing.T) {
	for parts := 1; parts <= impl.MaxParts; parts++ {
		for _, c := range acceptedConfigs() {
			event := wordsOf(event(5, 1, filled(c.Dims, 1)...))
			for _, part := range append(farNumbers(), -1, -2, -parts, parts, parts+1, impl.MaxParts) {
				refusesTake(t, c, impl.Fresh(c, parts), part, event)
				refusesTake(t, c, impl.Fresh(c, parts), part, "?")
			}
			for part := range parts {
				if got := take(t, c, impl.Fresh(c, parts), part, event); got.Offs[part] != 1 || got.Marks[part] != 5-c.Delay {
					t.Errorf("Take of part %d of %d = %v", part, parts, got)
				}
			}
		}
	}
}

func TestTheOperatorRefusesAConfigThatIsNotConfigOk(t *testing.T) {
	for _, c := range refusedConfigs() {
		for _, s := range []impl.State{impl.Fresh(c, 1), impl.Fresh(c, 3), soundState(), {Offs: []int{1}, Marks: []int{5}, Rows: []impl.Row{told(0, one(7), 1)}}} {
			for _, rec := range []string{"?", "e 5 1", "e 5 1 1", "e 5 1 1 1 1"} {
				refusesTake(t, c, s, 0, rec)
			}
			if got := impl.Closing(c, s); len(got) != 0 {
				t.Errorf("Closing(%v, %v) = %v; want nothing", c, s, got)
			}
		}
		for dims := range 5 {
			refusesFold(t, c, eventLogs(dims, 2))
		}
	}
}

func refusesFold(t *testing.T, c impl.Config, logs []impl.Part) {
	t.Helper()
	for _, n := range append(farNumbers(), -1, 0, 1, 2, 24, 25) {
		if got, ok := impl.Fold(c, logs, n); ok || !reflect.ValueOf(got).IsZero() {
			t.Errorf("Fold(%v, %d) of %d parts = %v, %v; want nothing, false", c, n, len(logs), got, ok)
		}
		if got := impl.TableOf(c, logs, n); len(got) != 0 {
			t.Errorf("TableOf(%v, %d) of %d parts = %v; want nothing", c, n, len(logs), got)
		}
	}
}

func TestFoldRefusesLogsThatAreNotLogsOk(t *testing.T) {
	for _, c := range operatorConfigs() {
		for _, logs := range append(refusedLogs(), eventLogs(c.Dims, 1, 1, 1, 1), eventLogs(c.Dims, 25), eventLogs(c.Dims, 1, 1, 25)) {
			refusesFold(t, c, logs)
		}
	}
}

// roomyState is soundState with spare room behind each of its lists, and all these lists with their room.
func roomyState() (impl.State, []any) {
	s := soundState()
	rooms := [][]int{append(s.Offs, 77, 78), append(s.Marks, 79, 80)}
	s.Offs, s.Marks = rooms[0][:2], rooms[1][:2]
	roomy := func(key []int) []int {
		room := append(slices.Clone(key), 81, 82)
		rooms = append(rooms, room)
		return room[:len(key)]
	}
	for i := range s.Panes {
		s.Panes[i].Key, s.Rows[i].Key = roomy(s.Panes[i].Key), roomy(s.Rows[i].Key)
	}
	panes, rows := append(s.Panes, at(0, one(7))), append(s.Rows, told(0, one(7), 1))
	s.Panes, s.Rows = panes[:len(s.Panes)], rows[:len(s.Rows)]
	return s, []any{rooms, panes, rows}
}

func TestTheOperatorLeavesItsArguments(t *testing.T) {
	c := cubeConfig()
	s, behind := roomyState()
	before := fmt.Sprint(behind)
	for _, x := range []struct {
		part int
		rec  string
	}{{0, "e 5 1 2 3 40"}, {1, "e 90 1 2 3 40"}, {0, "?"}, {1, "e -90000 99 99 99 7"}, {0, "e -200 0 0 0 5"}} {
		want := takeByHand(c, soundState(), x.part, x.rec)
		if got, ok := impl.Take(c, s, x.part, x.rec); !ok || !sameState(got, want) {
			t.Errorf("Take(%q) = %v, %v; want %v", x.rec, got, ok, want)
		}
		refusesTake(t, c, s, 2, x.rec)
	}
	if got, want := impl.Closing(c, s), rowsOf(soundPanes()); !sameRows(got, want) {
		t.Errorf("Closing = %v; want %v", got, want)
	}
	if !sameState(s, soundState()) || fmt.Sprint(behind) != before {
		t.Errorf("the operator writes into its argument: %v", s)
	}
	if !reflect.DeepEqual(c, cubeConfig()) {
		t.Errorf("the operator writes into its config: %v", c)
	}
}

func TestFoldLeavesItsArguments(t *testing.T) {
	c := plainConfig(0, 10)
	recs := []string{"e 3 1", "e 12 2", "e 4 5"}
	room := []impl.Part{part(recs[:2]...), moments(1, 2, 3)}
	want := state(2, 12, []impl.Pane{at(0, one(1)), at(10, one(2))}, []impl.Row{told(0, one(1), 1)}, 0, 0)
	if got, ok := impl.Fold(c, room[:1], 9); !ok || !sameState(got, want) {
		t.Errorf("Fold reads what lies behind a list: %v", got)
	}
	if got := impl.TableOf(c, room[:1], 9); !sameRows(got, want.Rows) {
		t.Errorf("TableOf reads what lies behind a list: %v", got)
	}
	if !slices.Equal(recs, []string{"e 3 1", "e 12 2", "e 4 5"}) || !slices.Equal(room[1].Recs, moments(1, 2, 3).Recs) {
		t.Errorf("Fold writes into its logs: %q", room)
	}
}

// scribble writes over all that a state holds, and into the room behind each list.
func scribble(s impl.State) {
	for _, list := range [][]int{s.Offs, s.Marks} {
		scribbleNumbers(list)
	}
	for i := range s.Panes {
		scribbleNumbers(s.Panes[i].Key)
		s.Panes[i] = impl.Pane{Win: 91, Start: 92}
	}
	scribbleRows(s.Rows)
	_ = append(s.Panes, impl.Pane{Win: 94})
}

func scribbleRows(rows []impl.Row) {
	for i := range rows {
		scribbleNumbers(rows[i].Key)
		rows[i] = impl.Row{Win: 95, Times: 96}
	}
	_ = append(rows, impl.Row{Win: 97})
}

func scribbleNumbers(list []int) {
	for i := range list {
		list[i] = 98
	}
	_ = append(list, 99)
}

func TestWhatTheOperatorTellsIsNewMemory(t *testing.T) {
	c := cubeConfig()
	logs := mixedLogs(c, 8, 10, 10)
	s := soundState()
	for _, tells := range []func() impl.State{
		func() impl.State { return impl.Fresh(c, 3) },
		func() impl.State { return take(t, c, s, 0, "?") },
		func() impl.State { return take(t, c, s, 0, "e 5 1 2 3 40") },
		func() impl.State { return take(t, c, s, 1, "e 90 1 2 3 40") },
		func() impl.State { got, _ := impl.Fold(c, logs, 15); return got },
		func() impl.State { return impl.State{Rows: impl.TableOf(c, logs, 15)} },
		func() impl.State { return impl.State{Rows: impl.Closing(c, s)} },
	} {
		want := copyState(tells())
		scribble(tells())
		if got := tells(); !sameState(got, want) || !sameState(s, soundState()) {
			t.Fatalf("the operator tells what was written into an earlier answer: %v; want %v", got, want)
		}
	}
}

// No two lists of one answer share memory: what is written into one is not seen in another.
func TestListsOfAStateAreApart(t *testing.T) {
	c := cubeConfig()
	logs := mixedLogs(c, 8, 24, 24)
	answers := []impl.State{impl.Fresh(c, 3), take(t, c, soundState(), 0, "e 5 1 2 3 40"), take(t, c, soundState(), 0, "?"), {Rows: impl.Closing(c, soundState())}}
	folded, _ := impl.Fold(c, logs, 40)
	for _, s := range append(answers, folded) {
		lists := append(slices.Clone(s.Panes), impl.Pane{Key: s.Offs}, impl.Pane{Key: s.Marks})
		for _, r := range s.Rows {
			lists = append(lists, paneOf(r))
		}
		keysApart(t, lists)
	}
}
