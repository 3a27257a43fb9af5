package tests

import (
	"fmt"
	"math"
	"slices"
	"strconv"
	"strings"
	"testing"

	"loop.example/g00552/impl"
)

const noMark = impl.NoMark

func part(recs ...string) impl.Part {
	return impl.Part{Recs: recs}
}

// moments tells a part of events without Dims, one at each moment.
func moments(list ...int) impl.Part {
	p := impl.Part{}
	for _, at := range list {
		p.Recs = append(p.Recs, fmt.Sprintf("e %d 1", at))
	}
	return p
}

// orderOf tells the places of records from the numbers of their parts alone: those of one part are in their order.
func orderOf(parts ...int) []impl.Pos {
	order := []impl.Pos{}
	read := map[int]int{}
	for _, part := range parts {
		order = append(order, impl.Pos{Part: part, Rec: read[part]})
		read[part]++
	}
	return order
}

// noEvents holds records of which EventRead takes none, with this number of Dims.
func noEvents(dims int) []string {
	list := []string{"", "?", "e", "e 1", "E 1 1", "e 7 1 ", " e 7 1", "e 07 1", "e 7 1\n", "\xff", strings.Repeat("9", impl.MaxRec)}
	for _, e := range refusedEvents(dims) {
		list = append(list, wordsOf(e))
	}
	for other := range 2 * impl.MaxDims {
		if other != dims {
			list = append(list, wordsOf(event(latest, 1, filled(other, 1)...)))
		}
	}
	return list
}

// markByHand tells the mark of records without the program.
func markByHand(c impl.Config, recs []string) int {
	moments := []int{}
	for _, rec := range recs {
		if e, ok := readByForm(c.Dims, rec); ok {
			moments = append(moments, e.At)
		}
	}
	if len(moments) == 0 {
		return -200000
	}
	slices.Sort(moments)
	return moments[len(moments)-1] - c.Delay
}

// orderByHand looks through all parts for each record. It goes down their numbers, so that the least of those that are alike is the last to be found.
func orderByHand(c impl.Config, logs []impl.Part) []impl.Pos {
	order := []impl.Pos{}
	read := make([]int, len(logs))
	for {
		next, least := -1, math.MaxInt
		for i := len(logs) - 1; i >= 0; i-- {
			mark := markByHand(c, logs[i].Recs[:read[i]])
			if read[i] < len(logs[i].Recs) && mark <= least {
				next, least = i, mark
			}
		}
		if next < 0 {
			return order
		}
		order = append(order, impl.Pos{Part: next, Rec: read[next]})
		read[next]++
	}
}

func offsetsByHand(order []impl.Pos, parts int) []int {
	offs := make([]int, parts)
	for _, at := range order {
		offs[at.Part]++
	}
	return offs
}

func markAtByHand(c impl.Config, logs []impl.Part, offs []int) int {
	least := math.MaxInt
	for i, off := range offs {
		least = min(least, markByHand(c, logs[i].Recs[:off]))
	}
	return least
}

// mixedLogs tells parts of events whose moments mostly rise, or do not, with records between that are no events.
func mixedLogs(c impl.Config, seed int, counts ...int) []impl.Part {
	none := noEvents(c.Dims)
	none = slices.DeleteFunc(none, func(rec string) bool { return len(rec) > impl.MaxRec })
	list := []impl.Part{}
	for i, n := range counts {
		p := impl.Part{}
		for j, e := range mixedEvents(c, n, seed+31*i) {
			if seed%3 > 0 {
				e.At = 6*j + e.At%40
			}
			rec := wordsOf(e)
			if pick := e.Val + bound; pick%4 == 0 {
				rec = none[pick%len(none)]
			}
			p.Recs = append(p.Recs, rec)
		}
		list = append(list, p)
	}
	return list
}

// mergeConfigs holds a config of each number of Dims, with each kind of Delay.
func mergeConfigs() []impl.Config {
	wins := []impl.Win{win(10, 5), win(30, 15)}
	return []impl.Config{{}, config(0, wins, []int{0}, longest, 4), config(1, nil, nil, 5, longest), config(2, wins, []int{3, 1}, 0, 0), config(3, wins, []int{7}, longest, 0)}
}

// mergeLogs holds logs of one, two and three parts, empty ones and full ones among them.
func mergeLogs(c impl.Config) [][]impl.Part {
	const full = impl.MaxRecs
	list := acceptedLogs()
	for seed, counts := range [][]int{
		{0}, {1}, {7}, {full}, {0, 0}, {0, 5}, {5, 0}, {1, 1}, {12, 9}, {full, full}, {1, full}, {full, 1},
		{0, 0, 0}, {0, 0, 4}, {0, 4, 0}, {4, 0, 0}, {1, 1, 1}, {6, 7, 8}, {full, 1, 0}, {0, full, full}, {3, full, 11}, {full, full, full},
	} {
		for again := range 3 {
			list = append(list, mixedLogs(c, 7*seed+again, counts...))
		}
	}
	return list
}

func countRecs(logs []impl.Part) int {
	n := 0
	for _, p := range logs {
		n += len(p.Recs)
	}
	return n
}

// clamp brings n to a number of records that there are.
func clamp(n, all int) int {
	switch {
	case n < 0:
		return 0
	case n > all:
		return all
	}
	return n
}

// countsAbout holds each number from a little below 0 to a little above all, and some far away.
func countsAbout(all int) []int {
	list := farNumbers()
	for n := -3; n <= all+3; n++ {
		list = append(list, n)
	}
	return list
}

func refusesLogs(t *testing.T, c impl.Config, logs []impl.Part) {
	t.Helper()
	if got := impl.MergeOrder(c, logs); len(got) != 0 {
		t.Errorf("MergeOrder(%v) of %d parts = %v; want nothing", c, len(logs), got)
	}
	for _, n := range []int{math.MinInt, -1, 0, 1, 2, 24, 25, math.MaxInt} {
		if got := impl.Offsets(c, logs, n); len(got) != 0 {
			t.Errorf("Offsets(%v) of %d parts, %d = %v; want nothing", c, len(logs), n, got)
		}
		if got := impl.MarkAt(c, logs, n); got != noMark {
			t.Errorf("MarkAt(%v) of %d parts, %d = %d; want NoMark", c, len(logs), n, got)
		}
	}
}

func TestNoMarkIsBelowEachMark(t *testing.T) {
	if noMark != -200000 {
		t.Errorf("NoMark is %d", noMark)
	}
	c := config(0, nil, nil, longest, 0)
	if got := impl.MarkOf(c, moments(-latest), 1); got != -101000 || got <= noMark {
		t.Errorf("the least mark of an event is %d", got)
	}
}

func TestMarkOf(t *testing.T) {
	for _, x := range []struct {
		delay int
		p     impl.Part
		n     int
		want  int
	}{
		{5, moments(10), 1, 5},
		{5, moments(10, 20), 1, 5},
		{5, moments(10, 20), 2, 15},
		{5, moments(20, 10), 2, 15},
		{5, moments(20, 10, 30), 2, 15},
		{5, moments(20, 10, 30), 3, 25},
		{5, moments(20, 20), 2, 15},
		{5, moments(-20, -30), 2, -25},
		{5, moments(3), 1, -2},
		{0, moments(0), 1, 0},
		{0, moments(-7, -7, -9), 3, -7},
		{0, moments(latest), 1, latest},
		{0, moments(-latest), 1, -latest},
		{longest, moments(latest, -latest), 2, 99000},
		{longest, moments(-latest), 1, -101000},
		{longest, moments(-latest, latest), 2, 99000},
		{longest, moments(7), 1, -993},
		{5, part("?", "e 10 1"), 1, noMark},
		{5, part("?", "e 10 1"), 2, 5},
		{5, part("e 10 1", "?"), 2, 5},
		{5, part("e 10 1", "e 90 1 1", "e 90", "e 100001 1", "e 90 1 "), 5, 5},
		{5, part("?", "", "e 1 2 3"), 3, noMark},
		{5, part(), 0, noMark},
		{5, part(), 1, noMark},
	} {
		c := config(0, nil, nil, x.delay, 0)
		if got := impl.MarkOf(c, x.p, x.n); got != x.want {
			t.Errorf("MarkOf with Delay %d of %q, %d = %d; want %d", x.delay, x.p.Recs, x.n, got, x.want)
		}
	}
}

func TestMarkOfEachNumberOfRecords(t *testing.T) {
	for _, c := range mergeConfigs() {
		for _, logs := range mergeLogs(c) {
			for _, p := range logs {
				for _, n := range countsAbout(len(p.Recs)) {
					want := markByHand(c, p.Recs[:clamp(n, len(p.Recs))])
					if got := impl.MarkOf(c, p, n); got != want {
						t.Fatalf("MarkOf(%v, %q, %d) = %d; want %d", c, p.Recs, n, got, want)
					}
				}
			}
		}
	}
}

func TestMarkOfRecordsThatAreNoEvents(t *testing.T) {
	for _, c := range acceptedConfigs() {
		none := noEvents(c.Dims)
		if got := impl.MarkOf(c, part(none...), len(none)); got != noMark {
			t.Errorf("MarkOf(%v) of no events = %d", c, got)
		}
		for _, rec := range none {
			recs := []string{rec, wordsOf(event(-9, 1, filled(c.Dims, 1)...)), rec}
			for n, want := range []int{noMark, noMark, -9 - c.Delay, -9 - c.Delay} {
				if got := impl.MarkOf(c, part(recs...), n); got != want {
					t.Errorf("MarkOf(%v, %q, %d) = %d; want %d", c, recs, n, got, want)
				}
			}
		}
	}
}

// MarkOf asks for no logs that are LogsOk.
func TestMarkOfMoreRecordsThanAPartMayHave(t *testing.T) {
	long := strings.Repeat("1", impl.MaxRec)
	recs := []string{}
	for i := range 10 * impl.MaxRecs {
		recs = append(recs, "e "+strconv.Itoa(i)+" 1", "e "+long+" 1")
	}
	c := config(0, nil, nil, 7, 0)
	for n := 1; n <= len(recs); n++ {
		if got, want := impl.MarkOf(c, part(recs...), n), (n-1)/2-7; got != want {
			t.Fatalf("MarkOf of %d records = %d; want %d", n, got, want)
		}
	}
}

func TestMarkOfAConfigThatIsNotConfigOk(t *testing.T) {
	for _, c := range refusedConfigs() {
		for dims := range 5 {
			p := part(wordsOf(event(5, 1, filled(dims, 1)...)), "e 5", "e", "")
			for _, n := range countsAbout(len(p.Recs)) {
				if got := impl.MarkOf(c, p, n); got != noMark {
					t.Fatalf("MarkOf(%v, %q, %d) = %d; want NoMark", c, p.Recs, n, got)
				}
			}
		}
	}
}

// mergeCase has the numbers of the parts in the order in which they are read, and what holds behind each record, with a Delay of 5.
type mergeCase struct {
	logs  []impl.Part
	order []int
	offs  [][]int
	marks []int
}

func mergeCases() []mergeCase {
	return []mergeCase{
		{[]impl.Part{moments(1, 3, 2)}, []int{0, 0, 0}, [][]int{{0}, {1}, {2}, {3}}, []int{noMark, -4, -2, -2}},
		{[]impl.Part{part("?", "", "e 9 1")}, []int{0, 0, 0}, [][]int{{0}, {1}, {2}, {3}}, []int{noMark, noMark, noMark, 4}},
		{[]impl.Part{moments()}, nil, [][]int{{0}}, []int{noMark}},
		{
			[]impl.Part{moments(20, 5), part("e 10 1", "?", "e 40 1")}, []int{0, 1, 1, 1, 0},
			[][]int{{0, 0}, {1, 0}, {1, 1}, {1, 2}, {1, 3}, {2, 3}}, []int{noMark, noMark, 5, 5, 15, 15},
		},
		{
			// The first part has no mark until its third record.
			[]impl.Part{part("?", "?", "e 1 1", "e 2 1"), moments(5, 6)}, []int{0, 0, 0, 1, 0, 1},
			[][]int{{0, 0}, {1, 0}, {2, 0}, {3, 0}, {3, 1}, {4, 1}, {4, 2}}, []int{noMark, noMark, noMark, noMark, -4, -3, -3},
		},
		{
			// The second part never has one.
			[]impl.Part{moments(1, 2), part("?", "?", "?")}, []int{0, 1, 1, 1, 0},
			[][]int{{0, 0}, {1, 0}, {1, 1}, {1, 2}, {1, 3}, {2, 3}}, filled(6, noMark),
		},
		{
			[]impl.Part{moments(7, 7, 7), moments(7, 7), moments(7)}, []int{0, 1, 2, 0, 0, 1},
			[][]int{{0, 0, 0}, {1, 0, 0}, {1, 1, 0}, {1, 1, 1}, {2, 1, 1}, {3, 1, 1}, {3, 2, 1}}, []int{noMark, noMark, noMark, 2, 2, 2, 2},
		},
		{
			// The marks become the same only on the way.
			[]impl.Part{moments(3, 9, 9), moments(9, 1)}, []int{0, 1, 0, 0, 1},
			[][]int{{0, 0}, {1, 0}, {1, 1}, {2, 1}, {3, 1}, {3, 2}}, []int{noMark, noMark, -2, 4, 4, 4},
		},
		{
			[]impl.Part{moments(10, 30, 50), moments(20, 40), moments(5, 60, 1)}, []int{0, 1, 2, 2, 0, 1, 0, 2},
			[][]int{{0, 0, 0}, {1, 0, 0}, {1, 1, 0}, {1, 1, 1}, {1, 1, 2}, {2, 1, 2}, {2, 2, 2}, {3, 2, 2}, {3, 2, 3}},
			[]int{noMark, noMark, noMark, 0, 5, 15, 25, 35, 35},
		},
		{[]impl.Part{moments(), moments(1, 2)}, []int{1, 1}, [][]int{{0, 0}, {0, 1}, {0, 2}}, filled(3, noMark)},
		{[]impl.Part{moments(1), moments(), moments(0)}, []int{0, 2}, [][]int{{0, 0, 0}, {1, 0, 0}, {1, 0, 1}}, filled(3, noMark)},
		{[]impl.Part{moments(), moments(), moments()}, nil, [][]int{{0, 0, 0}}, []int{noMark}},
		{
			// The least moment makes a mark, and none comes ahead of it.
			[]impl.Part{moments(-latest, latest), part("?", "e 100000 1")}, []int{0, 1, 1, 0},
			[][]int{{0, 0}, {1, 0}, {1, 1}, {1, 2}, {2, 2}}, []int{noMark, noMark, noMark, -latest - 5, latest - 5},
		},
	}
}

func TestMergeOrder(t *testing.T) {
	for _, x := range mergeCases() {
		for _, delay := range []int{0, 5, longest} {
			c := config(0, nil, nil, delay, 0)
			if got := impl.MergeOrder(c, x.logs); !slices.Equal(got, orderOf(x.order...)) {
				t.Errorf("MergeOrder of %q with Delay %d = %v; want the parts %v", x.logs, delay, got, x.order)
			}
		}
	}
}

func TestOffsetsAndMarksAtEachNumberOfRecords(t *testing.T) {
	for _, x := range mergeCases() {
		for _, delay := range []int{0, 5, longest} {
			c := config(0, nil, nil, delay, 0)
			all := len(x.offs) - 1
			for _, n := range countsAbout(all) {
				i := clamp(n, all)
				if got := impl.Offsets(c, x.logs, n); !slices.Equal(got, x.offs[i]) {
					t.Errorf("Offsets of %q, %d = %v; want %v", x.logs, n, got, x.offs[i])
				}
				want := x.marks[i]
				if want != noMark {
					want += 5 - delay
				}
				if got := impl.MarkAt(c, x.logs, n); got != want {
					t.Errorf("MarkAt of %q with Delay %d, %d = %d; want %d", x.logs, delay, n, got, want)
				}
			}
		}
	}
}

func TestTheMergeIsTheOneReckonedByHand(t *testing.T) {
	for _, c := range mergeConfigs() {
		for _, logs := range mergeLogs(c) {
			want := orderByHand(c, logs)
			if got := impl.MergeOrder(c, logs); !slices.Equal(got, want) {
				t.Fatalf("MergeOrder(%v, %q) = %v; want %v", c, logs, got, want)
			}
			for _, n := range countsAbout(len(want)) {
				offs := offsetsByHand(want[:clamp(n, len(want))], len(logs))
				if got := impl.Offsets(c, logs, n); !slices.Equal(got, offs) {
					t.Fatalf("Offsets(%v, %q, %d) = %v; want %v", c, logs, n, got, offs)
				}
				mark := markAtByHand(c, logs, offs)
				if got := impl.MarkAt(c, logs, n); got != mark {
					t.Fatalf("MarkAt(%v, %q, %d) = %d; want %d", c, logs, n, got, mark)
				}
			}
		}
	}
}

func TestTheMergeHasEachRecordOnce(t *testing.T) {
	for _, c := range mergeConfigs() {
		for _, logs := range mergeLogs(c) {
			order := impl.MergeOrder(c, logs)
			next := make([]int, len(logs))
			for _, at := range order {
				if at.Part < 0 || at.Part >= len(logs) || at.Rec != next[at.Part] {
					t.Fatalf("MergeOrder of %q has %v where it is not its turn: %v", logs, at, order)
				}
				next[at.Part]++
			}
			if len(order) != countRecs(logs) {
				t.Fatalf("MergeOrder of %d records has %d", countRecs(logs), len(order))
			}
			for i, p := range logs {
				if next[i] != len(p.Recs) {
					t.Fatalf("MergeOrder has %d of %d records of part %d", next[i], len(p.Recs), i)
				}
			}
		}
	}
}

func TestMarksNeverFall(t *testing.T) {
	for _, c := range mergeConfigs() {
		for _, logs := range mergeLogs(c) {
			for n := -2; n <= countRecs(logs)+2; n++ {
				if a, b := impl.MarkAt(c, logs, n), impl.MarkAt(c, logs, n+1); a > b {
					t.Fatalf("MarkAt of %q falls from %d to %d behind %d records", logs, a, b, n)
				}
				for _, p := range logs {
					if a, b := impl.MarkOf(c, p, n), impl.MarkOf(c, p, n+1); a > b {
						t.Fatalf("MarkOf of %q falls from %d to %d behind %d records", p.Recs, a, b, n)
					}
				}
			}
		}
	}
}

func TestOffsetsGrowByOneRecord(t *testing.T) {
	for _, c := range mergeConfigs() {
		for _, logs := range mergeLogs(c) {
			before := impl.Offsets(c, logs, 0)
			for n, at := range impl.MergeOrder(c, logs) {
				before[at.Part]++
				if got := impl.Offsets(c, logs, n+1); !slices.Equal(got, before) {
					t.Fatalf("Offsets of %q, %d = %v; want %v", logs, n+1, got, before)
				}
			}
		}
	}
}

// Only the moments of events count: every other part of a Config or of a record leaves the order as it is.
func TestTheOrderHangsOnMomentsAlone(t *testing.T) {
	plain := config(2, nil, nil, 0, 0)
	others := []impl.Config{cubeConfig(), config(2, []impl.Win{win(10, 10)}, []int{3, 0}, 0, longest), config(2, nil, nil, longest, 0)}
	others[0].Dims, others[0].Masks = 2, nil
	for _, logs := range mergeLogs(plain) {
		want := impl.MergeOrder(plain, logs)
		for _, c := range others {
			if got := impl.MergeOrder(c, logs); !slices.Equal(got, want) {
				t.Fatalf("MergeOrder of %q = %v with %v, %v without", logs, got, c, want)
			}
		}
		changed := []impl.Part{}
		for _, p := range logs {
			recs := []string{}
			for _, rec := range p.Recs {
				if e, ok := readByForm(2, rec); ok {
					rec = wordsOf(event(e.At, -e.Val, topDim-e.Dims[0], 0))
				}
				recs = append(recs, rec)
			}
			changed = append(changed, part(recs...))
		}
		if got := impl.MergeOrder(plain, changed); !slices.Equal(got, want) {
			t.Fatalf("MergeOrder of %q = %v; want %v", changed, got, want)
		}
	}
}

// eventLogs tells parts with events of this number of Dims, so that each would have a mark.
func eventLogs(dims int, counts ...int) []impl.Part {
	list := []impl.Part{}
	for _, n := range counts {
		list = append(list, part(slices.Repeat([]string{wordsOf(event(9, 1, filled(dims, 1)...))}, n)...))
	}
	return list
}

func TestTheMergeRefusesLogsThatAreNotLogsOk(t *testing.T) {
	const recs = impl.MaxRecs
	for _, c := range acceptedConfigs() {
		list := append(refusedLogs(), eventLogs(c.Dims, 1, 1, 1, 1), eventLogs(c.Dims, recs+1), eventLogs(c.Dims, 1, recs+1), eventLogs(c.Dims, 1, 1, recs+1))
		for i := range 3 {
			long := eventLogs(c.Dims, 3, 3, 3)
			long[i].Recs = append(long[i].Recs, strings.Repeat("x", impl.MaxRec+1))
			list = append(list, long)
		}
		for _, logs := range list {
			refusesLogs(t, c, logs)
		}
		whole := eventLogs(c.Dims, recs, recs, recs)
		whole[1].Recs[recs-1] = strings.Repeat("x", impl.MaxRec)
		if got := impl.MergeOrder(c, whole); len(got) != 3*recs || impl.MarkAt(c, whole, 3*recs) != 9-c.Delay {
			t.Errorf("MergeOrder(%v) of as many records as there may be has %d", c, len(got))
		}
	}
}

func TestTheMergeRefusesAConfigThatIsNotConfigOk(t *testing.T) {
	for _, c := range refusedConfigs() {
		for dims := range 5 {
			refusesLogs(t, c, eventLogs(dims, 2))
			refusesLogs(t, c, eventLogs(dims, 2, 1, 2))
		}
		refusesLogs(t, c, []impl.Part{part("", "e", "e 1")})
		refusesLogs(t, c, nil)
	}
}

func TestLowest(t *testing.T) {
	for _, x := range []struct {
		marks []int
		want  int
	}{
		{nil, noMark}, {[]int{}, noMark}, {[]int{7}, 7}, {[]int{0}, 0}, {[]int{-7}, -7}, {[]int{noMark}, noMark},
		{[]int{4, 2, 9}, 2}, {[]int{2, 4, 9}, 2}, {[]int{9, 4, 2}, 2}, {[]int{3, 3, 3}, 3}, {[]int{3, 3}, 3}, {[]int{5, 3, 3}, 3},
		{[]int{noMark, 5, 9}, noMark}, {[]int{5, noMark, 9}, noMark}, {[]int{5, 9, noMark}, noMark}, {[]int{noMark, noMark}, noMark},
		{[]int{5, noMark + 1}, noMark + 1}, {[]int{noMark, noMark - 1}, noMark - 1}, {[]int{noMark - 1}, noMark - 1},
		{[]int{math.MaxInt}, math.MaxInt}, {[]int{math.MaxInt, math.MinInt}, math.MinInt}, {[]int{math.MinInt}, math.MinInt},
		{[]int{-1, 0, 1}, -1}, {append(filled(1000, 8), 7), 7}, {append([]int{6}, filled(1000, 8)...), 6},
	} {
		before := slices.Clone(x.marks)
		if got := impl.Lowest(x.marks); got != x.want {
			t.Errorf("Lowest(%v) = %d; want %d", x.marks, got, x.want)
		}
		if !slices.Equal(x.marks, before) {
			t.Errorf("Lowest writes into its argument: %v", x.marks)
		}
	}
	room := []int{5, 6, -9, -9}
	if got := impl.Lowest(room[:2]); got != 5 {
		t.Errorf("Lowest reads what lies behind a list: %d", got)
	}
	if got := impl.Lowest(room[:0]); got != noMark {
		t.Errorf("Lowest reads what lies behind an empty list: %d", got)
	}
}

func TestTheMergeLeavesItsArguments(t *testing.T) {
	c := config(0, nil, nil, 5, 0)
	recs := [][]string{{"e 20 1", "e 5 1", "e 90 1", "e 91 1"}, {"e 10 1", "?", "e 40 1", "e 95 1"}, {"e 1 1"}}
	room := []impl.Part{part(recs[0][:2]...), part(recs[1][:3]...), part(recs[2]...)}
	want := orderOf(0, 1, 1, 1, 0)
	if got := impl.MergeOrder(c, room[:2]); !slices.Equal(got, want) {
		t.Errorf("MergeOrder reads what lies behind a list: %v", got)
	}
	if got := impl.Offsets(c, room[:2], 9); !slices.Equal(got, []int{2, 3}) {
		t.Errorf("Offsets reads what lies behind a list: %v", got)
	}
	if got := impl.MarkAt(c, room[:2], 9); got != 15 {
		t.Errorf("MarkAt reads what lies behind a list: %d", got)
	}
	if got := impl.MarkOf(c, room[0], 4); got != 15 {
		t.Errorf("MarkOf reads what lies behind a list: %d", got)
	}
	if !slices.Equal(recs[0], []string{"e 20 1", "e 5 1", "e 90 1", "e 91 1"}) || !slices.Equal(recs[1], []string{"e 10 1", "?", "e 40 1", "e 95 1"}) {
		t.Errorf("the merge writes into its records: %q", recs)
	}
	for i, n := range []int{2, 3, 1} {
		if !slices.Equal(room[i].Recs, recs[i][:n]) {
			t.Errorf("the merge writes into its logs: %q", room)
		}
	}
}

func TestWhatTheMergeTellsIsNewMemory(t *testing.T) {
	c := config(0, nil, nil, 5, 0)
	logs := []impl.Part{moments(20, 5), moments(10, 40)}
	for range 2 {
		order, offs := impl.MergeOrder(c, logs), impl.Offsets(c, logs, 3)
		if !slices.Equal(order, orderOf(0, 1, 1, 0)) || !slices.Equal(offs, []int{1, 2}) {
			t.Fatalf("the merge tells what was written into an earlier answer: %v, %v", order, offs)
		}
		for i := range order {
			order[i] = impl.Pos{Part: 7, Rec: 7}
		}
		offs[0], offs[1] = 8, 8
		_, _ = append(order, impl.Pos{}), append(offs, 9)
	}
}
