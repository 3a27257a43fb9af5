package tests

import (
	"fmt"
	"math"
	"reflect"
	"slices"
	"testing"

	"loop.example/g00552/impl"
)

const mostSpans = impl.MaxSpans
const widestGap = impl.MaxGap

// A thing is what comes: a moment and a value.
type thing struct{ at, val int }

func span(from, to int, a impl.Agg) impl.Span {
	return impl.Span{From: from, To: to, A: a}
}

// lone is the span of one thing alone.
func lone(at, val int) impl.Span {
	return span(at, at, one(val))
}

func lones(times ...int) []impl.Span {
	list := []impl.Span{}
	for _, at := range times {
		list = append(list, lone(at, 1))
	}
	return list
}

func thingsAt(times ...int) []thing {
	list := []thing{}
	for i, at := range times {
		list = append(list, thing{at, i + 1})
	}
	return list
}

// steps tells n moments, each as far behind the one ahead of it.
func steps(from, step, n int) []int {
	list := []int{}
	for i := range n {
		list = append(list, from+i*step)
	}
	return list
}

func columns(list []thing) ([]int, []int) {
	times, vals := []int{}, []int{}
	for _, x := range list {
		times, vals = append(times, x.at), append(vals, x.val)
	}
	return times, vals
}

func bothByHand(a, b impl.Agg) impl.Agg {
	return agg(a.N+b.N, a.Sum+b.Sum, min(a.Min, b.Min), max(a.Max, b.Max))
}

// soundByHand says of a list of no far numbers whether it is SpansOk, told without the program.
func soundByHand(gap int, list []impl.Span) bool {
	if gap < 0 || gap > 10000 || len(list) > 400 {
		return false
	}
	for i, s := range list {
		inTime := s.From >= -100000 && s.To <= 100000 && s.From <= s.To
		if !inTime || s.A.N < 1 || s.A.N == 1 && s.From != s.To || !impl.AggOk(s.A) {
			return false
		}
		if i > 0 && s.From-list[i-1].To <= gap {
			return false
		}
	}
	return true
}

func fitByHand(list []impl.Span) bool {
	for _, s := range list {
		if s.A.N > most {
			return false
		}
	}
	return len(list) <= mostSpans
}

// near tells two spans that are not more than gap from one another, -1 and -1 of none.
func near(gap int, list []impl.Span) (int, int) {
	for i, a := range list {
		for j, b := range list[:i] {
			if a.From-b.To <= gap && b.From-a.To <= gap {
				return j, i
			}
		}
	}
	return -1, -1
}

// joinedByHand makes one of two spans, again and again, as the document says it, told without the program.
func joinedByHand(gap int, lists ...[]impl.Span) ([]impl.Span, bool) {
	list := slices.Concat(lists...)
	for i, j := near(gap, list); i >= 0; i, j = near(gap, list) {
		a, b := list[i], list[j]
		list[i] = span(min(a.From, b.From), max(a.To, b.To), bothByHand(a.A, b.A))
		list = slices.Delete(list, j, j+1)
	}
	slices.SortFunc(list, func(a, b impl.Span) int { return a.From - b.From })
	if !fitByHand(list) {
		return nil, false
	}
	return list, true
}

// cutByHand sorts all that came and cuts it where nothing came for more than gap.
func cutByHand(gap int, things []thing) []impl.Span {
	things = slices.Clone(things)
	slices.SortFunc(things, func(a, b thing) int { return a.at - b.at })
	list := []impl.Span{}
	for _, x := range things {
		last := len(list) - 1
		if last < 0 || x.at-list[last].To > gap {
			list = append(list, lone(x.at, x.val))
			continue
		}
		list[last].To, list[last].A = x.at, bothByHand(list[last].A, one(x.val))
	}
	return list
}

// spansByHand asks the limits behind each thing that comes.
func spansByHand(gap int, things []thing) ([]impl.Span, bool) {
	list := []impl.Span{}
	for n := range things {
		if list = cutByHand(gap, things[:n+1]); !fitByHand(list) {
			return nil, false
		}
	}
	return list, true
}

// isSpans holds an answer against what is wanted; with a false nothing is wanted.
func isSpans(t *testing.T, call string, got []impl.Span, ok bool, want []impl.Span, wanted bool) {
	t.Helper()
	if ok != wanted || !slices.Equal(got, want) {
		t.Errorf("%s = %.1000s, %v; want %.1000s, %v", call, fmt.Sprint(got), ok, fmt.Sprint(want), wanted)
	}
}

func spansOf(t *testing.T, gap int, things []thing) []impl.Span {
	t.Helper()
	times, vals := columns(things)
	list, ok := impl.SpansOf(gap, times, vals)
	if !ok || !impl.SpansOk(gap, list) {
		t.Fatalf("SpansOf(%d, %.300v, %.300v) = %.300v, %v", gap, fmt.Sprint(times), fmt.Sprint(vals), fmt.Sprint(list), ok)
	}
	return list
}

func spanAdd(t *testing.T, gap int, list []impl.Span, x thing) []impl.Span {
	t.Helper()
	next, ok := impl.SpanAdd(gap, list, x.at, x.val)
	if !ok || !impl.SpansOk(gap, next) {
		t.Fatalf("SpanAdd(%d, %.300v, %v) = %.300v, %v", gap, fmt.Sprint(list), x, fmt.Sprint(next), ok)
	}
	return next
}

func spansJoin(t *testing.T, gap int, a, b []impl.Span) []impl.Span {
	t.Helper()
	list, ok := impl.SpansJoin(gap, a, b)
	if !ok || !impl.SpansOk(gap, list) {
		t.Fatalf("SpansJoin(%d, %.300v, %.300v) = %.300v, %v", gap, fmt.Sprint(a), fmt.Sprint(b), fmt.Sprint(list), ok)
	}
	return list
}

func refusesThing(t *testing.T, gap int, list []impl.Span, at, val int) {
	t.Helper()
	if got, ok := impl.SpanAdd(gap, list, at, val); ok || len(got) != 0 {
		t.Errorf("SpanAdd(%d, %.300v, %d, %d) = %.300v, %v; want nothing, false", gap, fmt.Sprint(list), at, val, fmt.Sprint(got), ok)
	}
}

func refusesSpans(t *testing.T, gap int, times, vals []int) {
	t.Helper()
	if got, ok := impl.SpansOf(gap, times, vals); ok || len(got) != 0 {
		t.Errorf("SpansOf(%d, %.300v, %.300v) = %.300v, %v; want nothing, false", gap, fmt.Sprint(times), fmt.Sprint(vals), fmt.Sprint(got), ok)
	}
}

func refusesSpansJoin(t *testing.T, gap int, a, b []impl.Span) {
	t.Helper()
	if got, ok := impl.SpansJoin(gap, a, b); ok || len(got) != 0 {
		t.Errorf("SpansJoin(%d, %.300v, %.300v) = %.300v, %v; want nothing, false", gap, fmt.Sprint(a), fmt.Sprint(b), fmt.Sprint(got), ok)
	}
}

// orderings tells all orders of n places.
func orderings(n int) [][]int {
	if n == 0 {
		return [][]int{nil}
	}
	list := [][]int{}
	for _, shorter := range orderings(n - 1) {
		for i := range n {
			list = append(list, slices.Insert(slices.Clone(shorter), i, n-1))
		}
	}
	return list
}

func inOrder(things []thing, order []int) []thing {
	list := []thing{}
	for _, i := range order {
		list = append(list, things[i])
	}
	return list
}

// shuffled tells the things in another order for each seed.
func shuffled(things []thing, seed int) []thing {
	list := slices.Clone(things)
	for i, n := range mixed(len(list), seed) {
		j := (n + bound) % (i + 1)
		list[i], list[j] = list[j], list[i]
	}
	return list
}

// mixedThings has moments within 2*reach, many of them alike for a small one.
func mixedThings(n, reach, seed int) []thing {
	times, vals := mixed(n, seed), mixed(n, seed+1)
	list := []thing{}
	for i := range n {
		list = append(list, thing{times[i] % (reach + 1), vals[i]})
	}
	return list
}

// smallLists tells each SpansOk list of spans within from and last; of one moment there is one value, or two.
func smallLists(gap, from, last int) [][]impl.Span {
	list := [][]impl.Span{nil}
	for a := from; a <= last; a++ {
		for b := a; b <= last; b++ {
			firsts := []impl.Span{span(a, b, agg(2, a+b, min(a, b), max(a, b)))}
			if a == b {
				firsts = append(firsts, lone(a, a))
			}
			for _, rest := range smallLists(gap, b+gap+1, last) {
				for _, first := range firsts {
					list = append(list, append([]impl.Span{first}, rest...))
				}
			}
		}
	}
	return list
}

// A gapped list is one with its gap.
type gapped struct {
	gap  int
	list []impl.Span
}

func acceptedSpans() []gapped {
	two := agg(2, 3, 1, 2)
	list := []gapped{
		{0, nil}, {10, []impl.Span{}}, {widestGap, nil},
		{10, lones(0)}, {0, lones(-7)},
		{10, []impl.Span{span(0, 0, two)}},
		{10, []impl.Span{span(-5, 5, two)}},
		{0, []impl.Span{span(0, 100, agg(3, 8, -2, 5))}},
		{0, lones(0, 1)}, {0, lones(-1, 0, 1, 2)},
		{10, lones(0, 11)}, {10, lones(-11, 0, 12)},
		{10, []impl.Span{span(-30, -11, two), lone(0, 5), span(11, 12, two)}},
		{widestGap, lones(0, widestGap+1)},
		{widestGap, lones(-latest, -latest+widestGap+1, latest)},
		{0, []impl.Span{span(-latest, latest, two)}},
		{3, []impl.Span{span(-latest, latest-4, two), lone(latest, 0)}},
		{5, []impl.Span{span(0, 9, agg(most, most*bound, bound, bound))}},
		{5, []impl.Span{span(0, 9, agg(most, 0, -bound, bound)), span(15, 15, agg(most, 0, 0, 0)), lone(21, -bound)}},
		{0, lones(steps(0, 1, mostSpans)...)},
		{499, lones(steps(-latest, 500, mostSpans)...)},
	}
	for _, a := range acceptedAggs() {
		if a.N > 1 {
			list = append(list, gapped{7, []impl.Span{span(3, 9, a), span(17, 17, a)}})
		}
		if a.N == 1 {
			list = append(list, gapped{7, []impl.Span{span(9, 9, a), span(17, 17, a)}})
		}
	}
	return list
}

func refusedSpans() []gapped {
	two := agg(2, 3, 1, 2)
	list := []gapped{
		{-1, nil}, {-1, lones(0)}, {-10, lones(0, 50)}, {widestGap + 1, nil}, {widestGap + 1, lones(0)}, {widestGap + 1, lones(0, 50000)},
		// They touch, by just the gap or by less, or are one in another.
		{10, lones(0, 10)}, {10, lones(0, 5)}, {0, lones(0, 0)}, {1, lones(0, 1)}, {10, lones(0, 11, 21)}, {10, lones(0, 10, 30)},
		{widestGap, lones(0, widestGap)},
		{10, []impl.Span{span(0, 9, two), lone(19, 1)}},
		{0, []impl.Span{span(0, 9, two), span(9, 12, two)}},
		{0, []impl.Span{span(0, 9, two), span(3, 6, two)}},
		{0, []impl.Span{span(3, 6, two), span(0, 9, two)}},
		{0, []impl.Span{span(0, 9, two), span(0, 9, two)}},
		// They are in no order.
		{0, lones(1, 0)}, {10, lones(50, 0)}, {10, lones(0, 50, 25)}, {10, lones(50, 0, 100)},
		{0, []impl.Span{span(20, 29, two), span(0, 9, two)}},
		// From is above To; To is none of one value.
		{10, []impl.Span{span(1, 0, two)}}, {10, []impl.Span{span(latest, -latest, two)}}, {10, []impl.Span{span(1, 0, one(3))}},
		{10, []impl.Span{span(0, 1, one(3))}}, {10, []impl.Span{span(-1, 0, one(0))}}, {0, []impl.Span{lone(0, 3), span(5, 6, one(3))}},
		{0, []impl.Span{span(5, 3, two), lone(9, 1)}}, {0, []impl.Span{lone(0, 1), span(5, 3, two)}},
		// Their moments are none.
		{10, lones(latest + 1)}, {10, lones(-latest - 1)}, {10, []impl.Span{span(latest, latest+1, two)}}, {10, []impl.Span{span(-latest-1, -latest, two)}},
		{0, []impl.Span{lone(0, 1), span(latest, latest+1, two)}},
		// There is one too many.
		{0, lones(steps(0, 1, mostSpans+1)...)}, {499, lones(steps(-latest, 500, mostSpans+1)...)}, {0, lones(steps(0, 2, 2*mostSpans)...)},
		// Nothing came in them.
		{10, make([]impl.Span, 1)}, {10, []impl.Span{{From: 3, To: 5}}}, {10, []impl.Span{lone(0, 1), {From: 50, To: 50}}}, {10, []impl.Span{{From: -50, To: -50}, lone(0, 1)}},
	}
	for _, a := range refusedAggs() {
		list = append(list, gapped{7, []impl.Span{span(3, 3, a)}}, gapped{7, []impl.Span{span(3, 9, a)}}, gapped{7, []impl.Span{lone(0, 1), span(8, 9, a)}})
	}
	for _, far := range append(farNumbers(), refusedTimes()...) {
		if far > latest || far < -latest {
			list = append(list, gapped{far, nil}, gapped{far, lones(0)}, gapped{far, lones(0, latest)})
			list = append(list, gapped{0, []impl.Span{span(far, far, one(1))}}, gapped{0, []impl.Span{span(far, 0, two)}}, gapped{0, []impl.Span{span(0, far, two)}})
			list = append(list, gapped{10, []impl.Span{span(far, far, one(1)), lone(0, 1)}}, gapped{10, []impl.Span{lone(0, 1), span(far, far, one(1))}})
			list = append(list, gapped{10, []impl.Span{span(-9, far, two), lone(0, 1)}}, gapped{10, []impl.Span{lone(0, 1), span(far, 40, two)}})
		}
	}
	return list
}

func TestLimitsOfSessions(t *testing.T) {
	if impl.MaxGap != 10000 || impl.MaxSpans != 400 {
		t.Fatal(impl.MaxGap, impl.MaxSpans)
	}
}

func TestSpansOk(t *testing.T) {
	for _, x := range acceptedSpans() {
		if !impl.SpansOk(x.gap, x.list) || !soundByHand(x.gap, x.list) {
			t.Errorf("SpansOk(%d, %.300v) = %v", x.gap, fmt.Sprint(x.list), impl.SpansOk(x.gap, x.list))
		}
	}
	for _, x := range refusedSpans() {
		if impl.SpansOk(x.gap, x.list) {
			t.Errorf("SpansOk(%d, %.300v) = true", x.gap, fmt.Sprint(x.list))
		}
	}
}

func TestSpansOkOfEachSmallList(t *testing.T) {
	spans := []impl.Span{}
	for from := -1; from <= 4; from++ {
		for to := -1; to <= 4; to++ {
			spans = append(spans, span(from, to, impl.Agg{}), span(from, to, one(5)), span(from, to, agg(2, 5, 2, 3)))
		}
	}
	sound := 0
	for gap := -1; gap <= 4; gap++ {
		for _, a := range spans {
			for _, b := range spans {
				list := []impl.Span{a, b}
				want := soundByHand(gap, list)
				if got := impl.SpansOk(gap, list); got != want {
					t.Fatalf("SpansOk(%d, %v) = %v", gap, list, got)
				}
				if want {
					sound++
				}
			}
		}
	}
	if sound < 300 {
		t.Errorf("the lists are too dull: %d are sound", sound)
	}
}

func TestSpanAdd(t *testing.T) {
	three := []impl.Span{span(0, 5, agg(2, 3, 1, 2)), lone(20, 4), span(40, 50, agg(3, 6, -1, 8))}
	for _, x := range []struct {
		gap     int
		list    []impl.Span
		at, val int
		want    []impl.Span
	}{
		{10, nil, 3, 7, []impl.Span{lone(3, 7)}},
		{0, []impl.Span{}, -3, -7, []impl.Span{lone(-3, -7)}},
		{10, lones(0), 0, 5, []impl.Span{span(0, 0, agg(2, 6, 1, 5))}},
		{0, lones(0), 0, 5, []impl.Span{span(0, 0, agg(2, 6, 1, 5))}},
		{0, lones(0), 1, 5, []impl.Span{lone(0, 1), lone(1, 5)}},
		{0, lones(0), -1, 5, []impl.Span{lone(-1, 5), lone(0, 1)}},
		// Just the gap behind and ahead, and one more.
		{10, lones(0), 10, 5, []impl.Span{span(0, 10, agg(2, 6, 1, 5))}},
		{10, lones(0), 11, 5, []impl.Span{lone(0, 1), lone(11, 5)}},
		{10, lones(0), -10, 5, []impl.Span{span(-10, 0, agg(2, 6, 1, 5))}},
		{10, lones(0), -11, 5, []impl.Span{lone(-11, 5), lone(0, 1)}},
		{9, three, 29, 6, []impl.Span{three[0], span(20, 29, agg(2, 10, 4, 6)), three[2]}},
		{9, three, 30, 6, []impl.Span{three[0], three[1], lone(30, 6), three[2]}},
		{9, three, 31, 6, []impl.Span{three[0], three[1], span(31, 50, agg(4, 12, -1, 8))}},
		{9, three, 15, 6, []impl.Span{three[0], span(15, 20, agg(2, 10, 4, 6)), three[2]}},
		{9, three, -9, 6, []impl.Span{span(-9, 5, agg(3, 9, 1, 6)), three[1], three[2]}},
		{9, three, -10, 6, []impl.Span{lone(-10, 6), three[0], three[1], three[2]}},
		{9, three, 59, 6, []impl.Span{three[0], three[1], span(40, 59, agg(4, 12, -1, 8))}},
		{9, three, 60, 6, []impl.Span{three[0], three[1], three[2], lone(60, 6)}},
		// In a span, at its From and its To.
		{9, three, 3, -6, []impl.Span{span(0, 5, agg(3, -3, -6, 2)), three[1], three[2]}},
		{9, three, 0, -6, []impl.Span{span(0, 5, agg(3, -3, -6, 2)), three[1], three[2]}},
		{9, three, 50, 9, []impl.Span{three[0], three[1], span(40, 50, agg(4, 15, -1, 9))}},
		{0, three, 45, 0, []impl.Span{three[0], three[1], span(40, 50, agg(4, 6, -1, 8))}},
		{9, three, 20, 4, []impl.Span{three[0], span(20, 20, agg(2, 8, 4, 4)), three[2]}},
		// One makes one span of two: with just the gap to both, with less, and not with one more to one of them.
		{10, three, 30, 6, []impl.Span{three[0], span(20, 50, agg(5, 16, -1, 8))}},
		{10, three, 10, 6, []impl.Span{span(0, 20, agg(4, 13, 1, 6)), three[2]}},
		{9, three, 14, 6, []impl.Span{span(0, 20, agg(4, 13, 1, 6)), three[2]}},
		{9, three, 11, 6, []impl.Span{span(0, 20, agg(4, 13, 1, 6)), three[2]}},
		{14, three, 6, 6, []impl.Span{span(0, 20, agg(4, 13, 1, 6)), three[2]}},
		{10, lones(0, 20), 10, 1, []impl.Span{span(0, 20, agg(3, 3, 1, 1))}},
		{10, lones(0, 21), 10, 1, []impl.Span{span(0, 10, agg(2, 2, 1, 1)), lone(21, 1)}},
		{10, lones(0, 21), 11, 1, []impl.Span{lone(0, 1), span(11, 21, agg(2, 2, 1, 1))}},
		{0, lones(0, 2), 1, 1, []impl.Span{lone(0, 1), lone(1, 1), lone(2, 1)}},
		{1, lones(0, 2), 1, 1, []impl.Span{span(0, 2, agg(3, 3, 1, 1))}},
		// At the bounds of all moments.
		{10, nil, latest, bound, []impl.Span{lone(latest, bound)}},
		{10, nil, -latest, -bound, []impl.Span{lone(-latest, -bound)}},
		{widestGap, lones(-latest, latest), 0, 1, lones(-latest, 0, latest)},
		{widestGap, lones(latest - widestGap), latest, 1, []impl.Span{span(latest-widestGap, latest, agg(2, 2, 1, 1))}},
		{widestGap, lones(latest - widestGap - 1), latest, 1, lones(latest-widestGap-1, latest)},
		{widestGap, lones(-latest + widestGap), -latest, 1, []impl.Span{span(-latest, -latest+widestGap, agg(2, 2, 1, 1))}},
		{widestGap, lones(-latest + widestGap + 1), -latest, 1, lones(-latest, -latest+widestGap+1)},
	} {
		got, ok := impl.SpanAdd(x.gap, x.list, x.at, x.val)
		isSpans(t, fmt.Sprintf("SpanAdd(%d, %v, %d, %d)", x.gap, x.list, x.at, x.val), got, ok, x.want, true)
		byHand, ok := joinedByHand(x.gap, x.list, []impl.Span{lone(x.at, x.val)})
		isSpans(t, fmt.Sprintf("the test's own of %d, %v, %d, %d", x.gap, x.list, x.at, x.val), byHand, ok, x.want, true)
	}
}

func TestSpanAddToEachSmallList(t *testing.T) {
	of := [3]int{}
	for gap := range 4 {
		for _, list := range smallLists(gap, 0, 7) {
			for at := -5; at <= 12; at++ {
				want, _ := joinedByHand(gap, list, []impl.Span{lone(at, at)})
				got, ok := impl.SpanAdd(gap, list, at, at)
				if !ok || !slices.Equal(got, want) || !impl.SpansOk(gap, got) {
					t.Fatalf("SpanAdd(%d, %v, %d, %d) = %v, %v; want %v", gap, list, at, at, got, ok, want)
				}
				of[len(list)+1-len(got)]++
			}
		}
	}
	if slices.Min(of[:]) < 1000 {
		t.Errorf("the lists are too dull: %v things were alone, by one span, between two", of)
	}
}

func TestSpanAddAtTheLimitOfSpans(t *testing.T) {
	full := lones(steps(-90000, 21, mostSpans)...)
	fewer := full[:mostSpans-1]
	last := full[mostSpans-1].From
	if got := spanAdd(t, 10, fewer, thing{last, 1}); !slices.Equal(got, full) {
		t.Errorf("the last span is not added: %v", got)
	}
	for _, at := range []int{0, latest, -latest, -90000 - 11, last + 11, last + 21} {
		refusesThing(t, 10, full, at, 1)
		if got := spanAdd(t, 10, fewer, thing{at, 1}); len(got) != mostSpans {
			t.Errorf("SpanAdd of %d tells %d spans", at, len(got))
		}
	}
	for at, n := range map[int]int{-90000: mostSpans, -90010: mostSpans, last: mostSpans, last + 10: mostSpans, -90000 + 21*7 + 9: mostSpans} {
		if got := spanAdd(t, 10, full, thing{at, 1}); len(got) != n {
			t.Errorf("SpanAdd of %d tells %d spans; want %d", at, len(got), n)
		}
	}
	wide := lones(steps(-90000, 20, mostSpans)...)
	refusesThing(t, 9, wide, -90000+10, 1)
	if got := spanAdd(t, 10, wide, thing{-90000 + 10, 1}); len(got) != mostSpans-1 {
		t.Errorf("SpanAdd between two of all spans tells %d", len(got))
	}
}

func TestSpanAddAtTheLimitOfValues(t *testing.T) {
	for _, x := range []struct {
		list []impl.Span
		at   int
		ok   bool
	}{
		{[]impl.Span{span(0, 9, agg(most-1, 0, -1, 1))}, 4, true},
		{[]impl.Span{span(0, 9, agg(most, 0, -1, 1))}, 4, false},
		{[]impl.Span{span(0, 9, agg(most, 0, -1, 1))}, 19, false},
		{[]impl.Span{span(0, 9, agg(most, 0, -1, 1))}, -10, false},
		{[]impl.Span{span(0, 9, agg(most, 0, -1, 1))}, 20, true},
		{[]impl.Span{span(0, 9, agg(most, 0, -1, 1))}, -11, true},
		{[]impl.Span{span(5, 5, agg(most-1, 0, 0, 0))}, 5, true},
		{[]impl.Span{span(5, 5, agg(most, 0, 0, 0))}, 5, false},
		{[]impl.Span{span(0, 9, agg(500, 0, -1, 1)), span(29, 40, agg(499, 0, -1, 1))}, 19, true},
		{[]impl.Span{span(0, 9, agg(500, 0, -1, 1)), span(29, 40, agg(500, 0, -1, 1))}, 19, false},
		{[]impl.Span{span(0, 9, agg(most-1, 0, -1, 1)), lone(29, 3)}, 19, false},
		{[]impl.Span{span(0, 9, agg(most-2, 0, -1, 1)), lone(29, 3)}, 19, true},
		{[]impl.Span{lone(-20, 3), span(0, 9, agg(most-1, 0, -1, 1))}, -10, false},
		{[]impl.Span{lone(-20, 3), span(0, 9, agg(most-2, 0, -1, 1))}, -10, true},
		{[]impl.Span{span(0, 9, agg(most, 0, -1, 1)), span(30, 40, agg(most, 0, -1, 1))}, 80, true},
	} {
		got, ok := impl.SpanAdd(10, x.list, x.at, 7)
		want, wanted := joinedByHand(10, x.list, []impl.Span{lone(x.at, 7)})
		if wanted != x.ok {
			t.Errorf("the test's own of %v and %d is %v", x.list, x.at, wanted)
		}
		isSpans(t, fmt.Sprintf("SpanAdd(10, %v, %d, 7)", x.list, x.at), got, ok, want, x.ok)
	}
}

func TestSpanAddRefuses(t *testing.T) {
	for _, x := range refusedSpans() {
		for _, at := range []int{0, -3, 5, latest, -latest, 70000} {
			refusesThing(t, x.gap, x.list, at, 1)
		}
	}
	for _, x := range acceptedSpans() {
		for _, at := range refusedTimes() {
			refusesThing(t, x.gap, x.list, at, 1)
		}
		for _, val := range []int{bound + 1, -bound - 1, math.MaxInt, math.MinInt, 1 << 32} {
			for _, at := range []int{0, 5, -latest, latest} {
				refusesThing(t, x.gap, x.list, at, val)
			}
		}
	}
	for _, val := range []int{bound, -bound} {
		if got := spanAdd(t, 10, nil, thing{0, val}); !slices.Equal(got, []impl.Span{lone(0, val)}) {
			t.Errorf("SpanAdd of %d = %v", val, got)
		}
	}
}

func TestSpansOf(t *testing.T) {
	for _, x := range []struct {
		gap    int
		things []thing
		want   []impl.Span
	}{
		{0, nil, nil}, {10, nil, nil}, {widestGap, []thing{}, nil},
		{10, []thing{{3, 7}}, []impl.Span{lone(3, 7)}},
		{10, []thing{{0, 1}, {10, 2}}, []impl.Span{span(0, 10, agg(2, 3, 1, 2))}},
		{10, []thing{{10, 2}, {0, 1}}, []impl.Span{span(0, 10, agg(2, 3, 1, 2))}},
		{10, []thing{{0, 1}, {11, 2}}, []impl.Span{lone(0, 1), lone(11, 2)}},
		{10, []thing{{11, 2}, {0, 1}}, []impl.Span{lone(0, 1), lone(11, 2)}},
		{0, []thing{{5, 1}, {5, -2}, {6, 9}, {5, 3}}, []impl.Span{span(5, 5, agg(3, 2, -2, 3)), lone(6, 9)}},
		{1, []thing{{5, 1}, {5, -2}, {6, 9}, {5, 3}}, []impl.Span{span(5, 6, agg(4, 11, -2, 9))}},
		{10, []thing{{0, 1}, {20, 2}, {10, 3}}, []impl.Span{span(0, 20, agg(3, 6, 1, 3))}},
		{9, []thing{{0, 1}, {20, 2}, {10, 3}}, []impl.Span{lone(0, 1), lone(10, 3), lone(20, 2)}},
		{10, thingsAt(0, 30, 12, 21, 60), []impl.Span{lone(0, 1), span(12, 30, agg(3, 9, 2, 4)), lone(60, 5)}},
		{12, thingsAt(0, 30, 12, 21, 60), []impl.Span{span(0, 30, agg(4, 10, 1, 4)), lone(60, 5)}},
		{30, thingsAt(0, 30, 12, 21, 60), []impl.Span{span(0, 60, agg(5, 15, 1, 5))}},
		{2, thingsAt(-1, 1, -3, 3, -6), []impl.Span{lone(-6, 5), span(-3, 3, agg(4, 10, 1, 4))}},
		// Two spans become one, and that one goes on to the next.
		{10, thingsAt(0, 40, 20, 10, 30), []impl.Span{span(0, 40, agg(5, 15, 1, 5))}},
		{widestGap, thingsAt(-latest, latest, 0), []impl.Span{lone(-latest, 1), lone(0, 3), lone(latest, 2)}},
		{widestGap, thingsAt(latest, latest-widestGap, -latest, -latest+widestGap+1), []impl.Span{lone(-latest, 3), lone(-latest+widestGap+1, 4), span(latest-widestGap, latest, agg(2, 3, 1, 2))}},
		{widestGap, thingsAt(steps(-latest, widestGap, 21)...), []impl.Span{span(-latest, latest, agg(21, 231, 1, 21))}},
	} {
		times, vals := columns(x.things)
		got, ok := impl.SpansOf(x.gap, times, vals)
		isSpans(t, fmt.Sprintf("SpansOf(%d, %v, %v)", x.gap, times, vals), got, ok, x.want, true)
		byHand, ok := spansByHand(x.gap, x.things)
		isSpans(t, fmt.Sprintf("the test's own of %d, %v", x.gap, x.things), byHand, ok, x.want, true)
	}
}

func TestSpansOfThingsInAnyOrder(t *testing.T) {
	for _, things := range [][]thing{
		thingsAt(0, 30, 12, 21, 60, 40),
		thingsAt(0, 10, 20, 30, 40, 50),
		thingsAt(-latest, -latest+10, latest, 0, latest-11, -latest),
		{{5, 1}, {5, 1}, {5, -9}, {15, bound}, {16, -bound}, {26, 0}},
		{{0, 3}, {0, 2}, {0, 1}, {0, 0}, {0, -1}, {0, -2}},
		thingsAt(-25, -14, -3, 8, 19, 30),
	} {
		for _, gap := range []int{0, 1, 9, 10, 11, 12, 21, widestGap} {
			want := cutByHand(gap, things)
			for _, order := range orderings(len(things)) {
				came := inOrder(things, order)
				if got := spansOf(t, gap, came); !slices.Equal(got, want) {
					t.Fatalf("SpansOf(%d) of %v = %v; want %v", gap, came, got, want)
				}
			}
		}
	}
}

func TestSpansOfManyThingsInAnyOrder(t *testing.T) {
	counts := map[int]bool{}
	for seed, n := range []int{50, 100, 200, 300, 390} {
		for _, reach := range []int{20, 900, 5000, latest} {
			things := mixedThings(n, reach, seed)
			for _, gap := range []int{0, 1, 7, 40, 500, widestGap} {
				want, ok := spansByHand(gap, things)
				if !ok {
					t.Fatalf("the test's own refuses %d things within %d", n, reach)
				}
				counts[len(want)] = true
				for other := range 5 {
					if got := spansOf(t, gap, shuffled(things, other)); !slices.Equal(got, want) {
						t.Fatalf("SpansOf(%d) of %d things within %d = %.500v; want %.500v", gap, n, reach, fmt.Sprint(got), fmt.Sprint(want))
					}
				}
			}
		}
	}
	if len(counts) < 50 {
		t.Errorf("the things are too dull: there are only as many spans as %v", counts)
	}
}

// SpansOf is SpanAdd of each, from none on.
func TestSpansOfIsSpanAddOfEach(t *testing.T) {
	for seed := range 20 {
		things := mixedThings(60, 40*(seed+1), seed)
		gap := 3 * seed
		list := []impl.Span{}
		for n, x := range things {
			list = spanAdd(t, gap, list, x)
			if got := spansOf(t, gap, things[:n+1]); !slices.Equal(got, list) {
				t.Fatalf("SpansOf(%d) of %v = %v; want %v", gap, things[:n+1], got, list)
			}
		}
	}
}

// A thing more may make fewer of too many spans, but comes too late: the SpanAdd ahead of it is false.
func TestSpansOfAtTheLimitOfSpans(t *testing.T) {
	full := steps(-90000, 20, mostSpans)
	ones := filled(mostSpans+2, 1)
	if got, ok := impl.SpansOf(10, full, ones[:mostSpans]); !ok || len(got) != mostSpans {
		t.Errorf("SpansOf of %d spans tells %d, %v", mostSpans, len(got), ok)
	}
	more := append(slices.Clone(full), 50000)
	refusesSpans(t, 10, more, ones[:mostSpans+1])
	slices.Reverse(more)
	refusesSpans(t, 10, more, ones[:mostSpans+1])
	between := -90000 + 10
	for _, x := range []struct {
		last []int
		n    int
	}{
		{[]int{between}, mostSpans - 1}, {[]int{full[7]}, mostSpans}, {[]int{full[7] + 10}, mostSpans - 1}, {[]int{full[0] - 10}, mostSpans},
		{[]int{between, 50000}, mostSpans}, {[]int{between, between + 20}, mostSpans - 2}, {[]int{50000, between}, 0}, {[]int{50000, 50000}, 0},
	} {
		times := append(slices.Clone(full), x.last...)
		if got, ok := impl.SpansOf(10, times, ones[:len(times)]); ok != (x.n > 0) || len(got) != x.n {
			t.Errorf("SpansOf of all spans, with %v behind them, tells %d, %v; want %d", x.last, len(got), ok, x.n)
		}
	}
	first := append([]int{between}, more...)
	if got, ok := impl.SpansOf(10, first, ones); !ok || len(got) != mostSpans {
		t.Errorf("SpansOf with %d ahead tells %d, %v", between, len(got), ok)
	}
	things := mixedThings(500, latest, 3)
	for _, gap := range []int{0, 1, 10, 30, 100, 1000} {
		times, vals := columns(things)
		got, ok := impl.SpansOf(gap, times, vals)
		want, wanted := spansByHand(gap, things)
		isSpans(t, fmt.Sprintf("SpansOf(%d) of 500 things", gap), got, ok, want, wanted)
	}
}

func TestSpansOfAtTheLimitOfValues(t *testing.T) {
	vals := filled(most+1, 2)
	same := filled(most+1, 5)
	got, ok := impl.SpansOf(0, same[:most], vals[:most])
	isSpans(t, "SpansOf of one moment", got, ok, []impl.Span{span(5, 5, agg(most, 2*most, 2, 2))}, true)
	refusesSpans(t, 0, same, vals)
	rising := steps(0, 3, most+1)
	got, ok = impl.SpansOf(3, rising[:most], vals[:most])
	isSpans(t, "SpansOf of a chain", got, ok, []impl.Span{span(0, 3*most-3, agg(most, 2*most, 2, 2))}, true)
	refusesSpans(t, 3, rising, vals)
	got, ok = impl.SpansOf(3, append(rising[:most:most], 3*most+1), vals)
	isSpans(t, "SpansOf of a chain and one more", got, ok, []impl.Span{span(0, 3*most-3, agg(most, 2*most, 2, 2)), lone(3*most+1, 2)}, true)
	// The last one makes one span of two that are too many together.
	halves := append(filled(most/2, 0), filled(most/2, 8)...)
	got, ok = impl.SpansOf(4, append(halves[:most-1:most-1], 4), vals[:most])
	isSpans(t, "SpansOf of two halves", got, ok, []impl.Span{span(0, 8, agg(most, 2*most, 2, 2))}, true)
	refusesSpans(t, 4, append(halves[:most:most], 4), vals)
}

// As many things as all spans have room for.
func TestSpansOfAsManyAsThereCanBe(t *testing.T) {
	times := []int{}
	for range most {
		times = append(times, steps(-latest, 500, mostSpans)...)
	}
	got, ok := impl.SpansOf(499, times, filled(len(times), -bound))
	if !ok || len(got) != mostSpans || got[mostSpans-1].A != agg(most, -most*bound, -bound, -bound) {
		t.Errorf("SpansOf of %d things tells %d spans, %v", len(times), len(got), ok)
	}
	refusesSpans(t, 499, append(times, 0), filled(len(times)+1, -bound))
}

func TestSpansOfRefuses(t *testing.T) {
	for _, gap := range append([]int{-1, -2, widestGap + 1}, math.MaxInt, math.MinInt, 1<<32, -1<<32) {
		refusesSpans(t, gap, nil, nil)
		refusesSpans(t, gap, []int{0}, []int{1})
		refusesSpans(t, gap, []int{0, 50000}, []int{1, 2})
	}
	for _, n := range []int{1, 2, 3, 10} {
		times := steps(0, 7, n)
		refusesSpans(t, 10, times, times[:n-1])
		refusesSpans(t, 10, times[:n-1], times)
		refusesSpans(t, 10, times, nil)
		refusesSpans(t, 10, nil, times)
		refusesSpans(t, 10, times, append(times, times...))
		for i := range n {
			for _, at := range refusedTimes() {
				bad := slices.Clone(times)
				bad[i] = at
				refusesSpans(t, 10, bad, times)
			}
			for _, val := range []int{bound + 1, -bound - 1, math.MaxInt, math.MinInt, 1 << 32} {
				bad := slices.Clone(times)
				bad[i] = val
				refusesSpans(t, 10, times, bad)
			}
		}
	}
	got, ok := impl.SpansOf(10, []int{-latest, latest}, []int{-bound, bound})
	isSpans(t, "SpansOf at all bounds", got, ok, []impl.Span{lone(-latest, -bound), lone(latest, bound)}, true)
}

func TestSpanAt(t *testing.T) {
	two := agg(2, 3, 1, 2)
	list := []impl.Span{span(-20, -10, two), lone(0, 1), span(11, 15, two)}
	places := map[int]int{0: 1}
	for at := -20; at <= -10; at++ {
		places[at] = 0
	}
	for at := 11; at <= 15; at++ {
		places[at] = 2
	}
	for at := -40; at <= 40; at++ {
		want, in := places[at]
		if !in {
			want = -1
		}
		if got := impl.SpanAt(list, at); got != want {
			t.Errorf("SpanAt(%v, %d) = %d; want %d", list, at, got, want)
		}
	}
	for _, at := range append(refusedTimes(), latest, -latest) {
		if got := impl.SpanAt(list, at); got != -1 {
			t.Errorf("SpanAt(%v, %d) = %d", list, at, got)
		}
	}
}

// Nothing is asked of a list: it may have any order, any numbers, and be of any length.
func TestSpanAtOfAnyList(t *testing.T) {
	messy := []impl.Span{span(50, 60, impl.Agg{}), span(0, 100, one(1)), span(-5, 55, impl.Agg{}), span(30, 20, impl.Agg{}), {}, span(math.MinInt, math.MaxInt, agg(-1, 5, 9, 3))}
	for _, x := range []struct {
		list     []impl.Span
		at, want int
	}{
		{nil, 0, -1}, {[]impl.Span{}, 5, -1}, {make([]impl.Span, 3), 0, 0}, {make([]impl.Span, 3), 1, -1}, {messy[:4:4][:0], 50, -1},
		{messy, 50, 0}, {messy, 55, 0}, {messy, 60, 0}, {messy, 49, 1}, {messy, 61, 1}, {messy, 0, 1}, {messy, 100, 1}, {messy, 25, 1},
		{messy, -1, 2}, {messy, -5, 2}, {messy, -6, 5}, {messy, 101, 5}, {messy, math.MaxInt, 5}, {messy, math.MinInt, 5},
		{messy[2:], 25, 0}, {messy[3:], 25, 2}, {messy[3:5], 25, -1}, {messy[3:5], 20, -1}, {messy[3:5], 30, -1}, {messy[3:5], 0, 1}, {messy[:1], 55, 0}, {messy[:1], 0, -1},
		{[]impl.Span{span(math.MaxInt, math.MaxInt, one(1)), span(math.MinInt, math.MinInt, one(1))}, math.MinInt, 1},
		{[]impl.Span{span(math.MaxInt, math.MinInt, one(1)), span(math.MaxInt, math.MaxInt, one(1))}, math.MaxInt, 1},
		{lones(7, 7, 7), 7, 0}, {lones(9, 8, 7), 7, 2}, {lones(steps(0, -1, 1000)...), -999, 999}, {lones(latest + 5), latest + 5, 0},
	} {
		if got := impl.SpanAt(x.list, x.at); got != x.want {
			t.Errorf("SpanAt(%.300v, %d) = %d; want %d", fmt.Sprint(x.list), x.at, got, x.want)
		}
	}
}

// Each thing is in the span that it came into.
func TestSpanAtOfEachThing(t *testing.T) {
	for seed := range 10 {
		things := mixedThings(80, 600, seed)
		list := spansOf(t, 5, things)
		in := make([][]int, len(list))
		for _, x := range things {
			i := impl.SpanAt(list, x.at)
			if i < 0 {
				t.Fatalf("SpanAt(%v, %d) = %d", list, x.at, i)
			}
			in[i] = append(in[i], x.val)
		}
		for i, vals := range in {
			if listed(t, vals) != list[i].A {
				t.Fatalf("the span %v is of %v", list[i], vals)
			}
		}
	}
}

func joinCases() []struct {
	gap        int
	a, b, want []impl.Span
} {
	two := agg(2, 3, 1, 2)
	wide := []impl.Span{span(0, 100, two)}
	return []struct {
		gap        int
		a, b, want []impl.Span
	}{
		{10, nil, nil, nil}, {0, []impl.Span{}, nil, nil},
		{10, lones(0, 11), nil, lones(0, 11)},
		{10, lones(0, 11), lones(22), lones(0, 11, 22)}, {10, lones(0, 22), lones(11), lones(0, 11, 22)},
		{0, lones(0, 2, 4), lones(1, 3, 5), lones(0, 1, 2, 3, 4, 5)},
		// Just the gap from one another, and one more.
		{10, lones(0), lones(10), []impl.Span{span(0, 10, agg(2, 2, 1, 1))}},
		{10, lones(0), lones(11), lones(0, 11)},
		{0, lones(0), lones(0), []impl.Span{span(0, 0, agg(2, 2, 1, 1))}},
		{9, wide, []impl.Span{lone(-9, 5), lone(109, 6)}, []impl.Span{span(-9, 109, agg(4, 14, 1, 6))}},
		{9, wide, []impl.Span{lone(-10, 5), lone(110, 6)}, []impl.Span{lone(-10, 5), wide[0], lone(110, 6)}},
		{9, wide, []impl.Span{lone(-9, 5), lone(110, 6)}, []impl.Span{span(-9, 100, agg(3, 8, 1, 5)), lone(110, 6)}},
		// One reaches over several.
		{10, wide, lones(0, 20, 50, 80, 100), []impl.Span{span(0, 100, agg(7, 8, 1, 2))}},
		{10, wide, lones(-20, 20, 50, 120), []impl.Span{lone(-20, 1), span(0, 100, agg(4, 5, 1, 2)), lone(120, 1)}},
		{10, wide, []impl.Span{span(-50, -5, two), span(20, 30, two), span(95, 150, two)}, []impl.Span{span(-50, 150, agg(8, 12, 1, 2))}},
		{0, wide, []impl.Span{span(-50, -1, two), span(101, 150, two)}, []impl.Span{span(-50, -1, two), wide[0], span(101, 150, two)}},
		{0, wide, []impl.Span{span(-50, 0, two), span(100, 150, two)}, []impl.Span{span(-50, 150, agg(6, 9, 1, 2))}},
		{5, wide, []impl.Span{span(0, 100, agg(3, 8, -2, 5))}, []impl.Span{span(0, 100, agg(5, 11, -2, 5))}},
		{5, wide, []impl.Span{span(-1, 101, agg(3, 8, -2, 5))}, []impl.Span{span(-1, 101, agg(5, 11, -2, 5))}},
		// One that begins with another one and ends ahead of it, and the other way around.
		{0, wide, []impl.Span{span(0, 3, two), span(98, 100, two)}, []impl.Span{span(0, 100, agg(6, 9, 1, 2))}},
		// Along a chain of both.
		{10, lones(0, 20, 40, 60), lones(10, 30, 50), []impl.Span{span(0, 60, agg(7, 7, 1, 1))}},
		{10, lones(0, 20, 41, 61), lones(10, 30, 51), []impl.Span{span(0, 30, agg(4, 4, 1, 1)), span(41, 61, agg(3, 3, 1, 1))}},
		{9, lones(0, 20, 40, 60), lones(10, 30, 50), lones(0, 10, 20, 30, 40, 50, 60)},
		{2, []impl.Span{span(0, 10, two), span(14, 20, two), span(24, 30, two)}, []impl.Span{span(8, 12, two), span(18, 26, two)}, []impl.Span{span(0, 30, agg(10, 15, 1, 2))}},
		{2, []impl.Span{span(0, 10, two), span(14, 20, two), span(24, 30, two)}, []impl.Span{span(8, 11, two), span(18, 26, two)}, []impl.Span{span(0, 11, agg(4, 6, 1, 2)), span(14, 30, agg(6, 9, 1, 2))}},
		{10, []impl.Span{{From: 0, To: 0, A: one(1)}, {From: 50, To: 50, A: one(2)}}, []impl.Span{span(10, 40, two)}, []impl.Span{span(0, 50, agg(4, 6, 1, 2))}},
		// At the bounds of all moments.
		{widestGap, lones(-latest, latest), lones(0), lones(-latest, 0, latest)},
		{widestGap, lones(steps(-latest, 2*widestGap, 11)...), lones(steps(-latest+widestGap, 2*widestGap, 10)...), []impl.Span{span(-latest, latest, agg(21, 21, 1, 1))}},
		{3, []impl.Span{span(-latest, latest, two)}, lones(-latest, 0, latest), []impl.Span{span(-latest, latest, agg(5, 6, 1, 2))}},
	}
}

func TestSpansJoin(t *testing.T) {
	for _, x := range joinCases() {
		for _, lists := range [][2][]impl.Span{{x.a, x.b}, {x.b, x.a}} {
			got, ok := impl.SpansJoin(x.gap, lists[0], lists[1])
			isSpans(t, fmt.Sprintf("SpansJoin(%d, %v, %v)", x.gap, lists[0], lists[1]), got, ok, x.want, true)
			byHand, ok := joinedByHand(x.gap, lists[0], lists[1])
			isSpans(t, fmt.Sprintf("the test's own of %d, %v, %v", x.gap, lists[0], lists[1]), byHand, ok, x.want, true)
		}
	}
}

func TestSpansJoinOfEachTwoSmallLists(t *testing.T) {
	fewer := map[int]int{}
	for gap := range 3 {
		lists := smallLists(gap, 0, 4+gap)
		for _, a := range lists {
			for _, b := range lists {
				want, _ := joinedByHand(gap, a, b)
				got, ok := impl.SpansJoin(gap, a, b)
				if !ok || !slices.Equal(got, want) || !impl.SpansOk(gap, got) {
					t.Fatalf("SpansJoin(%d, %v, %v) = %v, %v; want %v", gap, a, b, got, ok, want)
				}
				fewer[len(a)+len(b)-len(got)]++
			}
		}
	}
	if fewer[0] < 500 || fewer[1] < 500 || fewer[3] < 500 || fewer[5] < 500 {
		t.Errorf("the lists are too dull: by so many fewer spans came so often: %v", fewer)
	}
}

func TestSpansJoinOfOneListWithItselfAndWithNone(t *testing.T) {
	for _, x := range acceptedSpans() {
		for _, none := range [][]impl.Span{nil, {}} {
			got, ok := impl.SpansJoin(x.gap, x.list, none)
			isSpans(t, "SpansJoin with none", got, ok, x.list, true)
			got, ok = impl.SpansJoin(x.gap, none, x.list)
			isSpans(t, "SpansJoin of none with some", got, ok, x.list, true)
		}
		twice, fit := []impl.Span{}, true
		for _, s := range x.list {
			twice = append(twice, span(s.From, s.To, agg(2*s.A.N, 2*s.A.Sum, s.A.Min, s.A.Max)))
			fit = fit && 2*s.A.N <= most
		}
		if !fit {
			twice = nil
		}
		got, ok := impl.SpansJoin(x.gap, x.list, x.list)
		isSpans(t, fmt.Sprintf("SpansJoin of %.300v with itself", fmt.Sprint(x.list)), got, ok, twice, fit)
	}
}

// The spans of two rows of things, joined, are the spans of all of them, whichever things are in which row.
func TestSpansOfTwoRowsJoinedAreThoseOfAll(t *testing.T) {
	for seed := range 60 {
		things := mixedThings(9, 30+2*seed, seed)
		gap := seed % 13
		want := spansOf(t, gap, things)
		for set := range 1 << len(things) {
			rows := [2][]thing{}
			for i, x := range things {
				rows[set>>i&1] = append(rows[set>>i&1], x)
			}
			if got := spansJoin(t, gap, spansOf(t, gap, rows[0]), spansOf(t, gap, rows[1])); !slices.Equal(got, want) {
				t.Fatalf("SpansJoin(%d) of those of %v and of %v = %v; want %v", gap, rows[0], rows[1], got, want)
			}
		}
	}
}

func TestSpansOfManyRowsJoinedAreThoseOfAll(t *testing.T) {
	for seed := range 40 {
		things := mixedThings(350, 3000*(seed%7+1), seed)
		gap := 5 * (seed%9 + 1) * (seed%7 + 1)
		want := cutByHand(gap, things)
		rows := [3][]thing{}
		for i, x := range shuffled(things, seed) {
			k := (i*i + seed) % 3
			rows[k] = append(rows[k], x)
		}
		a, b, c := spansOf(t, gap, rows[0]), spansOf(t, gap, rows[1]), spansOf(t, gap, rows[2])
		first := spansJoin(t, gap, spansJoin(t, gap, a, b), c)
		last := spansJoin(t, gap, a, spansJoin(t, gap, c, b))
		if !slices.Equal(first, want) || !slices.Equal(last, want) {
			t.Fatalf("SpansJoin(%d) of three rows tells %d and %d spans; want %d", gap, len(first), len(last), len(want))
		}
		if len(want) < 3 || len(want) >= len(a)+len(b)+len(c) {
			t.Errorf("the things of seed %d are too dull: %d spans", seed, len(want))
		}
	}
}

func TestSpansJoinAtTheLimitOfSpans(t *testing.T) {
	full := steps(-90000, 20, mostSpans)
	all := lones(full...)
	odd, even := []int{}, []int{}
	for i, at := range full {
		if i%2 == 0 {
			even = append(even, at)
		} else {
			odd = append(odd, at)
		}
	}
	for _, x := range []struct {
		gap  int
		a, b []impl.Span
		n    int
	}{
		{10, all, nil, mostSpans}, {10, all, all, mostSpans}, {10, lones(odd...), lones(even...), mostSpans}, {10, all[:200], all[200:], mostSpans}, {19, all[:200], all[:200], 200},
		{10, all[:mostSpans-1], all[mostSpans-1:], mostSpans}, {10, all[:mostSpans-1], lones(50000), mostSpans},
		{10, all, lones(50000), 0}, {10, lones(50000), all, 0}, {10, all, lones(-latest), 0}, {10, lones(odd...), lones(append(slices.Clone(even), 50000)...), 0},
		{10, all, lones(steps(10000, 20, mostSpans)...), 0}, {9, all, lones(-89990), 0},
		// One more, while two others become one: ahead of it, or behind it.
		{10, all, lones(-89990, 50000), mostSpans}, {10, lones(-89990, 50000), all, mostSpans}, {10, all, lones(-latest, full[mostSpans-1]-10), mostSpans},
		{10, lones(-latest, full[mostSpans-1]-10), all, mostSpans}, {10, all, lones(-latest, -89990, 50000), 0}, {10, all, lones(-latest, -89990, -89970, 50000), mostSpans},
		{10, all, lones(steps(-89990, 20, mostSpans-1)...), 1}, {10, all, lones(steps(-89990, 20, mostSpans)...), 1}, {9, all, lones(steps(-89990, 20, mostSpans)...), 0},
		{10, all, []impl.Span{span(-latest, latest, agg(2, 3, 1, 2))}, 1}, {10, []impl.Span{span(-latest, latest, agg(2, 3, 1, 2))}, all, 1},
	} {
		got, ok := impl.SpansJoin(x.gap, x.a, x.b)
		if ok != (x.n > 0) || len(got) != x.n {
			t.Errorf("SpansJoin(%d) of %d and %d spans tells %d, %v; want %d", x.gap, len(x.a), len(x.b), len(got), ok, x.n)
		}
		want, wanted := joinedByHand(x.gap, x.a, x.b)
		isSpans(t, fmt.Sprintf("SpansJoin(%d) of %d and %d spans", x.gap, len(x.a), len(x.b)), got, ok, want, wanted)
	}
}

func TestSpansJoinAtTheLimitOfValues(t *testing.T) {
	of := func(from, to, n int) impl.Span { return span(from, to, agg(n, 0, 0, 0)) }
	for _, x := range []struct {
		a, b []impl.Span
		ok   bool
	}{
		{[]impl.Span{of(0, 9, 500)}, []impl.Span{of(4, 20, 500)}, true},
		{[]impl.Span{of(0, 9, 500)}, []impl.Span{of(4, 20, 501)}, false},
		{[]impl.Span{of(0, 9, most)}, []impl.Span{lone(19, 0)}, false},
		{[]impl.Span{of(0, 9, most)}, []impl.Span{lone(20, 0)}, true},
		{[]impl.Span{of(0, 9, most-1)}, []impl.Span{lone(-10, 0)}, true},
		{[]impl.Span{of(0, 9, most)}, []impl.Span{of(0, 9, most)}, false},
		{[]impl.Span{of(0, 9, most)}, []impl.Span{of(20, 30, most)}, true},
		{[]impl.Span{of(0, 9, 300), of(25, 30, 300), of(50, 60, 100)}, []impl.Span{of(15, 20, 200), of(35, 45, 100)}, true},
		{[]impl.Span{of(0, 9, 300), of(25, 30, 300), of(50, 60, 100)}, []impl.Span{of(15, 20, 200), of(35, 45, 101)}, false},
		{[]impl.Span{of(0, 9, 300), of(25, 30, 300), of(50, 60, 101)}, []impl.Span{of(15, 20, 200), of(35, 45, 100)}, false},
		{[]impl.Span{of(0, 9, 301), of(25, 30, 300), of(50, 60, 100)}, []impl.Span{of(15, 20, 200), of(35, 45, 100)}, false},
		{[]impl.Span{of(0, 9, 301), of(25, 30, 300), of(50, 60, 700)}, []impl.Span{of(15, 20, 200), of(90, 95, most)}, true},
		{lones(0, 20, 40), []impl.Span{of(-5, 45, most-3)}, true},
		{lones(0, 20, 40), []impl.Span{of(-5, 45, most-2)}, false},
		{[]impl.Span{of(500, 500, most), lone(600, 0)}, []impl.Span{lone(0, 0), lone(500, 0)}, false},
	} {
		want, wanted := joinedByHand(10, x.a, x.b)
		if wanted != x.ok {
			t.Errorf("the test's own of %v and %v is %v", x.a, x.b, wanted)
		}
		got, ok := impl.SpansJoin(10, x.a, x.b)
		isSpans(t, fmt.Sprintf("SpansJoin(10, %v, %v)", x.a, x.b), got, ok, want, x.ok)
		got, ok = impl.SpansJoin(10, x.b, x.a)
		isSpans(t, fmt.Sprintf("SpansJoin(10, %v, %v)", x.b, x.a), got, ok, want, x.ok)
	}
}

func TestSpansJoinRefuses(t *testing.T) {
	for _, x := range refusedSpans() {
		refusesSpansJoin(t, x.gap, x.list, x.list)
		for _, sound := range [][]impl.Span{nil, lones(0), lones(-50, 50), lones(latest), {span(-latest, latest, agg(2, 3, 1, 2))}} {
			refusesSpansJoin(t, x.gap, x.list, sound)
			refusesSpansJoin(t, x.gap, sound, x.list)
		}
	}
	// SpansOk with one gap, not with another one.
	refusesSpansJoin(t, 11, lones(0, 11), lones(100, 112))
	refusesSpansJoin(t, 11, lones(100, 112), lones(0, 11))
	spansJoin(t, 10, lones(100, 112), lones(0, 11))
}

// roomySpans has spare room behind its list, and tells the list with this room.
func roomySpans(list []impl.Span) ([]impl.Span, []impl.Span) {
	behind := append(slices.Clone(list), lone(90001, 8), lone(90002, 9))
	return behind[:len(list)], behind
}

func TestSessionsLeaveTheirArguments(t *testing.T) {
	a, b := lones(0, 20, 40, 60), []impl.Span{lone(-40, 3), span(10, 35, agg(2, 3, 1, 2)), lone(80, 4)}
	left, leftBehind := roomySpans(a)
	right, rightBehind := roomySpans(b)
	times, vals := append(steps(0, 10, 9), 90001, 90002), append(steps(5, -1, 9), 8, 9)
	before := fmt.Sprint(leftBehind, rightBehind, times, vals)
	for _, gap := range []int{0, 9, 10, 15} {
		want, wanted := joinedByHand(gap, a, b)
		got, ok := impl.SpansJoin(gap, left, right)
		isSpans(t, "SpansJoin", got, ok, want, wanted)
		got, ok = impl.SpansJoin(gap, right, left)
		isSpans(t, "SpansJoin turned", got, ok, want, wanted)
		for _, at := range []int{-100, -5, 0, 5, 10, 20, 50, 61, 70, 71, 90001} {
			want, wanted := joinedByHand(gap, a, []impl.Span{lone(at, 6)})
			got, ok := impl.SpanAdd(gap, left, at, 6)
			isSpans(t, "SpanAdd", got, ok, want, wanted)
		}
		things := []thing{}
		for i := range 9 {
			things = append(things, thing{times[i], vals[i]})
		}
		want, wanted = spansByHand(gap, things)
		got, ok = impl.SpansOf(gap, times[:9], vals[:9])
		isSpans(t, "SpansOf", got, ok, want, wanted)
		if !impl.SpansOk(gap, left) || impl.SpanAt(left, 40) != 2 || impl.SpanAt(left, 90001) != -1 {
			t.Errorf("SpansOk or SpanAt of %v", left)
		}
	}
	refusesSpans(t, 5, times[:8], vals[:9])
	if got := fmt.Sprint(leftBehind, rightBehind, times, vals); got != before {
		t.Errorf("something is written into an argument: %s; it was %s", got, before)
	}
}

func TestWhatSessionsTellIsNewMemory(t *testing.T) {
	a, b := lones(0, 20, 40, 60), []impl.Span{lone(-40, 3), span(10, 35, agg(2, 3, 1, 2)), lone(80, 4)}
	left, leftBehind := roomySpans(a)
	right, rightBehind := roomySpans(b)
	times, vals := append(steps(0, 10, 9), 90001)[:9], append(steps(5, -1, 9), 8)[:9]
	before := fmt.Sprint(leftBehind, rightBehind, times[:10], vals[:10])
	for i, tells := range []func() ([]impl.Span, bool){
		func() ([]impl.Span, bool) { return impl.SpansJoin(0, left, right) },
		func() ([]impl.Span, bool) { return impl.SpansJoin(10, right, left) },
		func() ([]impl.Span, bool) { return impl.SpansJoin(10, left, left) },
		func() ([]impl.Span, bool) { return impl.SpansJoin(10, left, nil) },
		func() ([]impl.Span, bool) { return impl.SpansJoin(10, left[:0], right) },
		func() ([]impl.Span, bool) { return impl.SpanAdd(10, left, 90000, 5) },
		func() ([]impl.Span, bool) { return impl.SpanAdd(10, left, 20, 5) },
		func() ([]impl.Span, bool) { return impl.SpanAdd(10, left, 50, 5) },
		func() ([]impl.Span, bool) { return impl.SpanAdd(10, left[:0], 50, 5) },
		func() ([]impl.Span, bool) { return impl.SpansOf(10, times, vals) },
		func() ([]impl.Span, bool) { return impl.SpansOf(9, times, vals) },
	} {
		got, ok := tells()
		if !ok || len(got) == 0 {
			t.Fatalf("answer %d is %v, %v", i, got, ok)
		}
		want := slices.Clone(got)
		for _, behind := range got[len(got):cap(got)] {
			if !reflect.ValueOf(behind).IsZero() {
				t.Errorf("behind answer %d lies %v", i, behind)
			}
		}
		for j := range got {
			got[j] = span(97, 98, agg(9, 9, 9, 9))
		}
		_ = append(got, lone(99, 9))
		if fmt.Sprint(leftBehind, rightBehind, times[:10], vals[:10]) != before {
			t.Fatalf("answer %d shares memory with an argument", i)
		}
		if again, _ := tells(); !slices.Equal(again, want) {
			t.Fatalf("answer %d tells what was written into an earlier one: %v; want %v", i, again, want)
		}
	}
}
