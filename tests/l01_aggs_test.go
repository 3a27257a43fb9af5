package tests

import (
	"math"
	"slices"
	"strings"
	"testing"

	"loop.example/g00552/impl"
)

const bound = impl.MaxVal
const most = impl.MaxCount

func agg(n, sum, least, greatest int) impl.Agg {
	return impl.Agg{N: n, Sum: sum, Min: least, Max: greatest}
}

func filled(n, v int) []int {
	return slices.Repeat([]int{v}, n)
}

func listed(t *testing.T, list []int) impl.Agg {
	t.Helper()
	a, ok := impl.AggList(list)
	if !ok {
		t.Fatalf("AggList refuses %d values", len(list))
	}
	return a
}

func refusesJoin(t *testing.T, a, b impl.Agg) {
	t.Helper()
	if got, ok := impl.AggJoin(a, b); ok || got != (impl.Agg{}) {
		t.Errorf("AggJoin(%v, %v) = %v, %v; want nothing, false", a, b, got, ok)
	}
}

func refusesText(t *testing.T, s string) {
	t.Helper()
	if got, ok := impl.AggRead(s); ok || got != (impl.Agg{}) {
		t.Errorf("AggRead(%q) = %v, %v; want nothing, false", s, got, ok)
	}
}

// acceptedAggs holds ordinary aggregates and those at a limit.
func acceptedAggs() []impl.Agg {
	return []impl.Agg{
		{},
		agg(1, 0, 0, 0),
		agg(1, 7, 7, 7),
		agg(1, -7, -7, -7),
		agg(1, bound, bound, bound),
		agg(1, -bound, -bound, -bound),
		agg(2, 0, 0, 0),
		agg(2, 3, -2, 5),
		agg(2, 0, -bound, bound),
		agg(2, 2*bound, bound, bound),
		agg(2, -2*bound, -bound, -bound),
		agg(3, 8, -2, 5),
		agg(3, 1, -2, 5),
		agg(most-1, 0, -1, 1),
		agg(most, 0, 0, 0),
		agg(most, most*bound, bound, bound),
		agg(most, -most*bound, -bound, -bound),
		agg(most, (most-1)*-bound+bound, -bound, bound),
		agg(most, (most-1)*bound-bound, -bound, bound),
	}
}

// refusedAggs holds those one beyond a limit, and numbers whose products would wrap around.
func refusedAggs() []impl.Agg {
	least := (most-1)*-bound + bound
	greatest := (most-1)*bound - bound
	list := []impl.Agg{
		agg(0, 1, 0, 0), agg(0, 0, -1, 0), agg(0, 0, 0, 1), agg(0, 1, 1, 1),
		agg(-1, 0, 0, 0), agg(-1, 5, 5, 5),
		agg(1, 2, 1, 1), agg(1, 1, 2, 1), agg(1, 1, 1, 2), agg(1, 1, 0, 1),
		agg(1, bound+1, bound+1, bound+1), agg(1, -bound-1, -bound-1, -bound-1),
		agg(2, 1, 1, 1), agg(2, 4, -2, 5), agg(2, 2, -2, 5), agg(2, 3, 5, -2),
		agg(2, 1, -bound, bound+1), agg(2, -1, -bound-1, bound),
		agg(2, 2*bound+2, bound+1, bound+1), agg(2, -2*bound-2, -bound-1, -bound-1),
		agg(3, 0, -2, 5), agg(3, 9, -2, 5), agg(3, 0, 1, -1),
		agg(most, least-1, -bound, bound), agg(most, greatest+1, -bound, bound),
		agg(most, most*bound+1, bound, bound), agg(most, most*bound-1, bound, bound),
		agg(most, -most*bound-1, -bound, -bound), agg(most, -most*bound+1, -bound, -bound),
		agg(most+1, 0, 0, 0), agg(most+1, 0, -1, 1), agg(most+1, most+1, 1, 1),
	}
	for _, n := range []int{math.MinInt, math.MinInt + 1, math.MaxInt - 1, math.MaxInt} {
		list = append(list, agg(n, 0, 0, 0), agg(0, n, 0, 0), agg(0, 0, n, 0), agg(0, 0, 0, n))
		list = append(list, agg(1, n, n, n), agg(2, 2*n, n, n), agg(3, 3*n, n, n), agg(n, n, n, n))
		list = append(list, agg(3, n, -2, 5), agg(3, 0, n, 5), agg(3, 0, -2, n), agg(n, 8, -2, 5))
	}
	return append(list, agg(2, -1, math.MinInt, math.MaxInt), agg(1<<32, 0, 1<<32, 1<<32), agg(5, 0, -1<<62, 1<<62))
}

// possibleAggs holds what comes of every row of at most n numbers in -r .. r, told without the program.
func possibleAggs(n, r int) map[impl.Agg]bool {
	possible := map[impl.Agg]bool{{}: true}
	row := []int{}
	var extend func()
	extend = func() {
		if len(row) > 0 {
			sum := 0
			for _, v := range row {
				sum += v
			}
			possible[agg(len(row), sum, slices.Min(row), slices.Max(row))] = true
		}
		if len(row) == n {
			return
		}
		for v := -r; v <= r; v++ {
			row = append(row, v)
			extend()
			row = row[:len(row)-1]
		}
	}
	extend()
	return possible
}

func TestAggOkIsWhatSomeRowHas(t *testing.T) {
	const n, r = 4, 3
	possible := possibleAggs(n, r)
	for count := -1; count <= n; count++ {
		for sum := -n*r - 2; sum <= n*r+2; sum++ {
			for least := -r; least <= r; least++ {
				for greatest := -r; greatest <= r; greatest++ {
					a := agg(count, sum, least, greatest)
					if impl.AggOk(a) != possible[a] {
						t.Errorf("AggOk(%v) = %v", a, !possible[a])
					}
				}
			}
		}
	}
}

func TestAggOkAtAndBeyondLimits(t *testing.T) {
	if impl.MaxVal != 1000000 || impl.MaxCount != 1000 {
		t.Fatal(impl.MaxVal, impl.MaxCount)
	}
	for _, a := range acceptedAggs() {
		if !impl.AggOk(a) {
			t.Errorf("AggOk(%v) = false", a)
		}
	}
	for _, a := range refusedAggs() {
		if impl.AggOk(a) {
			t.Errorf("AggOk(%v) = true", a)
		}
	}
}

func TestAggOf(t *testing.T) {
	for _, v := range []int{0, 1, -1, 42, bound, -bound, bound - 1, -bound + 1} {
		if got := impl.AggOf(v); got != agg(1, v, v, v) {
			t.Errorf("AggOf(%d) = %v", v, got)
		}
	}
	for _, v := range []int{bound + 1, -bound - 1, math.MaxInt, math.MinInt} {
		if got := impl.AggOf(v); got != (impl.Agg{}) {
			t.Errorf("AggOf(%d) = %v; want nothing", v, got)
		}
	}
}

func TestAggJoinTellsTheValuesOfBoth(t *testing.T) {
	for _, c := range []struct{ a, b, want impl.Agg }{
		{agg(3, 8, -2, 5), agg(1, 9, 9, 9), agg(4, 17, -2, 9)},
		{agg(1, -4, -4, -4), agg(1, 6, 6, 6), agg(2, 2, -4, 6)},
		{agg(2, 9, 4, 5), agg(2, -9, -5, -4), agg(4, 0, -5, 5)},
		// An empty one has no least of 0 and no greatest of 0.
		{agg(2, 9, 4, 5), impl.Agg{}, agg(2, 9, 4, 5)},
		{agg(2, -9, -5, -4), impl.Agg{}, agg(2, -9, -5, -4)},
		{agg(1, 0, 0, 0), impl.Agg{}, agg(1, 0, 0, 0)},
		{agg(1, 0, 0, 0), agg(1, 5, 5, 5), agg(2, 5, 0, 5)},
		{impl.Agg{}, impl.Agg{}, impl.Agg{}},
	} {
		ab, abOk := impl.AggJoin(c.a, c.b)
		ba, baOk := impl.AggJoin(c.b, c.a)
		if !abOk || !baOk || ab != c.want || ba != c.want {
			t.Errorf("AggJoin(%v, %v) = %v, %v; turned round %v, %v; want %v", c.a, c.b, ab, abOk, ba, baOk, c.want)
		}
	}
}

// joinThree tells both orders in which three are joined: the left two first, the right two first.
func joinThree(a, b, c impl.Agg) (left, right impl.Agg, leftOk, rightOk bool) {
	if ab, ok := impl.AggJoin(a, b); ok {
		left, leftOk = impl.AggJoin(ab, c)
	}
	if bc, ok := impl.AggJoin(b, c); ok {
		right, rightOk = impl.AggJoin(a, bc)
	}
	return left, right, leftOk, rightOk
}

func TestAggJoinInEitherOrder(t *testing.T) {
	list := append(acceptedAggs(), agg(most/2, 0, -1, 1), agg(most-2, most-2, 1, 1))
	for _, a := range list {
		for _, b := range list {
			ab, abOk := impl.AggJoin(a, b)
			ba, baOk := impl.AggJoin(b, a)
			if ab != ba || abOk != baOk || abOk != (a.N+b.N <= most) || !impl.AggOk(ab) {
				t.Fatalf("AggJoin of %v and %v: %v, %v or %v, %v", a, b, ab, abOk, ba, baOk)
			}
			for _, c := range list {
				left, right, leftOk, rightOk := joinThree(a, b, c)
				fits := a.N+b.N+c.N <= most
				if left != right || leftOk != fits || rightOk != fits || fits && left.N != a.N+b.N+c.N {
					t.Fatalf("%v, %v, %v: %v, %v or %v, %v", a, b, c, left, leftOk, right, rightOk)
				}
			}
		}
	}
}

func TestAggJoinRefuses(t *testing.T) {
	for _, bad := range refusedAggs() {
		refusesJoin(t, bad, impl.Agg{})
		refusesJoin(t, impl.Agg{}, bad)
		refusesJoin(t, bad, agg(1, 1, 1, 1))
		refusesJoin(t, agg(1, 1, 1, 1), bad)
		refusesJoin(t, bad, bad)
	}
	full := agg(most, most, 1, 1)
	if got, ok := impl.AggJoin(full, impl.Agg{}); !ok || got != full {
		t.Errorf("%v, %v", got, ok)
	}
	if got, ok := impl.AggJoin(agg(most-1, most-1, 1, 1), impl.AggOf(1)); !ok || got != full {
		t.Errorf("%v, %v", got, ok)
	}
	refusesJoin(t, full, impl.AggOf(1))
	refusesJoin(t, impl.AggOf(1), full)
	refusesJoin(t, full, full)
}

func TestAggList(t *testing.T) {
	for _, c := range []struct {
		list []int
		want impl.Agg
	}{
		{nil, impl.Agg{}},
		{[]int{}, impl.Agg{}},
		{[]int{0}, agg(1, 0, 0, 0)},
		{[]int{4}, agg(1, 4, 4, 4)},
		{[]int{5, -2, 5}, agg(3, 8, -2, 5)},
		{[]int{3, 4, 5}, agg(3, 12, 3, 5)},
		{[]int{-5, -4, -3}, agg(3, -12, -5, -3)},
		{[]int{-bound, bound}, agg(2, 0, -bound, bound)},
		{filled(most, bound), agg(most, most*bound, bound, bound)},
		{filled(most, -bound), agg(most, -most*bound, -bound, -bound)},
		{append(filled(most-1, -bound), bound), agg(most, (most-1)*-bound+bound, -bound, bound)},
		{append(filled(most-1, bound), -bound), agg(most, (most-1)*bound-bound, -bound, bound)},
	} {
		if got := listed(t, c.list); got != c.want || !impl.AggOk(got) {
			t.Errorf("AggList = %v; want %v", got, c.want)
		}
	}
}

func TestAggListRefuses(t *testing.T) {
	lists := [][]int{filled(most+1, 0), filled(most+1, 1), filled(2*most, -bound)}
	for _, v := range []int{bound + 1, -bound - 1, math.MaxInt, math.MinInt} {
		lists = append(lists, []int{v}, []int{v, 1, 2}, []int{1, v, 2}, []int{1, 2, v})
		lists = append(lists, []int{v, -v}, append(filled(most-1, 0), v))
	}
	for _, list := range lists {
		if got, ok := impl.AggList(list); ok || got != (impl.Agg{}) {
			t.Errorf("AggList of %d numbers = %v, %v; want nothing, false", len(list), got, ok)
		}
	}
}

func TestAggListLeavesItsArgument(t *testing.T) {
	room := []int{3, -1, 4, math.MaxInt, 77}
	before := slices.Clone(room)
	if got := listed(t, room[:3]); got != agg(3, 6, -1, 4) {
		t.Errorf("AggList reads what lies behind the list: %v", got)
	}
	if !slices.Equal(room, before) {
		t.Errorf("AggList writes into its argument: %v", room)
	}
}

// mixed tells n values that differ from one seed to another, both limits among them.
func mixed(n, seed int) []int {
	list := make([]int, n)
	for i := range list {
		seed = (seed*1103515245 + 12345) % (1 << 31)
		list[i] = seed%(2*bound+1) - bound
		if seed%17 == 0 {
			list[i] = bound
		}
		if seed%19 == 0 {
			list[i] = -bound
		}
	}
	return list
}

func TestTwoRowsAreTheJoinOfBoth(t *testing.T) {
	sizes := []int{0, 1, 2, 3, 10, most / 2, most - 1, most}
	for _, n := range sizes {
		for _, m := range sizes {
			a, b := mixed(n, n+1), mixed(m, m+5)
			joined, ok := impl.AggJoin(listed(t, a), listed(t, b))
			whole, fits := impl.AggList(slices.Concat(a, b))
			if joined != whole || ok != fits || fits != (n+m <= most) {
				t.Errorf("%d and %d values: %v, %v or %v, %v", n, m, joined, ok, whole, fits)
			}
		}
	}
}

func TestEachCutOfARowIsTheSame(t *testing.T) {
	row := mixed(40, 3)
	whole := listed(t, row)
	turned := slices.Clone(row)
	slices.Reverse(turned)
	if got := listed(t, turned); got != whole {
		t.Errorf("turned round: %v; want %v", got, whole)
	}
	for cut := range len(row) + 1 {
		got, ok := impl.AggJoin(listed(t, row[:cut]), listed(t, row[cut:]))
		if !ok || got != whole {
			t.Errorf("cut at %d: %v, %v; want %v", cut, got, ok, whole)
		}
	}
}

func TestAggText(t *testing.T) {
	for _, c := range []struct {
		a    impl.Agg
		want string
	}{
		{impl.Agg{}, "0 0 0 0"},
		{agg(1, 0, 0, 0), "1 0 0 0"},
		{agg(1, -7, -7, -7), "1 -7 -7 -7"},
		{agg(3, 8, -2, 5), "3 8 -2 5"},
		{agg(most, -most*bound, -bound, -bound), "1000 -1000000000 -1000000 -1000000"},
		{agg(most, most*bound, bound, bound), "1000 1000000000 1000000 1000000"},
		{agg(most, 998000000, -bound, bound), "1000 998000000 -1000000 1000000"},
	} {
		if got := impl.AggText(c.a); got != c.want {
			t.Errorf("AggText(%v) = %q; want %q", c.a, got, c.want)
		}
	}
	for _, a := range refusedAggs() {
		if got := impl.AggText(a); got != "" {
			t.Errorf("AggText(%v) = %q; want an empty text", a, got)
		}
	}
}

func TestAggReadTakesWhatAggTextWrites(t *testing.T) {
	list := acceptedAggs()
	for a := range possibleAggs(3, 3) {
		list = append(list, a)
	}
	for n := range 60 {
		list = append(list, listed(t, mixed(n, n+9)))
	}
	for _, a := range list {
		if got, ok := impl.AggRead(impl.AggText(a)); !ok || got != a {
			t.Errorf("AggRead(%q) = %v, %v; want %v", impl.AggText(a), got, ok, a)
		}
	}
}

func TestAggReadRefuses(t *testing.T) {
	for _, s := range []string{
		"", " ", "   ", "    ", "0", "0 0", "0 0 0", "0 0 0 0 0", "3 8 -2", "3 8 -2 5 5", "3 8 -2 5 ", " 3 8 -2 5",
		"3  8 -2 5", "3 8  -2 5", "3 8 -2  5", " 3 8 -2 5 ", "3 8 -2 ", " 8 -2 5", "3\t8\t-2\t5", "3 8 -2 5\n", "\n3 8 -2 5",
		"03 8 -2 5", "3 08 -2 5", "3 8 -02 5", "3 8 -2 05", "00 0 0 0", "0 0 0 00", "0 000 0 0",
		"-0 0 0 0", "0 -0 0 0", "0 0 -0 0", "0 0 0 -0", "1 -0 0 0", "1 0 0 -0",
		"+3 8 -2 5", "3 +8 -2 5", "3 8 -2 +5", "3 8 +-2 5", "3 8 --2 5", "3 8 - 5", "3 8 2- 5", "3 8 - 2 5", "- - - -",
		"3 8 -2 5x", "3 8 -2 0x5", "3 8 -2 5.0", "3 8 -2 5e0", "3 1_0 -2 5", "a b c d", "3,8,-2,5", "3 8 −2 5", "3 8 -2 ５",
		"3 8 -2 5\x00", "\xff 8 -2 5", "3 8 -2 five",
		"1 99999999999999999999 1 1", "99999999999999999999 0 0 0", "3 8 -99999999999999999999 5", "3 8 -2 18446744073709551621",
		"9223372036854775807 0 0 0", "-9223372036854775808 0 0 0", "1 9223372036854775807 9223372036854775807 9223372036854775807",
		"0 1 0 0", "0 0 0 1", "1 1 1 2", "1 1000001 1000001 1000001", "2 1 1 1", "3 9 -2 5", "3 0 -2 5", "3 8 5 -2", "-1 0 0 0",
		"1001 0 0 0", "1000 998000001 -1000000 1000000", "1000 -998000001 -1000000 1000000",
		strings.Repeat(" ", 100000), strings.Repeat("0 ", 100000), "0 0 0 " + strings.Repeat("0", 100000), "0 0 0 " + strings.Repeat("9", 100000),
	} {
		refusesText(t, s)
	}
	for _, a := range refusedAggs() {
		words := []string{impl.NumText(a.N), impl.NumText(a.Sum), impl.NumText(a.Min), impl.NumText(a.Max)}
		refusesText(t, strings.Join(words, " "))
	}
}

// nearTexts tells every text that comes of s by one of these bytes put in or put in another's place, or one taken out.
func nearTexts(s string, bytes string) []string {
	near := []string{}
	for i := range len(s) + 1 {
		for at := range len(bytes) {
			near = append(near, s[:i]+bytes[at:at+1]+s[i:])
			if i < len(s) {
				near = append(near, s[:i]+bytes[at:at+1]+s[i+1:])
			}
		}
		if i < len(s) {
			near = append(near, s[:i]+s[i+1:])
		}
	}
	return near
}

func TestAggReadTakesOnlyTexts(t *testing.T) {
	for _, a := range acceptedAggs() {
		for _, s := range nearTexts(impl.AggText(a), "0159 -+x\n") {
			if got, ok := impl.AggRead(s); ok && impl.AggText(got) != s {
				t.Errorf("AggRead(%q) = %v, whose text is %q", s, got, impl.AggText(got))
			} else if !ok && got != (impl.Agg{}) {
				t.Errorf("AggRead(%q) = %v and false", s, got)
			}
		}
	}
}

func TestNumText(t *testing.T) {
	for n, want := range map[int]string{
		0: "0", 1: "1", -1: "-1", 9: "9", 10: "10", -40: "-40", 100: "100", 1000000: "1000000", -1000000000: "-1000000000",
		math.MaxInt: "9223372036854775807", math.MinInt: "-9223372036854775808",
	} {
		if got := impl.NumText(n); got != want {
			t.Errorf("NumText(%d) = %q", n, got)
		}
	}
}
