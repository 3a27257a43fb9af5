package tests

import (
	"math"
	"reflect"
	"regexp"
	"slices"
	"strconv"
	"strings"
	"testing"

	"loop.example/g00552/impl"
)

const topDim = impl.MaxDim
const longest = impl.MaxDelay

func config(dims int, wins []impl.Win, masks []int, delay, late int) impl.Config {
	return impl.Config{Dims: dims, Wins: wins, Masks: masks, Delay: delay, Late: late}
}

func event(at, val int, dims ...int) impl.Event {
	return impl.Event{At: at, Dims: dims, Val: val}
}

func sameEvent(a, b impl.Event) bool {
	return a.At == b.At && a.Val == b.Val && slices.Equal(a.Dims, b.Dims)
}

// farNumbers holds numbers that no limit is near to.
func farNumbers() []int {
	return []int{math.MinInt, math.MinInt + 1, math.MaxInt - 1, math.MaxInt, 1 << 32, -1 << 32, 64, -64}
}

// acceptedConfigs holds ordinary configs and those at a limit; one of each number of Dims has nothing else.
func acceptedConfigs() []impl.Config {
	wins := []impl.Win{win(10, 10), win(20, 10), win(10, 5)}
	return []impl.Config{
		{},
		config(0, wins, []int{0}, longest, longest),
		config(1, nil, nil, 0, 0),
		config(1, wins[:1], []int{1, 0}, 5, 10),
		config(1, []impl.Win{}, []int{}, longest, 0),
		config(2, nil, nil, 0, 0),
		config(2, []impl.Win{win(widest, widest), win(1, 1), win(spread, 1)}, []int{0, 1, 2, 3}, 0, longest),
		config(2, nil, []int{3, 2, 1, 0}, 1, 1),
		config(3, nil, nil, 0, 0),
		config(3, wins, []int{7, 0, 5, 2}, longest, longest),
		config(3, wins[1:], []int{7}, longest-1, longest-1),
		config(3, nil, []int{4, 5, 6, 7}, 0, 0),
	}
}

// refusedConfigs holds those with a single field that is beyond its limits.
func refusedConfigs() []impl.Config {
	wins := []impl.Win{win(10, 10), win(20, 10), win(10, 5), win(5, 5)}
	list := []impl.Config{
		config(-1, nil, nil, 0, 0), config(-2, nil, nil, 0, 0), config(4, nil, nil, 0, 0), config(-1, nil, []int{0}, 0, 0), config(4, nil, []int{0}, 0, 0),
		config(1, wins, nil, 0, 0),
		config(1, []impl.Win{win(10, 10), win(10, 10)}, nil, 0, 0),
		config(1, []impl.Win{win(10, 10), win(10, 5), win(10, 10)}, nil, 0, 0),
		config(1, []impl.Win{win(10, 5), win(10, 10), win(10, 10)}, nil, 0, 0),
		config(0, nil, []int{1}, 0, 0), config(1, nil, []int{2}, 0, 0), config(2, nil, []int{4}, 0, 0), config(3, nil, []int{8}, 0, 0),
		config(0, nil, []int{-1}, 0, 0), config(1, nil, []int{-1}, 0, 0), config(3, nil, []int{7, -8}, 0, 0),
		config(2, nil, []int{0, 1, 2, 4}, 0, 0), config(2, nil, []int{4, 0, 1, 2}, 0, 0),
		config(0, nil, []int{0, 0}, 0, 0), config(1, nil, []int{1, 1}, 0, 0), config(2, nil, []int{3, 0, 3}, 0, 0),
		config(3, nil, []int{1, 2, 3, 1}, 0, 0), config(3, nil, []int{0, 1, 2, 3, 4}, 0, 0),
		config(1, nil, nil, -1, 0), config(1, nil, nil, longest+1, 0), config(1, nil, nil, 0, -1), config(1, nil, nil, 0, longest+1),
	}
	for _, n := range farNumbers() {
		list = append(list, config(n, nil, nil, 0, 0), config(n, nil, []int{0}, 0, 0), config(3, nil, []int{n}, 0, 0))
		list = append(list, config(3, nil, []int{0, 1, n}, 0, 0))
		if n < 0 || n > longest {
			list = append(list, config(1, nil, nil, n, 0), config(1, nil, nil, 0, n))
		}
	}
	for _, w := range refusedWins() {
		list = append(list, config(1, []impl.Win{w}, nil, 0, 0), config(1, []impl.Win{win(5, 5), win(7, 7), w}, nil, 0, 0))
	}
	return list
}

// acceptedEvents holds events of a number of Dims, each of their numbers at either limit and between.
func acceptedEvents(dims int) []impl.Event {
	list := []impl.Event{}
	for _, at := range []int{-latest, -latest + 1, -10, -3, -1, 0, 1, 7, 10, latest - 1, latest} {
		for _, val := range []int{-bound, -bound + 1, -40, -1, 0, 1, 40, bound - 1, bound} {
			for _, dim := range []int{0, 1, 9, 10, topDim - 1, topDim} {
				e := event(at, val)
				for i := range dims {
					e.Dims = append(e.Dims, (dim+i*33)%(topDim+1))
				}
				list = append(list, e)
			}
		}
	}
	return list
}

// refusedEvents holds events with a single number that is beyond its limits, or one of Dims too few or too many.
func refusedEvents(dims int) []impl.Event {
	whole := filled(dims, topDim)
	list := []impl.Event{event(1, 1, filled(dims+1, 0)...), event(1, 1, filled(dims+40, 0)...)}
	if dims > 0 {
		list = append(list, event(1, 1, filled(dims-1, 0)...), event(1, 1))
	}
	for _, at := range refusedTimes() {
		list = append(list, event(at, 1, whole...))
	}
	for _, val := range []int{bound + 1, -bound - 1, math.MaxInt, math.MaxInt - 1, math.MinInt, math.MinInt + 1, 1 << 32} {
		list = append(list, event(1, val, whole...))
	}
	for place := range dims {
		for _, dim := range []int{-1, topDim + 1, math.MaxInt, math.MinInt, 1 << 32} {
			e := event(1, 1, slices.Clone(whole)...)
			e.Dims[place] = dim
			list = append(list, e)
		}
	}
	return list
}

// wordsOf tells the words of an event without holding it against any limit.
func wordsOf(e impl.Event) string {
	s := "e " + strconv.Itoa(e.At)
	for _, dim := range e.Dims {
		s += " " + strconv.Itoa(dim)
	}
	return s + " " + strconv.Itoa(e.Val)
}

var recordForm = regexp.MustCompile(`\Ae( (0|-?[1-9][0-9]*))+\z`)

// readByForm tells what a record says, told without the program.
func readByForm(dims int, s string) (impl.Event, bool) {
	if !recordForm.MatchString(s) {
		return impl.Event{}, false
	}
	nums := []int{}
	for _, word := range strings.Fields(s)[1:] {
		n, err := strconv.ParseInt(word, 10, 64)
		if err != nil {
			return impl.Event{}, false
		}
		nums = append(nums, int(n))
	}
	if len(nums) != dims+2 {
		return impl.Event{}, false
	}
	e := event(nums[0], nums[dims+1], nums[1:dims+1]...)
	fits := e.At >= -latest && e.At <= latest && e.Val >= -bound && e.Val <= bound
	for _, dim := range e.Dims {
		fits = fits && dim >= 0 && dim <= topDim
	}
	if !fits {
		return impl.Event{}, false
	}
	return e, true
}

func refusesRecord(t *testing.T, c impl.Config, s string) {
	t.Helper()
	if got, ok := impl.EventRead(c, s); ok || !reflect.ValueOf(got).IsZero() {
		t.Errorf("EventRead with %d Dims of %.80q = %v, %v; want nothing, false", c.Dims, s, got, ok)
	}
}

func refusesKey(t *testing.T, c impl.Config, mask int, dims []int) {
	t.Helper()
	if got := impl.KeyOf(c, mask, dims); len(got) != 0 {
		t.Errorf("KeyOf(%v, %d, %v) = %v; want nothing", c, mask, dims, got)
	}
}

func TestLimitsOfEvents(t *testing.T) {
	got := []int{impl.MaxDims, impl.MaxDim, impl.MaxWins, impl.MaxMasks, impl.MaxParts, impl.MaxRecs, impl.MaxRec, impl.MaxDelay}
	if want := []int{3, 99, 3, 4, 3, 24, 60, 1000}; !slices.Equal(got, want) {
		t.Fatalf("%v; want %v", got, want)
	}
}

func TestConfigOk(t *testing.T) {
	for _, c := range acceptedConfigs() {
		if !impl.ConfigOk(c) {
			t.Errorf("ConfigOk(%v) = false", c)
		}
	}
	for _, c := range refusedConfigs() {
		if impl.ConfigOk(c) {
			t.Errorf("ConfigOk(%v) = true", c)
		}
	}
}

func TestConfigOkOfEachMask(t *testing.T) {
	for dims, end := range []int{1, 2, 4, 8} {
		for mask := -9; mask <= 17; mask++ {
			want := mask >= 0 && mask < end
			if got := impl.ConfigOk(config(dims, nil, []int{mask}, 0, 0)); got != want {
				t.Errorf("ConfigOk with %d Dims and the mask %d = %v", dims, mask, got)
			}
		}
	}
}

func TestConfigOkReadsNothingBehindItsLists(t *testing.T) {
	wins := []impl.Win{win(10, 10), win(10, 10), win(0, 0)}
	masks := []int{1, 1, -5}
	before, beforeMasks := slices.Clone(wins), slices.Clone(masks)
	if !impl.ConfigOk(config(1, wins[:1], masks[:1], 0, 0)) {
		t.Error("ConfigOk reads what lies behind a list")
	}
	if !slices.Equal(wins, before) || !slices.Equal(masks, beforeMasks) {
		t.Errorf("ConfigOk writes into its argument: %v, %v", wins, masks)
	}
}

func TestEventOk(t *testing.T) {
	for _, c := range acceptedConfigs() {
		for _, e := range acceptedEvents(c.Dims) {
			if !impl.EventOk(c, e) {
				t.Fatalf("EventOk(%v, %v) = false", c, e)
			}
		}
		for _, e := range refusedEvents(c.Dims) {
			if impl.EventOk(c, e) {
				t.Errorf("EventOk(%v, %v) = true", c, e)
			}
		}
	}
	for _, c := range refusedConfigs() {
		for dims := range 5 {
			if impl.EventOk(c, event(1, 1, filled(dims, 1)...)) {
				t.Errorf("EventOk with %v = true", c)
			}
		}
	}
}

func TestEventText(t *testing.T) {
	for _, c := range []struct {
		e    impl.Event
		want string
	}{
		{event(0, 0), "e 0 0"},
		{event(-3, 40), "e -3 40"},
		{event(5, -6), "e 5 -6"},
		{event(latest, bound), "e 100000 1000000"},
		{event(-latest, -bound), "e -100000 -1000000"},
		{event(-3, 40, 7), "e -3 7 40"},
		{event(0, 0, 0), "e 0 0 0"},
		{event(1, -2, 0, topDim), "e 1 0 99 -2"},
		{event(1, 5, 2, 3, 4), "e 1 2 3 4 5"},
		{event(-latest, -bound, topDim, 0, topDim), "e -100000 99 0 99 -1000000"},
	} {
		if got := impl.EventText(impl.Config{Dims: len(c.e.Dims)}, c.e); got != c.want {
			t.Errorf("EventText(%v) = %q; want %q", c.e, got, c.want)
		}
	}
}

func TestEventTextRefuses(t *testing.T) {
	for _, c := range acceptedConfigs() {
		for _, e := range refusedEvents(c.Dims) {
			if got := impl.EventText(c, e); got != "" {
				t.Errorf("EventText(%v, %v) = %q; want an empty text", c, e, got)
			}
		}
	}
	for _, c := range refusedConfigs() {
		for dims := range 5 {
			if got := impl.EventText(c, event(1, 1, filled(dims, 1)...)); got != "" {
				t.Errorf("EventText with %v = %q; want an empty text", c, got)
			}
		}
	}
}

func TestEventsAreReadFromTheirTextAsTheyWere(t *testing.T) {
	for _, c := range acceptedConfigs() {
		for _, e := range acceptedEvents(c.Dims) {
			s := impl.EventText(c, e)
			if s != wordsOf(e) || len(s) > impl.MaxRec {
				t.Fatalf("EventText(%v, %v) = %q; want %q", c, e, s, wordsOf(e))
			}
			if got, ok := impl.EventRead(c, s); !ok || !sameEvent(got, e) {
				t.Fatalf("EventRead(%v, %q) = %v, %v; want %v", c, s, got, ok, e)
			}
		}
	}
}

func TestEachNumberOfAnEventIsReadAsItWas(t *testing.T) {
	c := impl.Config{Dims: 3}
	for dim := range topDim + 1 {
		for place := range 3 {
			e := event(dim-50, 50-dim, 1, 2, 3)
			e.Dims[place] = dim
			if got, ok := impl.EventRead(c, impl.EventText(c, e)); !ok || !sameEvent(got, e) {
				t.Fatalf("%v is read as %v, %v", e, got, ok)
			}
		}
	}
	for n := -latest; n <= latest; n += 37 {
		e := event(n, 10*n, 0, 0, 0)
		if got, ok := impl.EventRead(c, impl.EventText(c, e)); !ok || !sameEvent(got, e) {
			t.Fatalf("%v is read as %v, %v", e, got, ok)
		}
	}
}

func TestEventReadRefusesWhatIsNotEventOk(t *testing.T) {
	for _, c := range acceptedConfigs() {
		for _, e := range refusedEvents(c.Dims) {
			refusesRecord(t, c, wordsOf(e))
		}
	}
	for _, c := range refusedConfigs() {
		for dims := range 5 {
			refusesRecord(t, c, wordsOf(event(1, 1, filled(dims, 1)...)))
		}
		// With Dims below 0, these would have as many numbers as are asked for.
		for _, rec := range []string{"", "e", "e 1"} {
			refusesRecord(t, c, rec)
		}
	}
}

func TestEventReadRefusesAnotherNumberOfDims(t *testing.T) {
	for dims := range impl.MaxDims + 1 {
		for words := range 12 {
			s := "e" + strings.Repeat(" 1", words)
			_, ok := impl.EventRead(impl.Config{Dims: dims}, s)
			if ok != (words == dims+2) {
				t.Errorf("EventRead with %d Dims of %q: %v", dims, s, ok)
			}
		}
	}
}

func TestEventReadRefusesWhatIsNearlyOne(t *testing.T) {
	c := impl.Config{Dims: 1}
	for _, s := range []string{
		"", " ", "  ", "   ", "    ", "e", "e ", " e", "e  ", "e   ", "e -3", "e -3 7", "e -3 7 40 1", "e -3 7 40 1 1 1 1", "-3 7 40", "\n", "\x00",
		"e -3 7 40 ", " e -3 7 40", " e -3 7 40 ", "e  -3 7 40", "e -3  7 40", "e -3 7  40", "e -3 7 ", "e  7 40", "e -3  40",
		"e -3 7 40\n", "\ne -3 7 40", "e\n-3 7 40", "e -3\n7 40", "e -3 7\n40", "e -3 7 4\n0", "e -3 7 40\r", "e -3 7 40\r\n",
		"e\t-3\t7\t40", "e -3 7\t40", "e -3 7\v40", "e -3 7\u00a040", "e\u00a0-3 7 40", "e -3 7\u200340", "e\u3000-3 7 40", "e -3\u20287 40",
		"e 03 7 40", "e -03 7 40", "e -3 07 40", "e -3 7 040", "e 00 7 40", "e -3 00 40", "e -3 7 00", "e -3 7 -040", "e 000000003 7 40",
		"e -0 7 40", "e -3 -0 40", "e -3 7 -0", "e -00 7 40",
		"e +3 7 40", "e -3 +7 40", "e -3 7 +40", "e +0 7 40", "e +-3 7 40", "e -+3 7 40", "e --3 7 40", "e - 3 7 40", "e - 7 40", "e -3 7 -",
		"e 3- 7 40", "e -3 7 4-0", "e -3 7 40-", "e -3 7 0x28", "e -3 7 4_0", "e -3 7 40.0", "e -3 7 4e1", "e -3 7 1e", "e -3 7 forty", "e -3 e 40",
		"E -3 7 40", "f -3 7 40", "ee -3 7 40", "ev -3 7 40", "1 -3 7 40", "0 -3 7 40", "e-3 7 40", "e, -3 7 40", "\"e\" -3 7 40", "e: -3 7 40",
		"é -3 7 40", "е -3 7 40", "ｅ -3 7 40", "e\u0301 -3 7 40", "\ufeffe -3 7 40", "e -3 7 40\ufeff", "\u200be -3 7 40",
		"e -3 ７ 40", "e -3 ٧ 40", "e -3 7 ４０", "e -３ 7 40", "e −3 7 40", "e –3 7 40", "e -3 ७ 40", "e -3 ⁷ 40", "e -3 7 4\u03010",
		"e -3 7 40\xff", "\xffe -3 7 40", "e\xff-3 7 40", "e -3 \xff 40", "e -3 7\xff 40", "e -3 7 4\xc30", "e -3\xc2 7 40", "e -3 7 40\xe2\x80",
		"e -3 7 \xef\xbf\xbd", "\xff -3 7 40", "\xef\xbf\xbd -3 7 40", "e\xa0-3 7 40", "e\xe3\x80-3 7 40", "e\xc0\xa0-3 7 40", "e -3 7 40\x00", "e\x00 -3 7 40",
		"e 9223372036854775807 7 40", "e -9223372036854775808 7 40", "e -3 9223372036854775807 40", "e -3 7 9223372036854775807",
		"e 9223372036854775808 7 40", "e -9223372036854775809 7 40", "e -3 9223372036854775808 40", "e -3 7 -9223372036854775809",
		"e 18446744073709551613 7 40", "e -3 18446744073709551623 40", "e -3 7 18446744073709551656", "e -3 4294967303 40", "e 36893488147419103235 7 40",
		"e 100001 7 40", "e -100001 7 40", "e -3 100 40", "e -3 -1 40", "e -3 7 1000001", "e -3 7 -1000001",
		"e -3 7 40e -3 7 40", "e -3 7 40\ne -3 7 40", "e -3 7 40 e", "e -3 7 40 e -3 7 40", "40 7 -3 e",
		"e -3 7 " + strings.Repeat("0", 100000) + "40", "e -3 7 " + strings.Repeat("9", 100000), "e -3 7 40" + strings.Repeat(" ", 100000),
		strings.Repeat(" ", 100000), strings.Repeat("e ", 100000), "e" + strings.Repeat(" 1", 100000), strings.Repeat("e", 100000), strings.Repeat("\xff", 100000),
	} {
		refusesRecord(t, c, s)
	}
	if got, ok := impl.EventRead(c, "e -3 7 40"); !ok || !sameEvent(got, event(-3, 40, 7)) {
		t.Errorf("%v, %v", got, ok)
	}
}

func allBytes() string {
	list := make([]byte, 256)
	for i := range list {
		list[i] = byte(i)
	}
	return string(list)
}

func TestEventReadTakesOnlyTexts(t *testing.T) {
	for _, e := range []impl.Event{
		event(0, 0), event(-3, 40), event(latest, -bound), event(0, 0, 0), event(-3, 40, 7), event(-latest, bound, topDim),
		event(10, -1, 0, topDim), event(-latest, -bound, 10, topDim, 0),
	} {
		s := wordsOf(e)
		for _, near := range nearTexts(s, allBytes()) {
			for dims := range impl.MaxDims + 1 {
				want, fits := readByForm(dims, near)
				got, ok := impl.EventRead(impl.Config{Dims: dims}, near)
				if ok != fits || !sameEvent(got, want) {
					t.Fatalf("EventRead with %d Dims of %q = %v, %v; want %v, %v", dims, near, got, ok, want, fits)
				}
			}
		}
	}
}

func TestEventsReadAreNewMemory(t *testing.T) {
	c := config(2, []impl.Win{win(10, 10)}, []int{3}, 0, 0)
	first, _ := impl.EventRead(c, "e 5 1 2 7")
	first.Dims[0] = 77
	_ = append(first.Dims, 78)
	if got, ok := impl.EventRead(c, "e 5 1 2 7"); !ok || !sameEvent(got, event(5, 7, 1, 2)) {
		t.Errorf("EventRead tells what was written into an earlier answer: %v, %v", got, ok)
	}
	// Spare room of an answer that holds its Val would hand out what lies behind the list.
	second, _ := impl.EventRead(c, "e 5 1 2 7")
	for _, n := range second.Dims[2:cap(second.Dims)] {
		if n != 0 {
			t.Errorf("EventRead hands out %d behind Dims", n)
		}
	}
}

func TestEventTextLeavesItsArgument(t *testing.T) {
	room := []int{1, 2, 300, -4}
	before := slices.Clone(room)
	e := event(5, 7, room[:2]...)
	c := impl.Config{Dims: 2}
	if got := impl.EventText(c, e); got != "e 5 1 2 7" || !impl.EventOk(c, e) {
		t.Errorf("EventText reads what lies behind Dims: %q", got)
	}
	if !slices.Equal(room, before) {
		t.Errorf("EventText writes into its argument: %v", room)
	}
}

func TestKeyOf(t *testing.T) {
	all := []int{11, 22, 33}
	for dims, keys := range [][][]int{
		{{}},
		{{}, {11}},
		{{}, {11}, {22}, {11, 22}},
		{{}, {11}, {22}, {11, 22}, {33}, {11, 33}, {22, 33}, {11, 22, 33}},
	} {
		for mask, want := range keys {
			if got := impl.KeyOf(impl.Config{Dims: dims}, mask, all[:dims]); !slices.Equal(got, want) {
				t.Errorf("KeyOf with %d Dims, mask %d = %v; want %v", dims, mask, got, want)
			}
		}
	}
}

func TestKeyOfTakesEachPossibleMask(t *testing.T) {
	// 5 is none of the masks that are asked for, but could be one.
	c := config(3, nil, []int{1, 2}, 0, 0)
	if got := impl.KeyOf(c, 5, []int{0, 0, 0}); !slices.Equal(got, []int{0, 0}) {
		t.Errorf("KeyOf = %v", got)
	}
	if got := impl.KeyOf(c, 7, []int{topDim, 0, topDim}); !slices.Equal(got, []int{topDim, 0, topDim}) {
		t.Errorf("KeyOf = %v", got)
	}
	// Only how many they are is asked of dims.
	if got := impl.KeyOf(c, 6, []int{1, math.MinInt, topDim + 1}); !slices.Equal(got, []int{math.MinInt, topDim + 1}) {
		t.Errorf("KeyOf = %v", got)
	}
}

func TestKeyOfRefuses(t *testing.T) {
	for dims, end := range []int{1, 2, 4, 8} {
		c := impl.Config{Dims: dims}
		for _, mask := range append(farNumbers(), -1, -2, end, end+1, 2*end, -end) {
			refusesKey(t, c, mask, filled(dims, 1))
		}
		for mask := range end {
			for n := range 9 {
				if n != dims {
					refusesKey(t, c, mask, filled(n, 1))
				}
			}
		}
	}
	for _, c := range refusedConfigs() {
		for dims := range 5 {
			for _, mask := range []int{0, 1, 7, -1} {
				refusesKey(t, c, mask, filled(dims, 1))
			}
		}
	}
}

func TestKeysAreNewMemory(t *testing.T) {
	room := []int{1, 2, 3, 4, 5}
	before := slices.Clone(room)
	for mask := range 8 {
		key := impl.KeyOf(impl.Config{Dims: 3}, mask, room[:3])
		key = append(key, 77, 78, 79, 80)
		for i := range key {
			key[i] = 81
		}
		if !slices.Equal(room, before) {
			t.Fatalf("a key with mask %d shares memory with dims: %v", mask, room)
		}
	}
}

func TestMaskIn(t *testing.T) {
	for a := -5; a < 20; a++ {
		for b := -5; b < 20; b++ {
			want := a >= 0 && b >= 0
			for bit := 1; bit < 32; bit *= 2 {
				want = want && (a/bit%2 == 0 || b/bit%2 != 0)
			}
			if got := impl.MaskIn(a, b); got != want {
				t.Errorf("MaskIn(%d, %d) = %v", a, b, got)
			}
		}
	}
	for _, a := range []int{0, 1, 1 << 40, 1 << 62, math.MaxInt - 1, math.MaxInt} {
		if !impl.MaskIn(a, a) || !impl.MaskIn(a, math.MaxInt) || !impl.MaskIn(0, a) {
			t.Errorf("MaskIn of %d = false", a)
		}
		if impl.MaskIn(a, 0) != (a == 0) {
			t.Errorf("MaskIn(%d, 0) = %v", a, a != 0)
		}
		for _, below := range []int{-1, -2, math.MinInt, math.MinInt + 1} {
			if impl.MaskIn(a, below) || impl.MaskIn(below, a) || impl.MaskIn(below, below) {
				t.Errorf("MaskIn of %d and %d = true", a, below)
			}
		}
	}
}

// logs tells as many parts as there are counts, each with so many records, each of so many bytes.
func logs(bytes int, counts ...int) []impl.Part {
	list := []impl.Part{}
	for _, n := range counts {
		list = append(list, impl.Part{Recs: slices.Repeat([]string{strings.Repeat("x", bytes)}, n)})
	}
	return list
}

// acceptedLogs holds ordinary logs and those at a limit, with records of any bytes.
func acceptedLogs() [][]impl.Part {
	const recs, length = impl.MaxRecs, impl.MaxRec
	return [][]impl.Part{
		logs(0, 0), logs(0, 1), logs(length, recs), logs(9, 0, 0, 0), logs(length, recs, recs, recs), logs(length-1, recs-1, 0),
		{{Recs: []string{"?", "", "e 1 2", "e 1 2 3 4 5", "\n", "\xff", strings.Repeat("\xff", length), strings.Repeat("\n", length)}}},
		{{Recs: []string{strings.Repeat("é", 30)}}, {Recs: []string{strings.Repeat("€", 20)}}},
	}
}

// refusedLogs holds those with a single limit passed.
func refusedLogs() [][]impl.Part {
	const recs, length = impl.MaxRecs, impl.MaxRec
	return [][]impl.Part{
		nil, {}, logs(0, 0, 0, 0, 0), logs(length, recs, recs, recs, recs), logs(0, filled(100, 0)...),
		logs(0, recs+1), logs(0, recs+1, 0, 0), logs(0, 0, recs+1, 0), logs(0, 0, 0, recs+1), logs(0, 10*recs),
		logs(length+1, 1), logs(length+1, 0, 0, 1), logs(100000, 1),
		{{Recs: append(logs(length, recs-1)[0].Recs, strings.Repeat("x", length+1))}},
		{{Recs: append([]string{strings.Repeat("x", length+1)}, "x")}},
		// Bytes are counted, not signs.
		{{Recs: []string{strings.Repeat("é", 31)}}}, {{Recs: []string{strings.Repeat("€", 20) + "x"}}},
	}
}

func TestLogsOk(t *testing.T) {
	for _, c := range acceptedConfigs() {
		for _, list := range acceptedLogs() {
			if !impl.LogsOk(c, list) {
				t.Errorf("LogsOk(%v) of %d parts = false", c, len(list))
			}
		}
		for _, list := range refusedLogs() {
			if impl.LogsOk(c, list) {
				t.Errorf("LogsOk(%v) of %d parts = true", c, len(list))
			}
		}
	}
	for _, c := range refusedConfigs() {
		if impl.LogsOk(c, logs(9, 1)) {
			t.Errorf("LogsOk(%v) = true", c)
		}
	}
}

func TestLogsOkReadsNothingBehindItsLists(t *testing.T) {
	long := strings.Repeat("x", impl.MaxRec+1)
	recs := []string{"e 1 2", long, long}
	room := []impl.Part{{Recs: recs[:1]}, {Recs: recs}, {}, {}, {}}
	if !impl.LogsOk(impl.Config{}, room[:1]) {
		t.Error("LogsOk reads what lies behind a list")
	}
	if !slices.Equal(recs, []string{"e 1 2", long, long}) || len(room[0].Recs) != 1 || len(room[1].Recs) != 3 {
		t.Error("LogsOk writes into its argument")
	}
}
