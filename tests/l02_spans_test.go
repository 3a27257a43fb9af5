package tests

import (
	"math"
	"slices"
	"testing"

	"loop.example/g00552/impl"
)

const latest = impl.MaxTime
const widest = impl.MaxSize
const spread = impl.MaxSpread

func win(size, slide int) impl.Win {
	return impl.Win{Size: size, Slide: slide}
}

// acceptedWins holds ordinary windows and those at a limit.
func acceptedWins() []impl.Win {
	return []impl.Win{
		win(1, 1), win(2, 1), win(3, 1), win(spread, 1), win(5, 5), win(7, 7), win(10, 5), win(20, 10), win(60, 20), win(84, 7),
		win(spread*10, 10), win((spread-1)*10, 10), win(1000, 1000), win(9996, 833), win(19992, 1666), win(19998, 6666),
		win(widest, 2000), win(widest, widest/2), win(widest, widest), win(widest-1, widest-1),
	}
}

// refusedWins holds those one beyond a limit, and numbers that no limit is near to.
func refusedWins() []impl.Win {
	list := []impl.Win{
		win(0, 0), win(0, 1), win(1, 0), win(0, 5), win(5, 0), win(widest, 0), win(0, widest),
		win(-1, 1), win(1, -1), win(-1, -1), win(-10, 5), win(10, -5), win(-10, -5), win(-5, -5), win(-widest, -widest),
		win(20, 15), win(10, 3), win(7, 2), win(11, 5), win(9, 5), win(widest, 19999), win(widest-1, 2),
		win(1, 2), win(5, 10), win(10, 20), win(widest/2, widest), win(1, widest),
		win(spread+1, 1), win((spread+1)*10, 10), win(2*spread, 1), win(widest, 1), win(widest, 1000),
		win(widest+1, widest+1), win(widest+2, widest/2+1), win(widest, widest+1), win(widest+1, 1), win(2*widest, widest),
	}
	for _, n := range []int{math.MinInt, math.MinInt + 1, math.MaxInt - 1, math.MaxInt, 1 << 32, -1 << 32} {
		list = append(list, win(n, n), win(n, 1), win(1, n), win(n, -1), win(-1, n), win(n, 0), win(0, n), win(n, 10), win(10, n))
	}
	return list
}

// acceptedTimes holds moments on both sides of 0 and of the starts of small windows, and both limits.
func acceptedTimes() []int {
	times := []int{-latest, -latest + 1, -99991, -20001, -20000, -19999, -1000, 1000, 19999, 20000, 20001, 99991, latest - 1, latest}
	for t := -130; t <= 130; t++ {
		times = append(times, t)
	}
	return times
}

func refusedTimes() []int {
	return []int{latest + 1, -latest - 1, 2 * latest, -2 * latest, 1 << 32, -1 << 32, math.MaxInt, math.MaxInt - 1, math.MinInt, math.MinInt + 1}
}

// startsByStep tells the starts of all windows that t is in, told by walking from one moment to the next.
func startsByStep(w impl.Win, t int) []int {
	starts := []int{}
	for s := t - w.Size + 1; s <= t; s++ {
		if s%w.Slide == 0 {
			starts = append(starts, s)
		}
	}
	return starts
}

// finerPairs tells each two of the accepted windows of which the first is finer, told without the program.
func finerPairs() [][2]impl.Win {
	pairs := [][2]impl.Win{}
	for _, a := range acceptedWins() {
		for _, b := range acceptedWins() {
			if a.Size == a.Slide && b.Slide%a.Size == 0 {
				pairs = append(pairs, [2]impl.Win{a, b})
			}
		}
	}
	return pairs
}

func refusesStarts(t *testing.T, w impl.Win, moment int) {
	t.Helper()
	if got := impl.Starts(w, moment); len(got) != 0 {
		t.Errorf("Starts(%v, %d) tells %d starts; want nothing", w, moment, len(got))
	}
}

func refusesParts(t *testing.T, a, b impl.Win, s int) {
	t.Helper()
	if got := impl.PartsOf(a, b, s); len(got) != 0 {
		t.Errorf("PartsOf(%v, %v, %d) tells %d starts; want nothing", a, b, s, len(got))
	}
}

func TestLimitsOfWindows(t *testing.T) {
	if impl.MaxTime != 100000 || impl.MaxSize != 20000 || impl.MaxSpread != 12 {
		t.Fatal(impl.MaxTime, impl.MaxSize, impl.MaxSpread)
	}
}

func TestTimeOk(t *testing.T) {
	for _, moment := range acceptedTimes() {
		if !impl.TimeOk(moment) {
			t.Errorf("TimeOk(%d) = false", moment)
		}
	}
	for _, moment := range refusedTimes() {
		if impl.TimeOk(moment) {
			t.Errorf("TimeOk(%d) = true", moment)
		}
	}
}

func TestWinOk(t *testing.T) {
	for _, w := range acceptedWins() {
		if !impl.WinOk(w) {
			t.Errorf("WinOk(%v) = false", w)
		}
	}
	for _, w := range refusedWins() {
		if impl.WinOk(w) {
			t.Errorf("WinOk(%v) = true", w)
		}
	}
}

func TestWinOkOfEachSmallOne(t *testing.T) {
	for slide := -3; slide <= 40; slide++ {
		for size := -40; size <= 520; size++ {
			want := false
			for times := 1; times <= 12; times++ {
				want = want || slide >= 1 && size == slide*times
			}
			if got := impl.WinOk(win(size, slide)); got != want {
				t.Fatalf("WinOk(%d, %d) = %v", size, slide, got)
			}
		}
	}
}

func TestStarts(t *testing.T) {
	for _, c := range []struct {
		w    impl.Win
		t    int
		want []int
	}{
		{win(20, 10), 15, []int{0, 10}},
		{win(20, 10), 10, []int{0, 10}},
		{win(20, 10), 19, []int{0, 10}},
		{win(20, 10), 20, []int{10, 20}},
		{win(20, 10), 9, []int{-10, 0}},
		{win(20, 10), 0, []int{-10, 0}},
		{win(20, 10), -1, []int{-20, -10}},
		{win(20, 10), -10, []int{-20, -10}},
		{win(20, 10), -11, []int{-30, -20}},
		{win(5, 5), -1, []int{-5}},
		{win(5, 5), -5, []int{-5}},
		{win(5, 5), -6, []int{-10}},
		{win(5, 5), 0, []int{0}},
		{win(5, 5), 4, []int{0}},
		{win(1, 1), -3, []int{-3}},
		{win(3, 1), 0, []int{-2, -1, 0}},
		{win(9, 3), -4, []int{-12, -9, -6}},
		{win(12, 1), 0, []int{-11, -10, -9, -8, -7, -6, -5, -4, -3, -2, -1, 0}},
		{win(widest, widest), latest, []int{latest}},
		{win(widest, widest), latest - 1, []int{latest - widest}},
		{win(widest, widest), -latest, []int{-latest}},
		{win(widest, widest), -latest + 1, []int{-latest}},
		{win(widest, widest), -1, []int{-widest}},
		{win(widest, widest/2), -latest, []int{-110000, -100000}},
		{win(widest-1, widest-1), latest, []int{99995}},
		{win(widest-1, widest-1), -latest, []int{-119994}},
	} {
		if got := impl.Starts(c.w, c.t); !slices.Equal(got, c.want) {
			t.Errorf("Starts(%v, %d) = %v; want %v", c.w, c.t, got, c.want)
		}
	}
}

func TestAMomentIsInAsManyWindowsAsSizeHasSlides(t *testing.T) {
	for _, w := range acceptedWins() {
		for _, moment := range acceptedTimes() {
			got := impl.Starts(w, moment)
			if len(got) != w.Size/w.Slide || !slices.Equal(got, startsByStep(w, moment)) {
				t.Fatalf("Starts(%v, %d) = %v", w, moment, got)
			}
			for i, s := range got {
				if !impl.Covers(w, s, moment) || i > 0 && s != got[i-1]+w.Slide {
					t.Fatalf("Starts(%v, %d) = %v; %d is not one of them", w, moment, got, s)
				}
			}
			if impl.Covers(w, got[0]-w.Slide, moment) || impl.Covers(w, got[len(got)-1]+w.Slide, moment) {
				t.Fatalf("Starts(%v, %d) = %v; there are more", w, moment, got)
			}
		}
	}
}

func TestStartsRefuses(t *testing.T) {
	for _, w := range refusedWins() {
		for _, moment := range []int{0, 1, -1, 15, latest, -latest, math.MaxInt, math.MinInt} {
			refusesStarts(t, w, moment)
		}
	}
	for _, w := range acceptedWins() {
		for _, moment := range refusedTimes() {
			refusesStarts(t, w, moment)
		}
	}
}

func TestCovers(t *testing.T) {
	for _, c := range []struct {
		w    impl.Win
		s, t int
		want bool
	}{
		{win(20, 10), 10, 29, true},
		{win(20, 10), 10, 30, false},
		{win(20, 10), 10, 10, true},
		{win(20, 10), 10, 9, false},
		{win(20, 10), 5, 10, false},
		{win(20, 10), 0, 0, true},
		{win(20, 10), -20, -1, true},
		{win(20, 10), -20, 0, false},
		{win(20, 10), -20, -20, true},
		{win(20, 10), -20, -21, false},
		{win(20, 10), -15, -10, false},
		{win(20, 10), -10, 9, true},
		{win(20, 10), -10, 10, false},
		{win(5, 5), -5, -1, true},
		{win(5, 5), -5, 0, false},
		{win(1, 1), 0, 0, true},
		{win(1, 1), 0, 1, false},
		{win(1, 1), 0, -1, false},
		{win(widest, widest), latest, latest, true},
		{win(widest, widest), -latest, -latest, true},
		{win(widest, widest), -latest, -latest + widest - 1, true},
		{win(widest, widest), -latest, -latest + widest, false},
		{win(widest, widest/2), -110000, -latest, true},
		{win(widest, widest/2), -120000, -latest, false},
		{win(widest, widest/2), 110000, latest, false},
	} {
		if got := impl.Covers(c.w, c.s, c.t); got != c.want {
			t.Errorf("Covers(%v, %d, %d) = %v", c.w, c.s, c.t, got)
		}
	}
}

func TestCoversEachSmallOne(t *testing.T) {
	for _, w := range []impl.Win{win(1, 1), win(3, 1), win(4, 4), win(6, 3), win(10, 5), win(12, 1)} {
		for s := -30; s <= 30; s++ {
			for moment := -30; moment <= 30; moment++ {
				want := slices.Contains(startsByStep(w, moment), s)
				if got := impl.Covers(w, s, moment); got != want {
					t.Fatalf("Covers(%v, %d, %d) = %v", w, s, moment, got)
				}
			}
		}
	}
}

func TestCoversRefuses(t *testing.T) {
	for _, w := range refusedWins() {
		for _, moment := range []int{0, 15, -15, latest, -latest} {
			for _, s := range []int{moment, 0, w.Slide, w.Size} {
				if impl.Covers(w, s, moment) {
					t.Errorf("Covers(%v, %d, %d) = true", w, s, moment)
				}
			}
		}
	}
	for _, w := range acceptedWins() {
		for _, moment := range refusedTimes() {
			for s := moment - moment%w.Slide - w.Slide; s != moment-moment%w.Slide+2*w.Slide; s += w.Slide {
				if impl.Covers(w, s, moment) {
					t.Errorf("Covers(%v, %d, %d) = true", w, s, moment)
				}
			}
		}
		// Far starts are those whose distance from a moment, or whose end, wraps around.
		for _, far := range []int{math.MaxInt, math.MinInt} {
			s := far - far%w.Slide
			for _, moment := range []int{0, 1, -1, latest, -latest} {
				if impl.Covers(w, s, moment) || impl.Covers(w, far, moment) {
					t.Errorf("Covers(%v, %d, %d) = true", w, far, moment)
				}
			}
		}
	}
}

func TestFiner(t *testing.T) {
	for _, c := range []struct {
		a, b impl.Win
		want bool
	}{
		{win(5, 5), win(20, 10), true},
		{win(10, 10), win(20, 10), true},
		{win(1, 1), win(1, 1), true},
		{win(5, 5), win(5, 5), true},
		{win(widest, widest), win(widest, widest), true},
		{win(1, 1), win(widest, widest), true},
		{win(1, 1), win(12, 1), true},
		{win(7, 7), win(84, 7), true},
		// The Size of b is a multiple, its Slide is not.
		{win(20, 20), win(20, 10), false},
		{win(10, 10), win(20, 5), false},
		{win(4, 4), win(20, 10), false},
		{win(20, 10), win(20, 10), false},
		{win(20, 10), win(20, 20), false},
		{win(2, 1), win(20, 10), false},
		{win(10, 10), win(5, 5), false},
		{win(3, 3), win(10, 10), false},
	} {
		if got := impl.Finer(c.a, c.b); got != c.want {
			t.Errorf("Finer(%v, %v) = %v", c.a, c.b, got)
		}
	}
	pairs := finerPairs()
	for _, a := range acceptedWins() {
		for _, b := range acceptedWins() {
			if got := impl.Finer(a, b); got != slices.Contains(pairs, [2]impl.Win{a, b}) {
				t.Errorf("Finer(%v, %v) = %v", a, b, got)
			}
		}
	}
}

func TestFinerRefuses(t *testing.T) {
	for _, bad := range refusedWins() {
		for _, w := range append(acceptedWins(), bad) {
			if impl.Finer(bad, w) || impl.Finer(w, bad) {
				t.Errorf("Finer of %v and %v", bad, w)
			}
			refusesParts(t, bad, w, 0)
			refusesParts(t, w, bad, 0)
		}
	}
}

func TestPartsOf(t *testing.T) {
	for _, c := range []struct {
		a, b impl.Win
		s    int
		want []int
	}{
		{win(5, 5), win(20, 10), -10, []int{-10, -5, 0, 5}},
		{win(5, 5), win(20, 10), 0, []int{0, 5, 10, 15}},
		{win(5, 5), win(20, 10), 10, []int{10, 15, 20, 25}},
		{win(5, 5), win(20, 10), -20, []int{-20, -15, -10, -5}},
		{win(10, 10), win(20, 10), -10, []int{-10, 0}},
		{win(5, 5), win(5, 5), -5, []int{-5}},
		{win(1, 1), win(1, 1), 0, []int{0}},
		{win(1, 1), win(3, 1), -2, []int{-2, -1, 0}},
		{win(widest, widest), win(widest, widest), 2 * latest, []int{2 * latest}},
		{win(widest, widest), win(widest, widest), -2 * latest, []int{-2 * latest}},
		{win(5, 5), win(20, 10), 2 * latest, []int{200000, 200005, 200010, 200015}},
		{win(5, 5), win(20, 10), -2 * latest, []int{-200000, -199995, -199990, -199985}},
		{win(1, 1), win(2, 1), 2*latest - 1, []int{199999, 200000}},
	} {
		if got := impl.PartsOf(c.a, c.b, c.s); !slices.Equal(got, c.want) {
			t.Errorf("PartsOf(%v, %v, %d) = %v; want %v", c.a, c.b, c.s, got, c.want)
		}
	}
}

func TestPartsFillTheWindow(t *testing.T) {
	for _, pair := range finerPairs() {
		a, b := pair[0], pair[1]
		last := 2 * latest / b.Slide
		for _, n := range []int{-last, -last + 1, -3, -2, -1, 0, 1, 2, last - 1, last} {
			s := n * b.Slide
			if s < -2*latest || s > 2*latest {
				continue
			}
			want := []int{}
			for part := s; part < s+b.Size; part += a.Size {
				want = append(want, part)
			}
			if got := impl.PartsOf(a, b, s); !slices.Equal(got, want) {
				t.Fatalf("PartsOf(%v, %v, %d) tells %d starts; want %d", a, b, s, len(got), len(want))
			}
		}
	}
}

func TestAMomentIsInJustOnePartOfEach(t *testing.T) {
	for _, pair := range finerPairs() {
		a, b := pair[0], pair[1]
		for _, moment := range []int{-latest, -20001, -121, -20, -11, -10, -1, 0, 1, 9, 10, 19, 20, 123, 19999, latest} {
			own := impl.Starts(a, moment)
			for _, s := range impl.Starts(b, moment) {
				in := []int{}
				for _, part := range impl.PartsOf(a, b, s) {
					if impl.Covers(a, part, moment) {
						in = append(in, part)
					}
				}
				if len(in) != 1 || !slices.Equal(in, own) {
					t.Fatalf("%d is in the parts %v of the window of %v at %d; want %v", moment, in, b, s, own)
				}
			}
		}
	}
}

func TestPartsOfRefuses(t *testing.T) {
	fine, wide := win(5, 5), win(20, 10)
	// 5 and -15 are starts of fine, not of wide.
	for _, s := range []int{1, -1, 5, -5, 15, -15, 11, 19, 2*latest - 5, -2*latest + 5} {
		refusesParts(t, fine, wide, s)
	}
	for _, s := range []int{2*latest + 10, -2*latest - 10, 3 * latest, -3 * latest, 1 << 40 * 10, -1 << 40 * 10} {
		refusesParts(t, fine, wide, s)
	}
	for _, s := range []int{2*latest + 1, -2*latest - 1, math.MaxInt, math.MinInt, math.MaxInt - 1, math.MinInt + 1} {
		refusesParts(t, win(1, 1), win(1, 1), s)
		refusesParts(t, win(1, 1), win(12, 1), s)
	}
	for _, s := range []int{0, 10, -20} {
		refusesParts(t, wide, wide, s)
		refusesParts(t, win(4, 4), wide, s)
		refusesParts(t, win(20, 20), wide, s)
		refusesParts(t, wide, fine, s)
		refusesParts(t, win(10, 10), fine, s)
	}
}

func TestStartsAreNewMemory(t *testing.T) {
	w, fine := win(20, 10), win(5, 5)
	first, firstParts := impl.Starts(w, -1), impl.PartsOf(fine, w, -10)
	for _, list := range [][]int{first, firstParts} {
		for i := range list {
			list[i] = 77
		}
		_ = append(list, 78)
	}
	if got := impl.Starts(w, -1); !slices.Equal(got, []int{-20, -10}) {
		t.Errorf("Starts tells what was written into an earlier answer: %v", got)
	}
	if got := impl.PartsOf(fine, w, -10); !slices.Equal(got, []int{-10, -5, 0, 5}) {
		t.Errorf("PartsOf tells what was written into an earlier answer: %v", got)
	}
}
