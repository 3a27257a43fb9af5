package tests

import (
	"fmt"
	"math"
	"reflect"
	"regexp"
	"slices"
	"strings"
	"testing"

	"loop.example/g00552/impl"
)

// The limits of Epoch and of Count.
const (
	mostEpoch = 1000
	mostRead  = 72
)

func frame(epoch, count int, rows ...impl.Row) impl.Frame {
	return impl.Frame{Epoch: epoch, Count: count, Rows: rows}
}

func sameFrame(a, b impl.Frame) bool {
	return a.Epoch == b.Epoch && a.Count == b.Count && sameRows(a.Rows, b.Rows)
}

func sameFrames(a, b []impl.Frame) bool {
	return slices.EqualFunc(a, b, sameFrame)
}

func copyFrames(list []impl.Frame) []impl.Frame {
	list = slices.Clone(list)
	for i := range list {
		list[i].Rows = copyRows(list[i].Rows)
	}
	return list
}

// frameByHand tells the text of a frame, also of one that is not FrameOk.
func frameByHand(f impl.Frame) string {
	lines := []string{fmt.Sprintf("frame %d %d %d\n", f.Epoch, f.Count, len(f.Rows))}
	for _, r := range f.Rows {
		lines = append(lines, rowByHand(r)+"\n")
	}
	return sealedByHand(strings.Join(lines, ""))
}

func journalByHand(list []impl.Frame) string {
	all := ""
	for _, f := range list {
		all += frameByHand(f)
	}
	return all
}

// numbered tells a frame of each of these lists of rows, as a journal has them.
func numbered(lists ...[]impl.Row) []impl.Frame {
	frames := []impl.Frame{}
	for i, rows := range lists {
		frames = append(frames, frame(i+1, min(3*i, mostRead), rows...))
	}
	return frames
}

var frameForm = regexp.MustCompile(`\A(frame ` + numForm + ` ` + numForm + ` ` + numForm + `)\n((?:row(?: ` + numForm + `)+\n)*)sum ` + numForm + `\n`)

// frameByForm tells the frame that a text begins with, and how many bytes that is, told without what reads it in the program.
func frameByForm(c impl.Config, s string) (impl.Frame, int, bool) {
	form := frameForm.FindStringSubmatch(s)
	if form == nil || len(form[0]) > mostSaved {
		return impl.Frame{}, 0, false
	}
	nums, fits := numsByHand(form[1])
	if !fits || nums[0] < 1 || nums[0] > mostEpoch || nums[1] < 0 || nums[1] > mostRead || nums[2] != strings.Count(form[5], "\n") {
		return impl.Frame{}, 0, false
	}
	f, panes := frame(nums[0], nums[1]), []impl.Pane{}
	for line := range strings.Lines(form[5]) {
		r, ok := readRowByForm(c, strings.TrimSuffix(line, "\n"))
		if !ok {
			return impl.Frame{}, 0, false
		}
		f.Rows, panes = append(f.Rows, r), append(panes, paneOf(r))
	}
	return f, len(form[0]), impl.PanesOk(c, panes) && frameByHand(f) == form[0]
}

func journalByForm(c impl.Config, s string) ([]impl.Frame, int) {
	list, used, count := []impl.Frame{}, 0, 0
	for {
		f, size, ok := frameByForm(c, s[used:])
		if !ok || f.Epoch != len(list)+1 || f.Count < count {
			return list, used
		}
		list, used, count = append(list, f), used+size, f.Count
	}
}

// readsFrames asks for just these frames of a text, and for how many bytes they have.
func readsFrames(t *testing.T, c impl.Config, s string, want []impl.Frame) {
	t.Helper()
	bytes := len(journalByHand(want))
	if got, used := impl.JournalRead(c, s); !sameFrames(got, want) || used != bytes {
		t.Errorf("JournalRead(%.600q) = %.300v, %d; want %.300v, %d", s, fmt.Sprint(got), used, fmt.Sprint(want), bytes)
	}
}

func readsNone(t *testing.T, c impl.Config, s string) {
	t.Helper()
	if got, used := impl.JournalRead(c, s); len(got) > 0 || used != 0 {
		t.Errorf("JournalRead(%v, %.600q) = %.300v, %d; want none", c, s, fmt.Sprint(got), used)
	}
}

// refusesFrame asks that a frame has no text, and that none is read where it would be.
func refusesFrame(t *testing.T, c impl.Config, f impl.Frame) {
	t.Helper()
	if impl.FrameOk(c, f) {
		t.Errorf("FrameOk(%v, %.300v) = true", c, fmt.Sprint(f))
	}
	if got := impl.FrameText(c, f); got != "" {
		t.Errorf("FrameText(%v, %.300v) = %.200q; want an empty text", c, fmt.Sprint(f), got)
	}
	readsNone(t, c, frameByHand(f))
}

// keepsFrames writes frames one behind the other and reads them again.
func keepsFrames(t *testing.T, c impl.Config, list []impl.Frame) {
	t.Helper()
	all := ""
	for _, f := range list {
		text := impl.FrameText(c, f)
		if !impl.FrameOk(c, f) || text != frameByHand(f) {
			t.Fatalf("FrameText(%v, %.300v) = %.600q; want %.600q", c, fmt.Sprint(f), text, frameByHand(f))
		}
		all += text
	}
	readsFrames(t, c, all, list)
}

// fewRows are sound with cubeConfig.
func fewRows() []impl.Row {
	return []impl.Row{row(0, 0, -5, agg(2, 3, -2, 5), 1, 0, 10), row(0, 2, 0, one(7), 1000, 99), row(0, 3, 10, one(-7), 2), row(1, 1, 5, one(0), 10, 1, 2, 3)}
}

// acceptedFrames are FrameOk with cubeConfig, with each limit met just so.
func acceptedFrames() []impl.Frame {
	sound := rowsOf(soundPanes())
	list := []impl.Frame{frame(1, 0), frame(1, 0, []impl.Row{}...), frame(5, 7, sound...), frame(1, 0, fewRows()...)}
	for _, epoch := range []int{1, 2, 9, 10, 99, 100, 999, 1000} {
		list = append(list, frame(epoch, 5, fewRows()...), frame(epoch, 0))
	}
	for _, count := range []int{0, 1, 9, 10, 71, 72} {
		list = append(list, frame(3, count, fewRows()...), frame(1, count))
	}
	for i, r := range sound {
		list = append(list, frame(1, 1, r), frame(1, 1, sound[:i]...), frame(1, 1, sound[i:]...))
		for _, times := range []int{1, 2, 999, 1000} {
			r.Times = times
			list = append(list, frame(1, 1, r))
		}
	}
	return list
}

// refusedFrames holds those of which a single thing is not as FrameOk asks for with cubeConfig.
func refusedFrames() []impl.Frame {
	list := []impl.Frame{{}, frame(0, 0), frame(0, 0, fewRows()...)}
	for _, n := range []int{math.MinInt, math.MaxInt, 1 << 32, 1<<32 + 1, -1 << 32, -1, 0, 1001, 10000} {
		list = append(list, frame(n, 5), frame(n, 5, fewRows()...))
	}
	for _, n := range []int{math.MinInt, math.MaxInt, 1 << 32, 1<<32 + 1, -1 << 32, -2, -1, 73, 74, 100} {
		list = append(list, frame(1, n), frame(1, n, fewRows()...))
	}
	for _, n := range []int{math.MinInt, math.MaxInt, 1 << 32, 1<<32 + 1, -1 << 32, -1, 0, 1001} {
		for i := range fewRows() {
			rows := fewRows()
			rows[i].Times = n
			list = append(list, frame(1, 5, rows...))
		}
	}
	for _, panes := range unsoundLists() {
		rows := []impl.Row{}
		for _, p := range panes {
			rows = append(rows, rowOf(p, 3))
		}
		list = append(list, frame(1, 5, rows...))
	}
	return list
}

func TestFrameOk(t *testing.T) {
	for _, f := range acceptedFrames() {
		if !impl.FrameOk(cubeConfig(), f) {
			t.Errorf("FrameOk(%v) = false", f)
		}
	}
	for _, f := range refusedFrames() {
		refusesFrame(t, cubeConfig(), f)
	}
	for epoch := -5; epoch <= mostEpoch+5; epoch++ {
		if got, want := impl.FrameOk(cubeConfig(), frame(epoch, 5)), epoch >= 1 && epoch <= mostEpoch; got != want {
			t.Errorf("FrameOk of Epoch %d = %v", epoch, got)
		}
	}
	for count := -5; count <= mostRead+5; count++ {
		if got, want := impl.FrameOk(cubeConfig(), frame(1, count)), count >= 0 && count <= mostRead; got != want {
			t.Errorf("FrameOk of Count %d = %v", count, got)
		}
	}
}

func TestFrameOkAsksForAConfigThatIsConfigOk(t *testing.T) {
	for _, c := range acceptedConfigs() {
		keepsFrames(t, c, numbered(nil, nil))
	}
	for _, c := range refusedConfigs() {
		for _, f := range []impl.Frame{frame(1, 0), frame(1, 5, row(0, 0, 0, one(7), 1)), frame(1, 5, row(0, 0, 0, one(7), 1, 5)), frame(1, 5, fewRows()...)} {
			refusesFrame(t, c, f)
		}
	}
	// What is sound with one Config is not with another.
	for _, c := range []impl.Config{{}, plainConfig(0, 0), config(3, []impl.Win{win(10, 5), win(5, 5), win(30, 15)}, []int{5, 7, 4}, 3, 4), config(3, nil, []int{5, 7, 4, 0}, 3, 4)} {
		refusesFrame(t, c, frame(1, 5, rowsOf(soundPanes())...))
	}
}

func TestFrameText(t *testing.T) {
	c := cubeConfig()
	for body, f := range map[string]impl.Frame{
		"frame 1 0 0\n":                           frame(1, 0),
		"frame 1000 72 0\n":                       frame(1000, 72),
		"frame 2 10 1\nrow 0 3 0 0 1 7 7 7 1\n":   frame(2, 10, row(0, 3, 0, one(7), 1)),
		"frame 9 9 1\nrow 0 2 -5 1 4 1 0 0 0 9\n": frame(9, 9, row(0, 2, -5, one(0), 9, 4)),
		"frame 10 5 4\nrow 0 0 -5 2 0 10 2 3 -2 5 1\nrow 0 2 0 1 99 1 7 7 7 1000\nrow 0 3 10 0 1 -7 -7 -7 2\nrow 1 1 5 3 1 2 3 1 0 0 0 10\n":          frame(10, 5, fewRows()...),
		"frame 3 71 2\nrow 0 1 -200000 3 99 0 10 1000 -1000000000 -1000000 -1000000 1\nrow 0 1 200000 3 0 0 0 1000 1000000000 1000000 1000000 1000\n": frame(3, 71, row(0, 1, -farStart, agg(most, -most*bound, -bound, -bound), 1, topDim, 0, 10), row(0, 1, farStart, agg(most, most*bound, bound, bound), most, 0, 0, 0)),
	} {
		if got, want := impl.FrameText(c, f), sealedByHand(body); got != want {
			t.Errorf("FrameText(%v) = %q; want %q", f, got, want)
		}
		if got, size, ok := frameByForm(c, sealedByHand(body)); !ok || !sameFrame(got, f) || size != len(sealedByHand(body)) {
			t.Errorf("the test reads %q as %v", body, got)
		}
	}
	for _, f := range acceptedFrames() {
		if got, want := impl.FrameText(c, f), frameByHand(f); got != want {
			t.Errorf("FrameText(%v) = %q; want %q", f, got, want)
		}
	}
}

func TestJournalRead(t *testing.T) {
	c := cubeConfig()
	const first = "frame 1 4 1\nrow 0 3 0 0 1 7 7 7 1\n"
	const second = "frame 2 4 0\n"
	const third = "frame 3 72 2\nrow 0 3 0 0 2 3 -2 5 2\nrow 1 3 -5 0 1 0 0 0 1\n"
	list := []impl.Frame{frame(1, 4, row(0, 3, 0, one(7), 1)), frame(2, 4), frame(3, 72, row(0, 3, 0, agg(2, 3, -2, 5), 2), row(1, 3, -5, one(0), 1))}
	whole := sealedByHand(first) + sealedByHand(second) + sealedByHand(third)
	readsFrames(t, c, whole, list)
	if _, used := impl.JournalRead(c, whole); used != len(whole) {
		t.Errorf("JournalRead tells %d bytes of %d", used, len(whole))
	}
	readsFrames(t, c, sealedByHand(first)+sealedByHand(second), list[:2])
	readsFrames(t, c, sealedByHand(first), list[:1])
	readsFrames(t, c, sealedByHand(first)+sealedByHand(third), list[:1])
	readsNone(t, c, "")
	readsNone(t, c, sealedByHand(second))
	readsNone(t, c, sealedByHand(third)+whole)
	readsNone(t, c, sealedByHand(first+second))
	readsNone(t, c, first+second+third)
}

func TestFramesAreReadAsTheyWere(t *testing.T) {
	c := cubeConfig()
	sound := rowsOf(soundPanes())
	keepsFrames(t, c, nil)
	keepsFrames(t, c, numbered(nil))
	keepsFrames(t, c, numbered(nil, nil, nil, nil))
	keepsFrames(t, c, numbered(sound))
	keepsFrames(t, c, numbered(sound, nil, sound, fewRows(), sound, nil))
	lists := [][]impl.Row{}
	for i := range sound {
		for j := i; j <= len(sound); j++ {
			lists = append(lists, sound[i:j])
		}
	}
	keepsFrames(t, c, numbered(lists...))
	// Each frame that may be the first one, alone.
	for _, f := range acceptedFrames() {
		f.Epoch = 1
		keepsFrames(t, c, []impl.Frame{f})
	}
}

func TestFramesOfSoManyRecordsAreReadAsTheyWere(t *testing.T) {
	count := 0
	for i, c := range operatorConfigs() {
		logs := mixedLogs(c, i, 24, 24, 24)
		list := []impl.Frame{}
		for n := 0; n <= 72; n += 6 {
			f := frame(len(list)+1, n, impl.TableOf(c, logs, n)...)
			if len(frameByHand(f)) > mostSaved {
				break
			}
			list = append(list, f)
			count += len(f.Rows)
		}
		keepsFrames(t, c, list)
	}
	if count < 1000 {
		t.Errorf("the logs are too dull: %d rows", count)
	}
}

// manyFrames are frames of several rows, of one and of none.
func manyFrames() []impl.Frame {
	rows := fewRows()
	return []impl.Frame{frame(1, 4, rows[:2]...), frame(2, 4), frame(3, 9, rows[1]), frame(4, 70, rows...), frame(5, 72)}
}

func TestAJournalCutAtEveryByte(t *testing.T) {
	c := cubeConfig()
	list := manyFrames()
	whole := journalByHand(list)
	for cut := range len(whole) + 1 {
		n := 0
		for n < len(list) && len(journalByHand(list[:n+1])) <= cut {
			n++
		}
		readsFrames(t, c, whole[:cut], list[:n])
		// What was lost may be put again behind what is left.
		_, used := impl.JournalRead(c, whole[:cut])
		readsFrames(t, c, whole[:used]+journalByHand(list[n:]), list)
		// Behind a torn frame nothing is read, not even what is whole.
		if used < cut {
			readsFrames(t, c, whole[:cut]+journalByHand(list[n:]), list[:n])
			readsFrames(t, c, whole[:cut]+journalByHand(list[min(n+1, len(list)):]), list[:n])
			readsFrames(t, c, whole[:cut]+" "+journalByHand(list[n:]), list[:n])
		}
	}
	// What is ahead of the first frame hides all.
	for cut := 1; cut < len(whole); cut++ {
		readsNone(t, c, whole[cut:])
	}
}

func TestAByteOfAJournalTurned(t *testing.T) {
	c := cubeConfig()
	list := manyFrames()
	whole := []byte(journalByHand(list))
	n, end := 0, len(frameByHand(list[0]))
	for at := range whole {
		if at == end {
			n++
			end += len(frameByHand(list[n]))
		}
		was := whole[at]
		for turned := range 256 {
			if whole[at] = byte(turned); byte(turned) != was {
				readsFrames(t, c, string(whole), list[:n])
			}
		}
		whole[at] = was
	}
	readsFrames(t, c, string(whole), list)
}

// Each two bytes in each other's place, and all those from one to another left out.
func TestBytesOfAJournalOutOfPlace(t *testing.T) {
	c := cubeConfig()
	whole := journalByHand(numbered(fewRows()[:1], nil))
	for i := range whole {
		for j := i + 1; j < len(whole); j++ {
			changed := []byte(whole)
			changed[i], changed[j] = changed[j], changed[i]
			for _, s := range []string{string(changed), whole[:i] + whole[j:]} {
				want, _ := journalByForm(c, s)
				readsFrames(t, c, s, want)
			}
		}
	}
}

func TestBytesBehindTheLastFrame(t *testing.T) {
	c := cubeConfig()
	list := manyFrames()
	whole := journalByHand(list)
	for _, behind := range append(ordinaryTexts(), " ", "\n\n", "frame", "frame ", "frame 6", "frame 6 72 0", "frame 6 72 0\n", "frame 6 72 0\nsum ", "frame 6 72 1\nrow 0 3 0 0 1 7 7 7 1\n", "row 0 3 0 0 1 7 7 7 1\n", "sum 0\n",
		frameByHand(list[0]), frameByHand(list[4]), whole, strings.Repeat("frame 6 72 0\n", 5000), strings.Repeat("row 0 3 0 0 1 7 7 7 1\n", 5000), "frame 6 72 5000\n"+strings.Repeat("row 0 3 0 0 1 7 7 7 1\n", 5000)) {
		readsFrames(t, c, whole+behind, list)
		readsNone(t, c, behind[:0])
		if behind != whole && behind != frameByHand(list[0]) {
			readsNone(t, c, behind)
		}
	}
	next := frame(6, 72, fewRows()...)
	readsFrames(t, c, whole+frameByHand(next), append(list, next))
}

// Each case has its frames, and how many of them are read.
func TestEpochsAndCountsOfAJournal(t *testing.T) {
	c := cubeConfig()
	r := row(0, 3, 0, one(7), 1)
	for _, x := range []struct {
		list []impl.Frame
		read int
	}{
		{[]impl.Frame{frame(1, 0), frame(2, 0), frame(3, 0)}, 3},
		{[]impl.Frame{frame(2, 0), frame(3, 0)}, 0},
		{[]impl.Frame{frame(2, 0), frame(1, 0), frame(2, 0)}, 0},
		{[]impl.Frame{frame(1000, 0), frame(1, 0)}, 0},
		{[]impl.Frame{frame(1, 0), frame(3, 0), frame(2, 0)}, 1},
		{[]impl.Frame{frame(1, 0), frame(2, 0), frame(4, 0), frame(5, 0)}, 2},
		{[]impl.Frame{frame(1, 0), frame(1, 0), frame(2, 0)}, 1},
		{[]impl.Frame{frame(1, 4, r), frame(1, 4, r), frame(2, 4, r)}, 1},
		{[]impl.Frame{frame(1, 0), frame(2, 0), frame(2, 0), frame(3, 0)}, 2},
		{[]impl.Frame{frame(1, 0), frame(2, 0), frame(1, 0), frame(2, 0), frame(3, 0)}, 2},
		{[]impl.Frame{frame(1, 0), frame(1000, 0)}, 1},
		{[]impl.Frame{frame(1, 72), frame(2, 72), frame(3, 72)}, 3},
		{[]impl.Frame{frame(1, 5), frame(2, 4), frame(3, 5)}, 1},
		{[]impl.Frame{frame(1, 5), frame(2, 5), frame(3, 4), frame(4, 5)}, 2},
		{[]impl.Frame{frame(1, 1), frame(2, 0)}, 1},
		{[]impl.Frame{frame(1, 72), frame(2, 71)}, 1},
		{[]impl.Frame{frame(1, 0), frame(2, 72), frame(3, 0)}, 2},
		{[]impl.Frame{frame(1, 3), frame(2, 7), frame(3, 5)}, 2},
		{[]impl.Frame{frame(1, 9), frame(2, 10), frame(3, 10), frame(4, 9)}, 3},
		{[]impl.Frame{frame(1, 2, r), frame(2, 2, r), frame(3, 2), frame(4, 3, r)}, 4},
	} {
		readsFrames(t, c, journalByHand(x.list), x.list[:x.read])
	}
}

func TestAJournalOfAsManyFramesAsThereMayBe(t *testing.T) {
	c := cubeConfig()
	list := []impl.Frame{}
	for epoch := 1; epoch <= mostEpoch; epoch++ {
		list = append(list, frame(epoch, epoch*mostRead/mostEpoch, fewRows()[:epoch%3]...))
	}
	keepsFrames(t, c, list)
	whole := journalByHand(list)
	readsFrames(t, c, whole[:len(whole)-1], list[:mostEpoch-1])
	for _, f := range []impl.Frame{frame(1001, mostRead), frame(1000, mostRead), frame(1, mostRead), frame(0, mostRead)} {
		readsFrames(t, c, whole+frameByHand(f), list)
	}
}

// A text that is nearly a frame's, with the sum of what it is then: what is read is just what the form says.
func TestJournalReadTakesOnlyTexts(t *testing.T) {
	c := cubeConfig()
	taken, refused := 0, 0
	for _, body := range []string{"frame 1 10 0\n", "frame 1 5 1\nrow 0 3 10 0 1 7 7 7 10\n", "frame 1 0 2\nrow 0 2 0 1 10 1 0 0 0 1\nrow 1 3 -5 0 2 3 -2 5 2\n"} {
		for _, near := range append(nearTexts(body, "01279 -+xfr\n"), body) {
			want, _ := journalByForm(c, sealedByHand(near))
			readsFrames(t, c, sealedByHand(near), want)
			taken += len(want)
			refused += 1 - len(want)
		}
	}
	if taken < 50 || refused < 500 {
		t.Errorf("%d of the near texts are those of frames, %d are not", taken, refused)
	}
}

// Each of these bodies bears the sum of itself.
func TestJournalReadRefusesWhatIsNearlyOne(t *testing.T) {
	c := cubeConfig()
	const a, b = "row 0 3 0 0 1 7 7 7 1\n", "row 1 3 -5 0 1 0 0 0 1000\n"
	for _, body := range []string{"frame 1 5 0\n", "frame 1 5 1\n" + a, "frame 1 5 1\n" + b, "frame 1 5 2\n" + a + b} {
		whole := sealedByHand(body)
		if f, used := impl.JournalRead(c, whole); len(f) != 1 || used != len(whole) {
			t.Errorf("JournalRead(%q) = %v, %d", whole, f, used)
		}
		for _, s := range []string{
			body, whole[:len(whole)-1], "\n" + whole, " " + whole, "\x00" + whole, sealedByHand("\n" + body), sealedByHand(body + "\n"), sealedByHand(body[:len(body)-1]), sealedByHand(body + body),
			body + "\n" + whole[len(body):], body + whole[len(body):len(whole)-1] + " \n", body + strings.Replace(whole[len(body):], "sum ", "sum  ", 1), body + strings.Replace(whole[len(body):], "sum ", "sum 0", 1), body + strings.Replace(whole[len(body):], "sum ", "sum +", 1),
			body + "sum 0\n", body + "sum " + fmt.Sprint(crcByHand(body)+1<<32) + "\n", body + "sum -" + fmt.Sprint(crcByHand(body)) + "\n", body + "sum " + fmt.Sprint(crcByHand(whole)) + "\n", body + "sum " + fmt.Sprint(crcByHand(body[:len(body)-1])) + "\n",
			sealedByHand(strings.ReplaceAll(body, "\n", "\r\n")), sealedByHand(strings.ReplaceAll(body, "\n", " \n")), sealedByHand(strings.ReplaceAll(body, " ", "  ")), sealedByHand(strings.ReplaceAll(body, " ", "\t")), sealedByHand(strings.ToUpper(body)),
		} {
			readsNone(t, c, s)
		}
	}
	for _, body := range []string{
		"", "\n", "x\n", "frame\n", "frame \n", "frame 1\n", "frame 1 5\n", "frame 1 5 \n", "frame 1 5 0 0\n", "frame 1 5 0 \n", " frame 1 5 0\n", "frames 1 5 0\n", "fram 1 5 0\n", "Frame 1 5 0\n", "1 5 0\n", "frame,1,5,0\n", "frame 1 5 x\n", "frame x 5 0\n",
		"frame 01 5 0\n", "frame 1 05 0\n", "frame 1 5 00\n", "frame +1 5 0\n", "frame 1 +5 0\n", "frame 1 5 +0\n", "frame -1 5 0\n", "frame 1 -5 0\n", "frame 1 -0 0\n", "frame 1 5 -0\n", "frame 1 5 -1\n", "frame 1.0 5 0\n", "frame 1 5 0x0\n", "frame 1 5 1_0\n", "frame １ 5 0\n",
		"frame 0 5 0\n", "frame 2 5 0\n", "frame 1001 5 0\n", "frame 1 73 0\n", "frame 1 -1 0\n", "frame 18446744073709551617 5 0\n", "frame 1 18446744073709551617 0\n", "frame 1 5 18446744073709551616\n", "frame 4294967297 5 0\n", "frame 1 5 4294967296\n",
		// A number of rows that is not how many there are.
		"frame 1 5 1\n", "frame 1 5 2\n", "frame 1 5 9223372036854775807\n", "frame 1 5 -9223372036854775808\n", "frame 1 5 0\n" + a, "frame 1 5 2\n" + a, "frame 1 5 -1\n" + a, "frame 1 5 1\n" + a + b, "frame 1 5 0\n" + a + b, "frame 1 5 3\n" + a + b, "frame 1 5 01\n" + a, "frame 1 5 +1\n" + a,
		// Rows that do not rise, or that are none.
		"frame 1 5 2\n" + b + a, "frame 1 5 2\n" + a + a, "frame 1 5 3\n" + a + b + b, "frame 1 5 3\n" + a + b + a, "frame 1 5 2\n" + a + "row 0 3 0 0 1 8 8 8 2\n", "frame 1 5 2\n" + a + "\n" + b, "frame 1 5 2\n\n" + a + b, "frame 1 5 3\n" + a + "\n" + b, "frame 1 5 1\n\n",
		a + "frame 1 5 1\n", a, a + b, "frame 1 5 1\nframe 1 5 0\n", "frame 1 5 1\nsum 0\n", "frame 1 5 1\npane 0 3 0 0 1 7 7 7\n", "frame 1 5 1\npane 0 3 0 0 1 7 7 7 1\n", "frame 1 5 1\nrow\n", "frame 1 5 1\nRow 0 3 0 0 1 7 7 7 1\n", "frame 1 5 1 " + a, "frame 1 5 1 \n" + a, "frame 1 5 1\n " + a,
		"frame 1 5 1\nrow 0 3 0 0 1 7 7 7 0\n", "frame 1 5 1\nrow 0 3 0 0 1 7 7 7 1001\n", "frame 1 5 1\nrow 0 3 0 0 1 7 7 7 -1\n", "frame 1 5 1\nrow 0 3 0 0 1 7 7 7 01\n", "frame 1 5 1\nrow 0 3 0 0 1 7 7 7 +1\n", "frame 1 5 1\nrow 0 3 00 0 1 7 7 7 1\n", "frame 1 5 1\nrow 0 3 -0 0 1 7 7 7 1\n",
		"frame 1 5 1\nrow 0 3 0 0 1 7 7 7\n", "frame 1 5 1\nrow 0 3 0 0 1 7 7 7 1 1\n", "frame 1 5 1\nrow 0 3 0 0 1 7 7 8 1\n", "frame 1 5 1\nrow 0 3 0 0 0 0 0 0 1\n", "frame 1 5 1\nrow 3 3 0 0 1 7 7 7 1\n", "frame 1 5 1\nrow 0 4 0 0 1 7 7 7 1\n", "frame 1 5 1\nrow 0 3 1 0 1 7 7 7 1\n", "frame 1 5 1\nrow 0 3 200005 0 1 7 7 7 1\n",
		"frame 1 5 1\nrow 0 3 0 1 5 1 7 7 7 1\n", "frame 1 5 1\nrow 0 2 0 0 1 7 7 7 1\n", "frame 1 5 1\nrow 0 2 0 1 100 1 7 7 7 1\n", "frame 1 5 1\nrow 0 2 0 1 -1 1 7 7 7 1\n", "frame 1 5 1\nrow 0 3 0 9223372036854775807 1 7 7 7 1\n",
		"frame 1 5 0" + strings.Repeat(" 0", 50000) + "\n", "frame " + strings.Repeat("1", 50000) + " 5 0\n", "frame 1 5 5000\n" + strings.Repeat(a, 5000), "frame 1 5 0\n" + strings.Repeat("\n", 50000), strings.Repeat("frame 1 5 0\n", 5000), strings.Repeat(" ", 50000), allBytes(),
	} {
		readsNone(t, c, sealedByHand(body))
		readsNone(t, c, body)
	}
}

func TestEachRowIsReadWithEachConfigAlone(t *testing.T) {
	f := frame(1, 5, rowsOf(soundPanes())...)
	readsFrames(t, cubeConfig(), frameByHand(f), []impl.Frame{f})
	for _, c := range append(refusedConfigs(), impl.Config{}, plainConfig(0, 0), config(3, []impl.Win{win(10, 5), win(5, 5)}, []int{5, 7, 4, 0}, 3, 4)) {
		readsNone(t, c, frameByHand(f))
	}
	for _, c := range refusedConfigs() {
		readsNone(t, c, frameByHand(frame(1, 0)))
		readsNone(t, c, "")
		readsNone(t, c, "x")
	}
}

// frameOfBytes tells a frame whose text has so many bytes, with savedConfig: rows that are told once, as many as
// fit, and some of them told more often where there is room left. The sum is taken to have 10 digits.
func frameOfBytes(t *testing.T, epoch, bytes int) impl.Frame {
	t.Helper()
	f := frame(epoch, 24)
	left := bytes - len("frame 1 24 1000\n") - len("sum 1234567890\n")
	for i := 0; left > 100; i++ {
		f.Rows = append(f.Rows, row(0, 0, i, one(1), 1, 7, 7, 7))
		left -= len(rowByHand(f.Rows[i])) + 1
	}
	for i := 0; left > 0; i++ {
		digits := min(left, 3)
		f.Rows[i].Times, left = ipow(10, digits), left-digits
	}
	for v := range 10 {
		f.Rows[0].A = one(v)
		if len(frameByHand(f)) == bytes {
			return f
		}
	}
	t.Fatalf("no frame found whose text has %d bytes", bytes)
	return impl.Frame{}
}

func TestFramesOfMaxSavedBytes(t *testing.T) {
	c := savedConfig()
	list := []impl.Frame{frameOfBytes(t, 1, mostSaved-1), frameOfBytes(t, 2, mostSaved), frameOfBytes(t, 3, mostSaved)}
	keepsFrames(t, c, list)
	whole := journalByHand(list)
	if len(whole) != 3*mostSaved-1 {
		t.Fatalf("the frames have %d bytes", len(whole))
	}
	readsFrames(t, c, whole[:len(whole)-1], list[:2])
	for turned := range flips(frameByHand(list[1]), 9973) {
		readsFrames(t, c, frameByHand(list[0])+turned, list[:1])
	}
	for _, bytes := range []int{mostSaved + 1, mostSaved + 2, 2 * mostSaved} {
		f := frameOfBytes(t, 1, bytes)
		if got := impl.FrameText(c, f); got != "" || !impl.FrameOk(c, f) {
			t.Errorf("FrameText of %d bytes has %d", bytes, len(got))
		}
		readsNone(t, c, frameByHand(f))
		f.Epoch = 4
		readsFrames(t, c, whole+frameByHand(f), list)
		// A small frame behind the one that is too long is not read either.
		readsFrames(t, c, whole+frameByHand(f)+frameByHand(frame(4, 24))+frameByHand(frame(5, 24)), list)
	}
}

func upsertByHand(rows, more []impl.Row) []impl.Row {
	for _, r := range more {
		same := slices.IndexFunc(rows, func(x impl.Row) bool { return impl.PaneCmp(paneOf(x), paneOf(r)) == 0 })
		behind := slices.IndexFunc(rows, func(x impl.Row) bool { return impl.PaneCmp(paneOf(x), paneOf(r)) == 1 })
		switch {
		case same >= 0:
			rows = slices.Concat(rows[:same], []impl.Row{r}, rows[same+1:])
		case behind >= 0:
			rows = slices.Concat(rows[:behind], []impl.Row{r}, rows[behind:])
		default:
			rows = slices.Concat(rows, []impl.Row{r})
		}
	}
	return rows
}

func deltaByHand(old, now []impl.Row) []impl.Row {
	rest := []impl.Row{}
	for _, r := range now {
		if !slices.ContainsFunc(old, func(x impl.Row) bool { return sameRow(x, r) }) {
			rest = append(rest, r)
		}
	}
	return rest
}

func isRows(t *testing.T, call string, got, want []impl.Row) {
	t.Helper()
	if !sameRows(got, want) {
		t.Errorf("%s = %v; want %v", call, got, want)
	}
}

// tolds tells rows of plain panes: of each three numbers a Start, a value and Times.
func tolds(nums ...int) []impl.Row {
	rows := []impl.Row{}
	for list := range slices.Chunk(nums, 3) {
		rows = append(rows, told(list[0], one(list[1]), list[2]))
	}
	return rows
}

func TestUpsert(t *testing.T) {
	for _, x := range []struct{ rows, more, want []impl.Row }{
		{nil, nil, nil},
		{nil, tolds(10, 1, 1), tolds(10, 1, 1)},
		{tolds(10, 1, 1), nil, tolds(10, 1, 1)},
		{tolds(10, 1, 1), tolds(10, 2, 2), tolds(10, 2, 2)},
		// The new row wins, also where it was told less often.
		{tolds(10, 1, 5), tolds(10, 2, 1), tolds(10, 2, 1)},
		{tolds(10, 1, 1), tolds(10, 1, 1), tolds(10, 1, 1)},
		{tolds(10, 1, 1, 20, 2, 1, 30, 3, 1), tolds(20, 5, 2), tolds(10, 1, 1, 20, 5, 2, 30, 3, 1)},
		{tolds(10, 1, 1, 20, 2, 1, 30, 3, 1), tolds(30, 5, 2, 10, 6, 2), tolds(10, 6, 2, 20, 2, 1, 30, 5, 2)},
		// Ahead of all, behind all, between.
		{tolds(10, 1, 1, 20, 2, 1), tolds(0, 5, 1), tolds(0, 5, 1, 10, 1, 1, 20, 2, 1)},
		{tolds(10, 1, 1, 20, 2, 1), tolds(30, 5, 1), tolds(10, 1, 1, 20, 2, 1, 30, 5, 1)},
		{tolds(10, 1, 1, 20, 2, 1), tolds(15, 5, 1), tolds(10, 1, 1, 15, 5, 1, 20, 2, 1)},
		{tolds(10, 1, 1, 20, 2, 1), tolds(30, 5, 1, 0, 6, 1, 15, 7, 1, -10, 8, 1), tolds(-10, 8, 1, 0, 6, 1, 10, 1, 1, 15, 7, 1, 20, 2, 1, 30, 5, 1)},
		{nil, tolds(30, 1, 1, 10, 2, 1, 20, 3, 1), tolds(10, 2, 1, 20, 3, 1, 30, 1, 1)},
		// More names one row twice, one that is there and one that is not.
		{tolds(10, 1, 1), tolds(10, 2, 2, 10, 3, 3), tolds(10, 3, 3)},
		{tolds(10, 1, 1), tolds(20, 2, 2, 20, 3, 3), tolds(10, 1, 1, 20, 3, 3)},
		{nil, tolds(20, 2, 2, 10, 5, 1, 20, 3, 3, 10, 6, 2), tolds(10, 6, 2, 20, 3, 3)},
		// Of several rows of one name the first one gives way.
		{tolds(10, 1, 1, 10, 2, 2, 10, 3, 3), tolds(10, 9, 9), tolds(10, 9, 9, 10, 2, 2, 10, 3, 3)},
		{tolds(10, 1, 1, 10, 2, 2, 10, 3, 3), tolds(10, 9, 9, 10, 8, 8), tolds(10, 8, 8, 10, 2, 2, 10, 3, 3)},
		{tolds(20, 1, 1, 10, 2, 2, 20, 3, 3, 10, 4, 4), tolds(10, 9, 9), tolds(20, 1, 1, 10, 9, 9, 20, 3, 3, 10, 4, 4)},
		{tolds(10, 1, 1, 10, 2, 2), tolds(5, 9, 9), tolds(5, 9, 9, 10, 1, 1, 10, 2, 2)},
		{tolds(10, 1, 1, 10, 2, 2), tolds(15, 9, 9), tolds(10, 1, 1, 10, 2, 2, 15, 9, 9)},
		// Rows that do not rise: one of the same name behind one that is behind it, and the first one that is behind.
		{tolds(30, 1, 1, 20, 2, 1, 10, 3, 1), tolds(10, 9, 9), tolds(30, 1, 1, 20, 2, 1, 10, 9, 9)},
		{tolds(30, 1, 1, 20, 2, 1, 10, 3, 1), tolds(15, 9, 9), tolds(15, 9, 9, 30, 1, 1, 20, 2, 1, 10, 3, 1)},
		{tolds(10, 1, 1, 30, 2, 1, 20, 3, 1), tolds(25, 9, 9), tolds(10, 1, 1, 25, 9, 9, 30, 2, 1, 20, 3, 1)},
		{tolds(10, 1, 1, 30, 2, 1, 0, 3, 1, 40, 4, 1), tolds(35, 9, 9), tolds(10, 1, 1, 30, 2, 1, 0, 3, 1, 35, 9, 9, 40, 4, 1)},
		{tolds(30, 1, 1, 10, 2, 1), tolds(40, 9, 9, 35, 8, 8), tolds(30, 1, 1, 10, 2, 1, 35, 8, 8, 40, 9, 9)},
		{tolds(30, 1, 1, 10, 2, 1), tolds(20, 9, 9, 20, 8, 8, 10, 7, 7), tolds(20, 8, 8, 30, 1, 1, 10, 7, 7)},
	} {
		isRows(t, fmt.Sprintf("Upsert(%v, %v)", x.rows, x.more), impl.Upsert(x.rows, x.more), x.want)
		isRows(t, fmt.Sprintf("the test's own of %v, %v", x.rows, x.more), upsertByHand(x.rows, x.more), x.want)
		isRows(t, fmt.Sprintf("SinkOf(%v, %v)", x.rows, x.more), impl.SinkOf([]impl.Frame{frame(1, 0, x.rows...), frame(2, 0, x.more...)}), upsertByHand(upsertByHand(nil, x.rows), x.more))
	}
}

// Each two that are in order by just one thing: by Win, Mask, Start or Key, any numbers.
func TestUpsertKeepsToPaneCmp(t *testing.T) {
	list := rowsOf(risingPanes())
	turned := copyRows(list)
	slices.Reverse(turned)
	isRows(t, "Upsert of turned rows", impl.Upsert(nil, turned), list)
	isRows(t, "Upsert of all rows and again", impl.Upsert(list, turned), list)
	for i, r := range list {
		without := slices.Delete(copyRows(list), i, i+1)
		isRows(t, fmt.Sprintf("Upsert of row %d that is not there", i), impl.Upsert(without, []impl.Row{r}), list)
		isRows(t, fmt.Sprintf("Upsert of row %d, others behind it", i), impl.Upsert(list[i:i+1], without), list)
		other := copyRows(list)
		other[i].A, other[i].Times = agg(2, 3, -2, 5), -77
		isRows(t, fmt.Sprintf("Upsert of row %d that is there", i), impl.Upsert(list, other[i:i+1]), other)
	}
}

// mixedRows tells n rows of few names and numbers, in no order, one name several times.
func mixedRows(n, seed int) []impl.Row {
	rows := []impl.Row{}
	for _, v := range mixed(n, seed) {
		v = (v + bound) / 4
		rows = append(rows, row(v%2, v/2%2, v/4%3*5-5, one(v/12%2), 1+v/24%2, filled(v/48%3, v/144%2)...))
	}
	return rows
}

func TestUpsertAndDeltaOfMixedRows(t *testing.T) {
	kept, left := 0, 0
	for seed := range 300 {
		a, b := mixedRows(seed%25, seed), mixedRows(seed%17, seed+1000)
		want := upsertByHand(a, b)
		isRows(t, fmt.Sprintf("Upsert(%v, %v)", a, b), impl.Upsert(a, b), want)
		rest := deltaByHand(a, b)
		isRows(t, fmt.Sprintf("Delta(%v, %v)", a, b), impl.Delta(a, b), rest)
		isRows(t, fmt.Sprintf("SinkOf(%v, %v, %v)", a, b, a), impl.SinkOf([]impl.Frame{frame(7, -1, a...), frame(0, 0, b...), frame(7, 99, a...)}), upsertByHand(upsertByHand(upsertByHand(nil, a), b), a))
		kept, left = kept+len(a)+len(b)-len(want), left+len(b)-len(rest)
	}
	if kept < 500 || left < 20 {
		t.Errorf("the rows are too dull: %d in the place of others, %d alike", kept, left)
	}
}

func TestDelta(t *testing.T) {
	for _, x := range []struct{ old, now, want []impl.Row }{
		{nil, nil, nil},
		{nil, tolds(10, 1, 1, 20, 2, 1), tolds(10, 1, 1, 20, 2, 1)},
		{tolds(10, 1, 1, 20, 2, 1), nil, nil},
		{tolds(10, 1, 1, 20, 2, 1), tolds(10, 1, 1, 20, 2, 1), nil},
		{tolds(10, 1, 1), tolds(10, 1, 1, 20, 2, 1), tolds(20, 2, 1)},
		{tolds(10, 1, 1, 20, 2, 1, 30, 3, 1), tolds(0, 5, 1, 10, 1, 1, 20, 5, 2, 30, 3, 1, 40, 6, 1), tolds(0, 5, 1, 20, 5, 2, 40, 6, 1)},
		// Those that differ in A or in Times alone.
		{tolds(10, 1, 1), tolds(10, 2, 1), tolds(10, 2, 1)},
		{tolds(10, 1, 1), tolds(10, 1, 2), tolds(10, 1, 2)},
		{tolds(10, 1, 2), tolds(10, 1, 1), tolds(10, 1, 1)},
		// Those that stand twice, in old, in now or in both, and in no order.
		{nil, tolds(10, 1, 1, 10, 1, 1), tolds(10, 1, 1, 10, 1, 1)},
		{tolds(10, 1, 1), tolds(10, 1, 1, 10, 1, 1), nil},
		{tolds(10, 1, 1, 10, 1, 1), tolds(10, 1, 1), nil},
		{tolds(10, 1, 1, 10, 2, 2), tolds(10, 2, 2, 10, 1, 1, 10, 3, 3, 10, 1, 1), tolds(10, 3, 3)},
		{tolds(10, 1, 1, 10, 2, 2), tolds(10, 1, 2, 10, 2, 1), tolds(10, 1, 2, 10, 2, 1)},
		{tolds(30, 3, 1, 10, 1, 1), tolds(40, 4, 1, 30, 3, 1, 20, 2, 1, 10, 1, 1, 0, 5, 1), tolds(40, 4, 1, 20, 2, 1, 0, 5, 1)},
		{tolds(20, 2, 1), tolds(30, 3, 1, 20, 2, 2, 30, 3, 1, 20, 2, 1), tolds(30, 3, 1, 20, 2, 2, 30, 3, 1)},
	} {
		isRows(t, fmt.Sprintf("Delta(%v, %v)", x.old, x.now), impl.Delta(x.old, x.now), x.want)
		isRows(t, fmt.Sprintf("the test's own of %v, %v", x.old, x.now), deltaByHand(x.old, x.now), x.want)
	}
}

// Two rows that differ in just one number, also where A is not AggOk, are two.
func TestDeltaAsksForEachNumber(t *testing.T) {
	base := row(1, 2, 3, impl.Agg{N: 4, Sum: 5, Min: 6, Max: 7}, 8, 9, 10)
	others := []impl.Row{base}
	for _, n := range append(farNumbers(), 0, 11, -1, 1, 2, 3, 4, 5, 6, 7, 8, 9, 10) {
		for i := range 10 {
			r := row(1, 2, 3, impl.Agg{N: 4, Sum: 5, Min: 6, Max: 7}, 8, 9, 10)
			for place, number := range []*int{&r.Win, &r.Mask, &r.Start, &r.A.N, &r.A.Sum, &r.A.Min, &r.A.Max, &r.Times, &r.Key[0], &r.Key[1]} {
				if place == i {
					*number = n
				}
			}
			others = append(others, r)
		}
	}
	for _, key := range [][]int{nil, {}, {9}, {10}, {10, 9}, {9, 10, 0}, {9, 10, 4}, {2, 9, 10}, {9, 10, 9, 10}, {910}} {
		others = append(others, row(1, 2, 3, base.A, 8, key...))
	}
	for _, r := range others {
		isRows(t, fmt.Sprintf("Delta of %v and %v", base, r), impl.Delta([]impl.Row{base}, []impl.Row{r}), deltaByHand([]impl.Row{base}, []impl.Row{r}))
		isRows(t, fmt.Sprintf("Delta of %v and itself", r), impl.Delta(others, []impl.Row{r}), nil)
	}
	// An empty key and nil are the same.
	none := row(1, 2, 3, base.A, 8)
	none.Key = []int{}
	isRows(t, "Delta of an empty key and nil", impl.Delta([]impl.Row{none}, []impl.Row{row(1, 2, 3, base.A, 8)}), nil)
	isRows(t, "Upsert of an empty key and nil", impl.Upsert([]impl.Row{none}, []impl.Row{row(1, 2, 3, base.A, 9)}), []impl.Row{row(1, 2, 3, base.A, 9)})
}

func TestSinkOf(t *testing.T) {
	for _, x := range []struct {
		list []impl.Frame
		want []impl.Row
	}{
		{nil, nil},
		{[]impl.Frame{}, nil},
		{[]impl.Frame{{}, {}}, nil},
		{[]impl.Frame{frame(1, 4, tolds(10, 1, 1, 20, 2, 1)...)}, tolds(10, 1, 1, 20, 2, 1)},
		{[]impl.Frame{frame(1, 4, tolds(10, 1, 1, 20, 2, 1)...), frame(2, 4)}, tolds(10, 1, 1, 20, 2, 1)},
		{[]impl.Frame{frame(1, 4), frame(2, 5, tolds(20, 2, 1)...), frame(3, 6, tolds(10, 1, 1, 20, 3, 2)...), frame(4, 7, tolds(15, 4, 1)...)}, tolds(10, 1, 1, 15, 4, 1, 20, 3, 2)},
		// Nothing is asked of the frames: their Epochs and Counts are as they are, and their rows.
		{[]impl.Frame{frame(9, 9, tolds(10, 1, 1)...), frame(3, -5, tolds(10, 2, 1)...)}, tolds(10, 2, 1)},
		{[]impl.Frame{frame(9, 9, tolds(10, 2, 1)...), frame(3, -5, tolds(10, 1, 1)...), frame(9, 9, tolds(5, 0, 0)...)}, tolds(5, 0, 0, 10, 1, 1)},
		{[]impl.Frame{frame(1, 1, tolds(30, 1, 1, 10, 2, 1, 30, 3, 2, 20, 4, 1)...)}, tolds(10, 2, 1, 20, 4, 1, 30, 3, 2)},
	} {
		isRows(t, fmt.Sprintf("SinkOf(%v)", x.list), impl.SinkOf(x.list), x.want)
	}
}

// The sink of frames, each of what a table has more than the one ahead, is the last table; cut anywhere, the table of as many records as the last frame says.
func TestTheSinkIsWhatTheFramesSay(t *testing.T) {
	corrected := 0
	for i, c := range operatorConfigs() {
		logs := mixedLogs(c, i+3, 24, 24, 24)
		text, sink, ends := "", []impl.Row{}, map[int]int{0: 0}
		for epoch, n := 1, 0; n <= 72; epoch, n = epoch+1, n+5 {
			table := impl.TableOf(c, logs, n)
			f := frame(epoch, n, impl.Delta(sink, table)...)
			next := impl.Upsert(sink, f.Rows)
			isRows(t, "Upsert of a Delta", next, table)
			corrected += len(sink) + len(f.Rows) - len(next)
			line := impl.FrameText(c, f)
			if line == "" {
				break
			}
			sink, text = next, text+line
			ends[len(text)] = n
		}
		for cut := 0; cut <= len(text); cut += 1 + len(text)/20 {
			list, used := impl.JournalRead(c, text[:cut])
			n, known := ends[used]
			if !known || used > 0 && list[len(list)-1].Count != n {
				t.Fatalf("JournalRead of %d bytes tells %d", cut, used)
			}
			isRows(t, "SinkOf of a cut journal", impl.SinkOf(list), impl.TableOf(c, logs, n))
		}
	}
	if corrected < 50 {
		t.Errorf("the logs are too dull: %d rows told again", corrected)
	}
}

// roomyRows tells rows with spare room behind the list and behind each key, and all these lists with their room.
func roomyRows(rows []impl.Row) ([]impl.Row, []any) {
	all := append(copyRows(rows), told(-5, one(55), 5), told(1000, one(66), 6))
	rooms := [][]int{}
	for i := range rows {
		room := append(slices.Clone(rows[i].Key), 81, 82)
		rooms, all[i].Key = append(rooms, room), room[:len(rows[i].Key)]
	}
	return all[:len(rows)], []any{rooms, all}
}

// journalRows are two lists of rows that are alike in part, with keys.
func journalRows() ([]impl.Row, []impl.Row) {
	old := fewRows()
	now := copyRows(old)
	now[1].Times, now[2].A = 7, one(9)
	return old, append(now[1:], row(2, 0, 15, one(4), 1, 8, 9))
}

func TestTheJournalLeavesItsArguments(t *testing.T) {
	c := cubeConfig()
	a, b := journalRows()
	old, oldBehind := roomyRows(a)
	now, nowBehind := roomyRows(b)
	before := fmt.Sprint(oldBehind, nowBehind)
	list := []impl.Frame{frame(1, 5, old...), frame(2, 6, now...), frame(3, 7, old...)}
	list[0].Rows, list[1].Rows = old, now
	for _, f := range list {
		if text := impl.FrameText(c, f); !impl.FrameOk(c, f) || text != frameByHand(f) {
			t.Errorf("FrameText reads what lies behind a list: %q", text)
		}
	}
	isRows(t, "Upsert", impl.Upsert(old, now), upsertByHand(a, b))
	isRows(t, "Upsert the other way", impl.Upsert(now, old), upsertByHand(b, a))
	isRows(t, "Upsert of one list and itself", impl.Upsert(old, old), a)
	isRows(t, "Upsert of a part", impl.Upsert(old[:1], old[1:3]), a[:3])
	isRows(t, "Delta", impl.Delta(old, now), deltaByHand(a, b))
	isRows(t, "Delta the other way", impl.Delta(now, old), deltaByHand(b, a))
	isRows(t, "Delta of none", impl.Delta(old[:0], now), b)
	isRows(t, "SinkOf", impl.SinkOf(list[:2]), upsertByHand(upsertByHand(nil, a), b))
	if fmt.Sprint(oldBehind, nowBehind) != before || !sameRows(old, a) || !sameRows(now, b) || !reflect.DeepEqual(c, cubeConfig()) {
		t.Errorf("the journal writes into its arguments: %v, %v", old, now)
	}
	if len(list) != 3 || !sameFrame(list[2], frame(3, 7, a...)) {
		t.Errorf("the journal writes into a list of frames: %v", list)
	}
}

func TestRowsOfTheJournalAreNewMemory(t *testing.T) {
	a, b := journalRows()
	old, oldBehind := roomyRows(a)
	now, nowBehind := roomyRows(b)
	twice := append(copyRows(now), now...)
	before := fmt.Sprint(oldBehind, nowBehind, twice)
	for i, tells := range []func() []impl.Row{
		func() []impl.Row { return impl.Upsert(old, nil) },
		func() []impl.Row { return impl.Upsert(nil, now) },
		func() []impl.Row { return impl.Upsert(old, now) },
		func() []impl.Row { return impl.Upsert(now, old) },
		func() []impl.Row { return impl.Upsert(old, old) },
		func() []impl.Row { return impl.Upsert(old, twice) },
		func() []impl.Row { return impl.Upsert(twice, twice) },
		func() []impl.Row { return impl.Delta(nil, now) },
		func() []impl.Row { return impl.Delta(old, now) },
		func() []impl.Row { return impl.Delta(old, twice) },
		func() []impl.Row { return impl.SinkOf([]impl.Frame{frame(1, 0, old...)}) },
		func() []impl.Row {
			return impl.SinkOf([]impl.Frame{frame(1, 0, old...), frame(2, 0, now...), frame(3, 0, now...)})
		},
	} {
		want := copyRows(tells())
		got := tells()
		lists := []impl.Pane{}
		for _, r := range got {
			lists = append(lists, paneOf(r))
		}
		keysApart(t, lists)
		scribbleRows(tells())
		if fmt.Sprint(oldBehind, nowBehind, twice) != before {
			t.Fatalf("answer %d shares memory with an argument", i)
		}
		if again := tells(); len(want) == 0 || !sameRows(again, want) {
			t.Fatalf("answer %d tells what was written into an earlier one: %v; want %v", i, again, want)
		}
	}
	// What is written into an argument is not seen in an answer.
	all := [][]impl.Row{impl.Upsert(old, now), impl.Delta(old, now), impl.SinkOf([]impl.Frame{{Rows: old}, {Rows: now}})}
	told := fmt.Sprint(all)
	scribbleRows(old)
	scribbleRows(now)
	if got := fmt.Sprint(all); got != told {
		t.Errorf("an answer tells what was written into an argument: %s", got)
	}
}

func TestFramesReadAreNewMemory(t *testing.T) {
	c := cubeConfig()
	want := manyFrames()
	s := journalByHand(want)
	first, _ := impl.JournalRead(c, s)
	_ = append(first, frame(77, 77))
	for i := range first {
		scribbleRows(first[i].Rows)
		first[i] = frame(99, 99)
	}
	readsFrames(t, c, s, want)
	got, _ := impl.JournalRead(c, s)
	lists := []impl.Pane{}
	for _, f := range got {
		for _, r := range f.Rows {
			lists = append(lists, paneOf(r))
		}
	}
	keysApart(t, lists)
	// What is written into all the room of one frame's rows is not seen in another frame.
	got, _ = impl.JournalRead(c, s)
	for i := range got {
		before := copyFrames(got)
		room := got[i].Rows[:cap(got[i].Rows)]
		for j := range room {
			room[j] = told(1, one(1), 1)
		}
		for j := range got {
			if j != i && !sameFrame(got[j], before[j]) {
				t.Fatalf("the rows of the frames %d and %d share memory", i, j)
			}
		}
	}
}
