package tests

import (
	"fmt"
	"math"
	"reflect"
	"runtime"
	"slices"
	"strings"
	"sync"
	"testing"
	"time"

	"loop.example/g00552/impl"
)

const mostActs = impl.MaxActs

func act(kind, n, m int) impl.Act {
	return impl.Act{Kind: kind, N: n, M: m}
}

// kinds tells acts of these kinds, without numbers.
func kinds(list ...int) []impl.Act {
	acts := []impl.Act{}
	for _, kind := range list {
		acts = append(acts, act(kind, 0, 0))
	}
	return acts
}

func up() []impl.Act { return kinds(impl.AcUp) }

func reading(n int) []impl.Act { return []impl.Act{act(impl.AcRead, n, 0)} }

func crashing(n, m int) []impl.Act { return []impl.Act{act(impl.AcCrash, n, m)} }

func commit() []impl.Act {
	return kinds(impl.AcSnap, impl.AcSnapSync, impl.AcPush, impl.AcPushSync)
}

// committing tells acts that read so many records and commit them, again and again.
func committing(counts ...int) []impl.Act {
	acts := []impl.Act{}
	for _, n := range counts {
		acts = slices.Concat(acts, reading(n), commit())
	}
	return acts
}

// done is the reply to an act that tells nothing else.
func done() impl.Reply { return impl.Reply{} }

func failed(code int) impl.Reply { return impl.Reply{Code: code} }

func committed(epoch, count int, rows ...impl.Row) impl.Reply {
	return impl.Reply{Epoch: epoch, Count: count, Rows: rows}
}

func sameReply(a, b impl.Reply) bool {
	return a.Code == b.Code && a.Epoch == b.Epoch && a.Count == b.Count && sameRows(a.Rows, b.Rows)
}

// briefly tells a reply without the last of many rows.
func briefly(r impl.Reply) string {
	return fmt.Sprintf("%.400s", fmt.Sprint(r))
}

func sameOutcome(a, b impl.Outcome) bool {
	return slices.EqualFunc(a.Replies, b.Replies, sameReply) && sameDisk(a.Disk, b.Disk) && a.Up == b.Up
}

func copyReplies(list []impl.Reply) []impl.Reply {
	list = slices.Clone(list)
	for i := range list {
		list[i].Rows = copyRows(list[i].Rows)
	}
	return list
}

func run(t *testing.T, c impl.Config, logs []impl.Part, acts []impl.Act) impl.Outcome {
	t.Helper()
	out, ok := impl.Run(c, logs, acts)
	if !ok || len(out.Replies) != len(acts) {
		t.Fatalf("Run(%v, %q, %v) = %d replies, %v", c, logs, acts, len(out.Replies), ok)
	}
	return out
}

func refusesRun(t *testing.T, c impl.Config, logs []impl.Part, acts []impl.Act) {
	t.Helper()
	if got, ok := impl.Run(c, logs, acts); ok || !reflect.ValueOf(got).IsZero() {
		t.Errorf("Run(%v) of %d parts and %d acts = %.300v, %v; want nothing, false", c, len(logs), len(acts), fmt.Sprint(got), ok)
	}
}

// runsTo asks for all of an outcome.
func runsTo(t *testing.T, c impl.Config, logs []impl.Part, acts []impl.Act, want impl.Outcome) {
	t.Helper()
	got := run(t, c, logs, acts)
	for i := range acts {
		if !sameReply(got.Replies[i], want.Replies[i]) {
			t.Fatalf("act %d of %v: %s; want %s", i, acts, briefly(got.Replies[i]), briefly(want.Replies[i]))
		}
	}
	if got.Up != want.Up {
		t.Fatalf("behind %v: up is %v", acts, got.Up)
	}
	isDisk(t, got.Disk, want.Disk)
}

// ckptByHand tells the text of a checkpoint, also of one that is too long.
func ckptByHand(s impl.State, f impl.Frame) string {
	return sealedByHand(bodyByHand(s)) + frameByHand(f)
}

// ckptByForm tries each place where a frame may begin, without what reads a checkpoint in the program.
func ckptByForm(c impl.Config, s string) (impl.State, impl.Frame, bool) {
	for end := range s {
		if end > mostSaved || !strings.HasPrefix(s[end:], "frame") {
			continue
		}
		body := s[:1+strings.LastIndex(strings.TrimSuffix(s[:end], "\n"), "\n")]
		state, isState := readBodyByForm(c, body)
		f, size, isFrame := frameByForm(c, s[end:])
		if isState && sealedByHand(body) == s[:end] && isFrame && end+size == len(s) {
			return state, f, true
		}
	}
	return impl.State{}, impl.Frame{}, false
}

// A handEngine does acts on what the tests have by hand of the other chapters.
type handEngine struct {
	c     impl.Config
	logs  []impl.Part
	order []impl.Pos
	files shelf
	up    bool
	s     impl.State
	read  int
	last  impl.Frame
	sink  []impl.Row
	phase int
	under impl.Frame
}

func handEngineOf(c impl.Config, logs []impl.Part) *handEngine {
	return &handEngine{c: c, logs: logs, order: orderByHand(c, logs), files: shelf{}}
}

func (e *handEngine) do(a impl.Act) impl.Reply {
	switch {
	case a.Kind < 1 || a.Kind > 7:
		return failed(4)
	case a.Kind == 6:
		e.files.crash([]int{a.N, a.M})
		e.up = false
		return done()
	case a.Kind == 7 && e.up:
		return failed(2)
	case a.Kind == 7:
		return e.comeUp()
	case !e.up:
		return failed(1)
	case a.Kind == 1:
		for range clamp(a.N, len(e.order)-e.read) {
			at := e.order[e.read]
			e.s = takeByHand(e.c, e.s, at.Part, e.logs[at.Part].Recs[at.Rec])
			e.read++
		}
		return done()
	case a.Kind != e.phase+2:
		return failed(3)
	}
	return e.step()
}

// step does the act of a commit that is the next one.
func (e *handEngine) step() impl.Reply {
	switch e.phase {
	case 0:
		if len(sealedByHand(bodyByHand(e.s))) > mostSaved {
			return failed(5)
		}
		e.under = frame(e.last.Epoch+1, e.read, deltaByHand(e.sink, e.s.Rows)...)
		e.files.put("ckpt", ckptByHand(e.s, e.under))
	case 1:
		e.files.sync("ckpt")
	case 2:
		if !e.files.put("sink", e.files["sink"].Now+frameByHand(e.under)) {
			return failed(5)
		}
	case 3:
		e.files.sync("sink")
		e.sink, e.last, e.phase = upsertByHand(e.sink, e.under.Rows), e.under, 0
		return committed(e.last.Epoch, e.last.Count, e.sink...)
	}
	e.phase++
	return done()
}

func (e *handEngine) comeUp() impl.Reply {
	frames, used := journalByForm(e.c, e.files["sink"].Now)
	s, f, ok := ckptByForm(e.c, e.files["ckpt"].Now)
	if !ok {
		s = states(filled(len(e.logs), 0), filled(len(e.logs), -200000), nil, nil, 0, 0)
	}
	text, last := e.files["sink"].Now[:used], impl.Frame{}
	if used > 0 {
		last = frames[len(frames)-1]
	}
	if ok && f.Epoch == last.Epoch+1 {
		text, last, frames = text+frameByHand(f), f, append(frames, f)
	}
	if !e.files.put("sink", text) {
		return failed(5)
	}
	e.files.sync("sink")
	e.up, e.s, e.read, e.last, e.sink, e.phase = true, s, f.Count, last, nil, 0
	for _, x := range frames {
		e.sink = upsertByHand(e.sink, x.Rows)
	}
	return committed(last.Epoch, last.Count, e.sink...)
}

func runByHand(c impl.Config, logs []impl.Part, acts []impl.Act) impl.Outcome {
	e := handEngineOf(c, logs)
	out := impl.Outcome{}
	for _, a := range acts {
		r := e.do(a)
		r.Rows = copyRows(r.Rows)
		out.Replies = append(out.Replies, r)
	}
	out.Disk, out.Up = e.files.disk(), e.up
	return out
}

// tablesByHand tells the rows of so many records, from none to all.
func tablesByHand(c impl.Config, logs []impl.Part) [][]impl.Row {
	s := impl.Fresh(c, len(logs))
	tables := [][]impl.Row{nil}
	for _, at := range orderByHand(c, logs) {
		s = takeByHand(c, s, at.Part, logs[at.Part].Recs[at.Rec])
		tables = append(tables, s.Rows)
	}
	return tables
}

// keepsThePromise asks that the sink is, behind each commit and each coming up, the table of as many records as
// were committed, and that epochs and counts never fall: a commit is one epoch more, a coming up at most one.
func keepsThePromise(t *testing.T, tables [][]impl.Row, acts []impl.Act, replies []impl.Reply) {
	t.Helper()
	epoch, count := 0, 0
	for i, r := range replies {
		tells := r.Code == 0 && (acts[i].Kind == 5 || acts[i].Kind == 7)
		switch {
		case !tells:
			if r.Epoch != 0 || r.Count != 0 || len(r.Rows) > 0 {
				t.Fatalf("act %d of %v: %s", i, acts, briefly(r))
			}
			continue
		case r.Epoch < epoch || r.Epoch > epoch+1 || acts[i].Kind == 5 && r.Epoch == epoch || r.Count < count || r.Epoch == epoch && r.Count != count:
			t.Fatalf("act %d of %v: behind epoch %d of %d records comes %d of %d", i, acts, epoch, count, r.Epoch, r.Count)
		case r.Count >= len(tables) || !sameRows(r.Rows, tables[r.Count]):
			t.Fatalf("act %d of %v: the sink of %d records is not their table: %s", i, acts, r.Count, briefly(r))
		}
		epoch, count = r.Epoch, r.Count
	}
}

// The logs of most courses here: rows that are told, told again, and a record that is no event.
func tideLogs() []impl.Part {
	return []impl.Part{part("e 3 1", "e 12 2", "e 4 5", "?", "e 25 4")}
}

// What these logs make of so many records.
func tideRows(n int) []impl.Row {
	return [][]impl.Row{nil, nil, tolds(0, 1, 1), {told(0, agg(2, 6, 1, 5), 2)}, {told(0, agg(2, 6, 1, 5), 2)}, {told(0, agg(2, 6, 1, 5), 2), told(10, one(2), 1)}}[n]
}

// The texts of a state of so many records, and of the frames that three commits make.
func tideText(n int) string {
	return sealedByHand([]string{
		"part 0 -200000\ndrops 0\nbad 0\n",
		"part 1 3\ndrops 0\nbad 0\npane 0 0 0 0 1 1 1 1\n",
		"part 2 12\ndrops 0\nbad 0\npane 0 0 0 0 1 1 1 1\npane 0 0 10 0 1 2 2 2\nrow 0 0 0 0 1 1 1 1 1\n",
		"part 3 12\ndrops 0\nbad 0\npane 0 0 0 0 2 6 1 5\npane 0 0 10 0 1 2 2 2\nrow 0 0 0 0 2 6 1 5 2\n",
		"part 4 12\ndrops 0\nbad 1\npane 0 0 0 0 2 6 1 5\npane 0 0 10 0 1 2 2 2\nrow 0 0 0 0 2 6 1 5 2\n",
		"part 5 25\ndrops 0\nbad 1\npane 0 0 10 0 1 2 2 2\npane 0 0 20 0 1 4 4 4\nrow 0 0 0 0 2 6 1 5 2\nrow 0 0 10 0 1 2 2 2 1\n",
	}[n])
}

func tideFrame(i int) string {
	return sealedByHand([]string{"frame 1 2 1\nrow 0 0 0 0 1 1 1 1 1\n", "frame 2 3 1\nrow 0 0 0 0 2 6 1 5 2\n", "frame 3 5 1\nrow 0 0 10 0 1 2 2 2 1\n"}[i])
}

// synced is a file all of which is safe.
func synced(name, s string) impl.File { return file(name, s, s) }

func TestLimitsAndCodesOfTheEngine(t *testing.T) {
	got := []int{impl.MaxActs, impl.AcRead, impl.AcSnap, impl.AcSnapSync, impl.AcPush, impl.AcPushSync, impl.AcCrash, impl.AcUp, impl.RpOK, impl.RpDown, impl.RpUp, impl.RpOrder, impl.RpAct, impl.RpFull}
	if !slices.Equal(got, []int{60, 1, 2, 3, 4, 5, 6, 7, 0, 1, 2, 3, 4, 5}) {
		t.Fatal(got)
	}
}

// An engineCourse has acts, the reply to each, and the disk behind them.
type engineCourse struct {
	name    string
	acts    []impl.Act
	replies []impl.Reply
	disk    impl.Disk
	up      bool
}

// replies tells so many that say nothing, and then this one.
func replies(n int, last impl.Reply) []impl.Reply {
	return append(slices.Repeat([]impl.Reply{done()}, n), last)
}

func engineCourses() []engineCourse {
	zero := committed(0, 0)
	first, second, third := committed(1, 2, tideRows(2)...), committed(2, 3, tideRows(3)...), committed(3, 5, tideRows(5)...)
	f1, f2, f3 := tideFrame(0), tideFrame(1), tideFrame(2)
	begun := slices.Concat(up(), committing(2))
	beginning := slices.Concat(replies(0, zero), replies(4, first))
	return []engineCourse{
		{"no acts", nil, nil, disk(), false},
		{"up alone", up(), replies(0, zero), disk(synced("sink", "")), true},
		{"read, snap, its sync, push, its sync, again and again", slices.Concat(up(), committing(2, 1, 2)), slices.Concat(replies(0, zero), replies(4, first), replies(4, second), replies(4, third)),
			disk(synced("ckpt", tideText(5)+f3), synced("sink", f1+f2+f3)), true},
		{"record by record", slices.Concat(up(), reading(1), reading(1), commit(), committing(1), reading(1), reading(1), commit()), slices.Concat(replies(0, zero), replies(5, first), replies(4, second), replies(5, third)),
			disk(synced("ckpt", tideText(5)+f3), synced("sink", f1+f2+f3)), true},
		{"a commit of nothing", slices.Concat(up(), commit()), slices.Concat(replies(0, zero), replies(3, committed(1, 0))),
			disk(synced("ckpt", tideText(0)+sealedByHand("frame 1 0 0\n")), synced("sink", sealedByHand("frame 1 0 0\n"))), true},
		{"nothing read since the last commit", slices.Concat(begun, commit(), commit(), committing(1)), slices.Concat(beginning, replies(3, committed(2, 2, tideRows(2)...)), replies(3, committed(3, 2, tideRows(2)...)), replies(4, committed(4, 3, tideRows(3)...))),
			disk(synced("ckpt", tideText(3)+sealedByHand("frame 4 3 1\nrow 0 0 0 0 2 6 1 5 2\n")), synced("sink", f1+sealedByHand("frame 2 2 0\n")+sealedByHand("frame 3 2 0\n")+sealedByHand("frame 4 3 1\nrow 0 0 0 0 2 6 1 5 2\n"))), true},
		{"records that tell nothing new", slices.Concat(up(), committing(1, 2, 1)), slices.Concat(replies(0, zero), replies(4, committed(1, 1)), replies(4, committed(2, 3, tideRows(3)...)), replies(4, committed(3, 4, tideRows(4)...))),
			disk(synced("ckpt", tideText(4)+sealedByHand("frame 3 4 0\n")), synced("sink", sealedByHand("frame 1 1 0\n")+f2+sealedByHand("frame 3 4 0\n"))), true},
		{"reads behind a snap", slices.Concat(up(), reading(2), kinds(2), reading(1), kinds(3), reading(1), kinds(4), reading(9), kinds(5)), slices.Concat(replies(0, zero), replies(7, first)),
			disk(synced("ckpt", tideText(2)+f1), synced("sink", f1)), true},
		{"what was read behind a snap comes with the next one", slices.Concat(up(), reading(2), kinds(2, 3), reading(1), kinds(4, 5), committing(0, 9)), slices.Concat(replies(0, zero), replies(5, first), replies(4, second), replies(4, third)),
			disk(synced("ckpt", tideText(5)+f3), synced("sink", f1+f2+f3)), true},
		{"a snap that is not synced", slices.Concat(begun, reading(1), kinds(2)), slices.Concat(beginning, replies(1, done())), disk(file("ckpt", tideText(2)+f1, tideText(3)+f2), synced("sink", f1)), true},
		{"a snap that is synced", slices.Concat(begun, reading(1), kinds(2, 3)), slices.Concat(beginning, replies(2, done())), disk(synced("ckpt", tideText(3)+f2), synced("sink", f1)), true},
		{"a push that is not synced", slices.Concat(begun, reading(1), kinds(2, 3, 4)), slices.Concat(beginning, replies(3, done())), disk(synced("ckpt", tideText(3)+f2), file("sink", f1, f1+f2)), true},
		{"a crash while it is down", slices.Concat(crashing(1, 1), crashing(-1, -1), up(), committing(2)), slices.Concat(replies(2, zero), replies(4, first)), disk(synced("ckpt", tideText(2)+f1), synced("sink", f1)), true},
		{"a crash, and down", slices.Concat(begun, reading(1), crashing(9, 9)), slices.Concat(beginning, replies(1, done())), disk(synced("ckpt", tideText(2)+f1), synced("sink", f1)), false},
		{"what was read behind a commit is read again", slices.Concat(begun, reading(1), crashing(0, 0), up(), committing(1)), slices.Concat(beginning, replies(2, first), replies(4, second)),
			disk(synced("ckpt", tideText(3)+f2), synced("sink", f1+f2)), true},
		{"two crashes one behind the other", slices.Concat(begun, reading(1), kinds(2), crashing(1, 0), crashing(0, 0), up()), slices.Concat(beginning, replies(4, second)), disk(synced("ckpt", tideText(3)+f2), synced("sink", f1+f2)), true},
		{"coming up while it is up", slices.Concat(begun, up(), committing(1)), slices.Concat(beginning, replies(0, failed(2)), replies(4, second)), disk(synced("ckpt", tideText(3)+f2), synced("sink", f1+f2)), true},
		{"acts while it is down", slices.Concat(kinds(1, 2, 3, 4, 5), begun, crashing(0, 0), kinds(1, 2, 3, 4, 5)), slices.Concat(slices.Repeat(replies(0, failed(1)), 5), beginning, replies(0, done()), slices.Repeat(replies(0, failed(1)), 5)),
			disk(synced("ckpt", tideText(2)+f1), synced("sink", f1)), false},
		{"acts out of order", slices.Concat(up(), kinds(3, 4, 5, 2, 2, 4, 5, 3, 2, 3, 5, 4, 2, 3, 4, 5, 3)), []impl.Reply{
			zero, failed(3), failed(3), failed(3), done(), failed(3), failed(3), failed(3), done(), failed(3), failed(3), failed(3), done(), failed(3), failed(3), failed(3), committed(1, 0), failed(3),
		}, disk(synced("ckpt", tideText(0)+sealedByHand("frame 1 0 0\n")), synced("sink", sealedByHand("frame 1 0 0\n"))), true},
	}
}

func TestRun(t *testing.T) {
	c, logs := plainConfig(0, 10), tideLogs()
	for _, x := range engineCourses() {
		want := impl.Outcome{Replies: x.replies, Disk: x.disk, Up: x.up}
		if byHand := runByHand(c, logs, x.acts); !sameOutcome(byHand, want) {
			t.Errorf("%s: the test's own says %v, %s", x.name, byHand.Replies, brief(byHand.Disk))
		}
		t.Run(x.name, func(t *testing.T) { runsTo(t, c, logs, x.acts, want) })
	}
}

// Each case begins behind the first commit, one more record being read, and says where the crash leaves the frame under way.
func TestTheFrameUnderWay(t *testing.T) {
	c, logs := plainConfig(0, 10), tideLogs()
	old, now := tideText(2)+tideFrame(0), tideText(3)+tideFrame(1)
	whole := len(tideFrame(1))
	before, behind := committed(1, 2, tideRows(2)...), committed(2, 3, tideRows(3)...)
	for _, x := range []struct {
		steps     []impl.Act
		n, m      int
		ckpt      string
		sink      string
		comesWith impl.Reply
	}{
		// In neither: not snapped yet, or put and not synced.
		{nil, 1, 1, old, "", before},
		{kinds(2), 0, 0, old, "", before},
		{kinds(2), 2, 5, old, "", before},
		{kinds(2), -2, -5, old, "", before},
		{kinds(2), math.MinInt, 0, old, "", before},
		// In the checkpoint alone, which was left whole or is synced.
		{kinds(2), 1, 0, now, "", behind},
		{kinds(2), -1, -1, now, "", behind},
		{kinds(2), math.MaxInt, 7, now, "", behind},
		{kinds(2, 3), 0, 0, now, "", behind},
		{kinds(2, 3), 1, 1, now, "", behind},
		// Pushed and not synced: nothing of it is left, a part, all but a byte, all.
		{kinds(2, 3, 4), 0, 0, now, "", behind},
		{kinds(2, 3, 4), 1, 1, now, tideFrame(1)[:1], behind},
		{kinds(2, 3, 4), 0, 20, now, tideFrame(1)[:20], behind},
		{kinds(2, 3, 4), 5, whole - 1, now, tideFrame(1)[:whole-1], behind},
		{kinds(2, 3, 4), 0, -2, now, tideFrame(1)[:whole-1], behind},
		{kinds(2, 3, 4), 0, whole, now, tideFrame(1), behind},
		{kinds(2, 3, 4), 0, -1, now, tideFrame(1), behind},
		{kinds(2, 3, 4), 0, whole + 1, now, "", behind},
		// In both, for good.
		{kinds(2, 3, 4, 5), 0, 0, now, tideFrame(1), behind},
		{kinds(2, 3, 4, 5), 1, 1, now, tideFrame(1), behind},
	} {
		acts := slices.Concat(up(), committing(2), reading(1), x.steps, crashing(x.n, x.m))
		down := run(t, c, logs, acts)
		isDisk(t, down.Disk, disk(synced("ckpt", x.ckpt), synced("sink", tideFrame(0)+x.sink)))
		if down.Up {
			t.Errorf("it is up behind a crash")
		}
		acts = append(acts, up()...)
		out := run(t, c, logs, acts)
		if got := out.Replies[len(acts)-1]; !sameReply(got, x.comesWith) || !out.Up {
			t.Errorf("behind %v and a crash with %d, %d it comes up with %v; want %v", x.steps, x.n, x.m, got, x.comesWith)
		}
		sink := tideFrame(0)
		if x.comesWith.Epoch == 2 {
			sink += tideFrame(1)
		}
		isDisk(t, out.Disk, disk(synced("ckpt", x.ckpt), synced("sink", sink)))
		// What was lost is read again, and all comes to one end.
		acts = slices.Concat(acts, committing(3-x.comesWith.Count, 2))
		out = run(t, c, logs, acts)
		want := committed(out.Replies[len(acts)-1].Epoch, 5, tideRows(5)...)
		if got := out.Replies[len(acts)-1]; !sameReply(got, want) || got.Epoch != x.comesWith.Epoch+2 {
			t.Errorf("behind %v, a crash with %d, %d and two commits: %v", x.steps, x.n, x.m, got)
		}
	}
}

// The first checkpoint has nothing safe ahead of it, so that a crash may cut it at each byte.
func TestTheFirstCheckpointCutAtEachByte(t *testing.T) {
	c, logs := plainConfig(0, 10), tideLogs()
	text := tideText(2) + tideFrame(0)
	for cut := range len(text) + 1 {
		acts := slices.Concat(up(), reading(2), kinds(2), crashing(cut, 0), up())
		out := run(t, c, logs, acts)
		want, sink := committed(0, 0), ""
		if cut == len(text) {
			want, sink = committed(1, 2, tideRows(2)...), tideFrame(0)
		}
		if got := out.Replies[len(acts)-1]; !sameReply(got, want) {
			t.Fatalf("behind a cut at byte %d it comes up with %v; want %v", cut, got, want)
		}
		isDisk(t, out.Disk, disk(synced("ckpt", text[:cut]), synced("sink", sink)))
		// Without a checkpoint all is read from the first record on; what was left of it gives way to a new one.
		for _, again := range []int{0, 1, 20, -1, -2} {
			more := slices.Concat(acts, reading(2-want.Count), kinds(2), crashing(again, again), up(), committing(1, 9))
			runsTo(t, c, logs, more, runByHand(c, logs, more))
		}
	}
}

func TestACrashAtEachPlaceOfACourse(t *testing.T) {
	c, logs := plainConfig(0, 10), tideLogs()
	tables := tablesByHand(c, logs)
	for n, table := range tables {
		isRows(t, "TableOf", impl.TableOf(c, logs, n), table)
		isRows(t, "the rows written out", tideRows(n), table)
	}
	whole := slices.Concat(up(), reading(2), kinds(2, 3), reading(1), kinds(4, 5), reading(1), commit(), reading(9), commit())
	for i := range len(whole) + 1 {
		for _, n := range []int{0, 1, -1, 40} {
			for m := range len(tideFrame(0)) + 5 {
				acts := slices.Concat(whole[:i], crashing(n, m), up(), reading(1), commit(), reading(9), commit())
				out := run(t, c, logs, acts)
				keepsThePromise(t, tables, acts, out.Replies)
				if last := out.Replies[len(acts)-1]; last.Count != 5 {
					t.Fatalf("behind %v not all is committed: %v", acts, last)
				}
				if m%9 == 0 {
					runsTo(t, c, logs, acts, runByHand(c, logs, acts))
				}
			}
		}
	}
}

func TestTwoCrashesAtEachTwoPlaces(t *testing.T) {
	c, logs := plainConfig(0, 10), tideLogs()
	tables := tablesByHand(c, logs)
	whole := slices.Concat(up(), committing(2, 1))
	for i := range len(whole) + 1 {
		for j := range len(whole) + 1 {
			for cuts := range 4 * 4 {
				pick := []int{0, 1, 25, -1}
				acts := slices.Concat(whole[:i], crashing(cuts/4%2, pick[cuts%4]), whole[:j], crashing(1-cuts/8, pick[cuts/4]), whole)
				if i%2 == 1 {
					acts = slices.Concat(whole[:i], crashing(cuts, -cuts), crashing(cuts, cuts), whole[:j], crashing(cuts/4, cuts), whole)
				}
				out := run(t, c, logs, acts)
				keepsThePromise(t, tables, acts, out.Replies)
				if cuts%5 == 0 {
					runsTo(t, c, logs, acts, runByHand(c, logs, acts))
				}
			}
		}
	}
}

// mixedActs tells as many acts as there may be, most of them such as may come: an engine by hand goes along.
func mixedActs(c impl.Config, logs []impl.Part, seed int) []impl.Act {
	e := handEngineOf(c, logs)
	acts := []impl.Act{}
	cuts, counts := mixed(2*mostActs, seed+1), mixed(mostActs, seed+2)
	for i, n := range mixed(mostActs, seed) {
		pick, count := (n+bound)/64%16, (counts[i]+bound)/64
		a := act(e.phase+2, count%9-1, 0)
		switch {
		case pick == 15:
			a = act(count%11-1, count%7-1, cuts[i])
		case pick >= 13:
			a = act(impl.AcCrash, cuts[i]/97, cuts[mostActs+i]/89)
		case !e.up:
			a = act(impl.AcUp, 0, 0)
		case pick < 4:
			a = act(impl.AcRead, count%9, 0)
		}
		e.do(a)
		acts = append(acts, a)
	}
	return acts
}

func TestCoursesOfAnEngine(t *testing.T) {
	epochs, rows, crashes, faults := 0, 0, 0, 0
	for i, c := range operatorConfigs() {
		for seed, counts := range [][]int{{24}, {9, 12}, {7, 11, 9}} {
			logs := mixedLogs(c, i+5*seed, counts...)
			tables := tablesByHand(c, logs)
			for course := range 3 {
				acts := mixedActs(c, logs, 100*i+10*seed+course)
				want := runByHand(c, logs, acts)
				runsTo(t, c, logs, acts, want)
				keepsThePromise(t, tables, acts, want.Replies)
				for j, r := range want.Replies {
					epochs, rows = max(epochs, r.Epoch), rows+len(r.Rows)
					if acts[j].Kind == impl.AcCrash {
						crashes++
					}
					if r.Code > 0 {
						faults++
					}
				}
			}
		}
	}
	if epochs < 8 || rows < 5000 || crashes < 300 || faults < 300 {
		t.Errorf("the courses are too dull: %d epochs, %d rows, %d crashes, %d faults", epochs, rows, crashes, faults)
	}
}

// The table of so many records is the sink of each course that committed as many, however it came there.
func TestCoursesThatCommittedAsManyHaveTheSameSink(t *testing.T) {
	for i, c := range []impl.Config{plainConfig(0, 10), cubeConfig(), operatorConfigs()[10]} {
		logs := mixedLogs(c, i+1, 10, 8)
		all := countRecs(logs)
		for n := range all + 1 {
			want := impl.TableOf(c, logs, n)
			last := 0
			for _, acts := range [][]impl.Act{
				slices.Concat(up(), committing(n)),
				slices.Concat(up(), committing(n/2, n-n/2)),
				slices.Concat(up(), committing(n/3, 0, n-n/3, 0)),
				slices.Concat(up(), reading(n), kinds(2), crashing(-1, 0), up()),
				slices.Concat(up(), reading(all), crashing(0, 0), up(), committing(n)),
				slices.Concat(up(), committing(n/2), reading(all), kinds(2), crashing(0, 0), up(), reading(n-n/2), kinds(2, 3), reading(all), kinds(4), crashing(0, 9), up()),
			} {
				out := run(t, c, logs, acts)
				got := out.Replies[len(acts)-1]
				if got.Count != n || !sameRows(got.Rows, want) {
					t.Fatalf("the sink of %d records is not their table: %s", n, briefly(got))
				}
				last += got.Epoch
			}
			if last != 1+2+4+1+1+2 {
				t.Fatalf("the epochs of all are %d", last)
			}
		}
	}
}

// phases tells acts that lead to each phase, down at first and down behind a crash.
func phases() map[string][]impl.Act {
	whole := slices.Concat(up(), reading(2), kinds(2, 3, 4))
	return map[string][]impl.Act{"down": nil, "crashed": slices.Concat(whole[:3], crashing(1, 1)), "0": whole[:2], "1": whole[:3], "2": whole[:4], "3": whole}
}

// codesIn tells the codes of the kinds from AcRead on in each phase.
func codesIn(phase string) []int {
	return map[string][]int{
		"down": {1, 1, 1, 1, 1, 0, 0}, "crashed": {1, 1, 1, 1, 1, 0, 0},
		"0": {0, 0, 3, 3, 3, 0, 2}, "1": {0, 3, 0, 3, 3, 0, 2}, "2": {0, 3, 3, 0, 3, 0, 2}, "3": {0, 3, 3, 3, 0, 0, 2},
	}[phase]
}

func TestKindsInEachPhase(t *testing.T) {
	c, logs := plainConfig(0, 10), tideLogs()
	for phase, ahead := range phases() {
		for i, want := range codesIn(phase) {
			acts := append(slices.Clone(ahead), act(i+1, 1, 1))
			out := run(t, c, logs, acts)
			if got := out.Replies[len(ahead)]; got.Code != want {
				t.Errorf("kind %d in phase %s: %v; want %d", i+1, phase, got, want)
			}
			if want > 0 {
				changesNothing(t, ahead, act(i+1, 1, 1), want)
			}
		}
		// There is no such kind, whether it is up or down.
		for _, kind := range append(farNumbers(), 0, 8, 9, -1, -2, -6, -7, 10, 257, 1<<32+1, 1<<32+7) {
			changesNothing(t, ahead, act(kind, 1, 1), impl.RpAct)
		}
	}
}

// changesNothing asks that an act has just this code, and that all goes on as without it.
func changesNothing(t *testing.T, ahead []impl.Act, a impl.Act, code int) {
	t.Helper()
	c, logs := plainConfig(0, 10), tideLogs()
	rest := slices.Concat(kinds(2, 3), reading(1), kinds(4, 5), up(), reading(1), kinds(2, 3, 4, 5), crashing(3, 3), up(), commit())
	want := run(t, c, logs, slices.Concat(ahead, rest))
	want.Replies = slices.Insert(want.Replies, len(ahead), failed(code))
	runsTo(t, c, logs, slices.Concat(ahead, []impl.Act{a}, rest), want)
	at := run(t, c, logs, ahead)
	at.Replies = append(at.Replies, failed(code))
	runsTo(t, c, logs, append(slices.Clone(ahead), a), at)
}

// N and M say something in a read and in a crash alone.
func TestNumbersOfOtherActsSayNothing(t *testing.T) {
	c, logs := plainConfig(0, 10), tideLogs()
	acts := slices.Concat(up(), committing(2), reading(1), commit(), crashing(3, 20), up(), kinds(4, 8, 7), committing(2))
	want := run(t, c, logs, acts)
	for _, n := range append(farNumbers(), 1, -1, 7) {
		for i, a := range acts {
			other := slices.Clone(acts)
			switch a.Kind {
			case impl.AcRead:
				other[i].M = n
			case impl.AcCrash:
				continue
			default:
				other[i].N, other[i].M = n, -n
			}
			runsTo(t, c, logs, other, want)
		}
	}
}

// Each N, below none and above all, in each phase; what is behind it is read on from there.
func TestReadsOfAnyNumber(t *testing.T) {
	c, logs := plainConfig(0, 10), tideLogs()
	for phase := range 4 {
		for _, n := range append(farNumbers(), -2, -1, 0, 1, 2, 3, 4, 5, 6, 7, 24, 72, 73) {
			ahead := slices.Concat(up(), reading(2), commit()[:phase])
			acts := slices.Concat(ahead, reading(n), commit()[phase:])
			if phase > 0 {
				acts = append(acts, commit()...)
			}
			out := run(t, c, logs, acts)
			count := 2 + clamp(n, 3)
			if got := out.Replies[len(ahead)]; !sameReply(got, done()) {
				t.Errorf("a read of %d in phase %d: %v", n, phase, got)
			}
			if got := out.Replies[len(acts)-1]; got.Count != count || !sameRows(got.Rows, tideRows(count)) {
				t.Errorf("behind a read of %d in phase %d: %v; want the table of %d", n, phase, got, count)
			}
			// The frame under way is as it was at the snap.
			if phase > 0 {
				if got := out.Replies[len(ahead)+4-phase]; !sameReply(got, committed(1, 2, tideRows(2)...)) {
					t.Errorf("the frame that was snapped ahead of a read of %d in phase %d: %v", n, phase, got)
				}
			}
			runsTo(t, c, logs, acts, runByHand(c, logs, acts))
		}
	}
}

// The frame under way and the checkpoint stay as they were at the snap, whatever is read behind it, and a crash brings them back.
func TestReadsBehindASnap(t *testing.T) {
	snapped := 0
	for i, c := range operatorConfigs() {
		logs := mixedLogs(c, i+2, 12, 12)
		tables := tablesByHand(c, logs)
		for n := 0; n < len(tables); n += 5 {
			if s, ok := impl.Fold(c, logs, n); !ok || impl.StateText(c, s) == "" {
				continue
			}
			snapped++
			for behind := range 4 {
				steps := slices.Concat(kinds(2), reading(7*min(behind, 1)), kinds(3), reading(7*min(behind/2, 1)), kinds(4), reading(7*min(behind/3, 1)))
				want := committed(1, n, tables[n]...)
				acts := slices.Concat(up(), reading(n), steps, kinds(5))
				out := run(t, c, logs, acts)
				if got := out.Replies[len(acts)-1]; !sameReply(got, want) {
					t.Fatalf("behind %v: %s; want %s", acts, briefly(got), briefly(want))
				}
				for cut := range len(steps) {
					acts = slices.Concat(up(), reading(n), steps[:cut+1], crashing(-1, cut), up())
					out = run(t, c, logs, acts)
					if got := out.Replies[len(acts)-1]; !sameReply(got, want) {
						t.Fatalf("behind %v: %s; want %s", acts, briefly(got), briefly(want))
					}
				}
			}
		}
	}
	if snapped < 50 {
		t.Errorf("only %d states have a text", snapped)
	}
}

func TestMaxActs(t *testing.T) {
	c, logs := plainConfig(0, 10), tideLogs()
	acts := slices.Concat(up(), committing(1, 1, 1, 1, 1, 0, 0, 0, 0, 0, 0))
	acts = append(acts, kinds(2, 3, 4, 5)...)
	if len(acts) != mostActs {
		t.Fatalf("the course has %d acts", len(acts))
	}
	runsTo(t, c, logs, acts, runByHand(c, logs, acts))
	if out := run(t, c, logs, acts); out.Replies[mostActs-1].Epoch != 12 {
		t.Errorf("the last of %d acts: %v", mostActs, out.Replies[mostActs-1])
	}
	runsTo(t, c, logs, kinds(filled(mostActs, 0)...), impl.Outcome{Replies: slices.Repeat([]impl.Reply{failed(4)}, mostActs)})
	for _, list := range [][]impl.Act{append(slices.Clone(acts), act(1, 0, 0)), append(slices.Clone(acts), act(0, 0, 0)), kinds(filled(mostActs+1, 7)...), kinds(filled(mostActs+1, 0)...), kinds(filled(1000, 6)...)} {
		refusesRun(t, c, logs, list)
	}
	// What lies behind the list is no act.
	runsTo(t, c, logs, kinds(filled(mostActs+5, 0)...)[:mostActs], impl.Outcome{Replies: slices.Repeat([]impl.Reply{failed(4)}, mostActs)})
	for _, none := range [][]impl.Act{nil, {}, acts[:0]} {
		runsTo(t, c, logs, none, impl.Outcome{})
	}
}

func TestRunRefusesLogsThatAreNotLogsOk(t *testing.T) {
	acts := slices.Concat(up(), committing(2))
	for _, c := range acceptedConfigs() {
		for _, logs := range refusedLogs() {
			refusesRun(t, c, logs, acts)
			refusesRun(t, c, logs, nil)
		}
		for _, logs := range acceptedLogs() {
			runsTo(t, c, logs, acts, runByHand(c, logs, acts))
			runsTo(t, c, logs, nil, impl.Outcome{})
		}
	}
	for _, c := range refusedConfigs() {
		refusesRun(t, c, tideLogs(), acts)
		refusesRun(t, c, tideLogs(), nil)
		refusesRun(t, c, eventLogs(1, 2, 2), acts)
	}
}

// Parts of no records, and no part that tells anything.
func TestRunOfEmptyParts(t *testing.T) {
	c := plainConfig(0, 10)
	for _, logs := range [][]impl.Part{{{}}, {{}, {}}, {{}, {}, {}}, {part("e 3 1", "e 90 1"), {}}, {{}, part("?", "?"), {}}} {
		for _, acts := range [][]impl.Act{slices.Concat(up(), committing(0, 1, 9)), slices.Concat(up(), reading(5), kinds(2), crashing(-1, 0), up(), committing(5), crashing(0, 0), up())} {
			runsTo(t, c, logs, acts, runByHand(c, logs, acts))
		}
	}
}

// manyRowed has so many windows that each event is in 36 of each mask.
func manyRowed(masks []int, delay, late int) impl.Config {
	return config(3, []impl.Win{win(12, 1), win(24, 2), win(36, 3)}, masks, delay, late)
}

// longLogs tell a state of almost MaxSaved bytes behind 52 records, and one whose length the last record decides.
func longLogs(last string) []impl.Part {
	logs := make([]impl.Part, 3)
	for i := range 52 {
		logs[i%3].Recs = append(logs[i%3].Recs, fmt.Sprintf("e 500 %d %d %d 5", i, i, i))
	}
	logs[1].Recs = append(logs[1].Recs, last)
	return logs
}

// A checkpoint whose state has just MaxSaved bytes is put, one of a byte more is not.
func TestAStateThatIsTooLong(t *testing.T) {
	c := manyRowed([]int{7}, longest, 0)
	for last, bytes := range map[string]int{"e 1018 60 1 1 1": mostSaved - 2, "e 1020 60 1 1 1": mostSaved, "e 1022 60 1 1 1": mostSaved + 1, "e 1030 60 60 60 1": mostSaved + 76} {
		logs := longLogs(last)
		s, ok := impl.Fold(c, logs, 53)
		if got := len(sealedByHand(bodyByHand(s))); !ok || got != bytes {
			t.Fatalf("the state of the logs that end with %q has %d bytes", last, got)
		}
		for _, acts := range [][]impl.Act{slices.Concat(up(), reading(99), commit()), slices.Concat(up(), committing(20), reading(99), commit())} {
			out := run(t, c, logs, acts)
			begun, _ := impl.Run(c, logs, acts[:len(acts)-4])
			end := slices.Clone(out.Replies[len(acts)-4:])
			if bytes > mostSaved {
				// Nothing changes: the phase is as it was, and so is the disk.
				if !slices.EqualFunc(end, []impl.Reply{failed(5), failed(3), failed(3), failed(3)}, sameReply) || !sameDisk(out.Disk, begun.Disk) || !out.Up {
					t.Errorf("a state of %d bytes: %v", bytes, end)
				}
				continue
			}
			if !slices.EqualFunc(end[:3], slices.Repeat([]impl.Reply{done()}, 3), sameReply) || end[3].Count != 53 || len(impl.DiskRead(out.Disk, "ckpt")) < bytes {
				t.Errorf("a state of %d bytes: %v", bytes, end)
			}
		}
	}
}

// In a later phase an act out of order is just that, also where there would be no room.
func TestOrderIsAskedAheadOfRoom(t *testing.T) {
	c := manyRowed([]int{7}, longest, 0)
	logs := longLogs("e 1030 60 60 60 1")
	out := run(t, c, logs, slices.Concat(up(), reading(5), kinds(2), reading(99), kinds(2, 3, 2, 4, 2, 5, 2, 2), crashing(0, 0), kinds(2, 9)))
	want := []impl.Reply{committed(0, 0), done(), done(), done(), failed(3), done(), failed(3), done(), failed(3), committed(1, 5), failed(5), failed(5), done(), failed(1), failed(4)}
	if !slices.EqualFunc(out.Replies, want, sameReply) {
		t.Errorf("the replies are %v; want %v", out.Replies, want)
	}
}

// A state that was too long may be short again, once its panes are gone.
func TestASnapBehindOneThatWasRefused(t *testing.T) {
	c := manyRowed([]int{7}, 0, longest)
	p := part()
	for i := range 22 {
		p.Recs = append(p.Recs, fmt.Sprintf("e %d %d %d %d 1000000", 100+i, i, i, i))
	}
	logs := []impl.Part{part(append(p.Recs, "e 700 1 1 1 1", "e 2000 1 1 1 1")...)}
	long, _ := impl.Fold(c, logs, 23)
	short, _ := impl.Fold(c, logs, 24)
	if impl.StateText(c, long) != "" || impl.StateText(c, short) == "" {
		t.Fatalf("the states have %d and %d bytes", len(bodyByHand(long)), len(bodyByHand(short)))
	}
	acts := slices.Concat(up(), committing(3), reading(20), commit(), committing(1), crashing(1, 1), up())
	out := run(t, c, logs, acts)
	got := out.Replies[6:]
	first, want := committed(1, 3, impl.TableOf(c, logs, 3)...), committed(2, 24, impl.TableOf(c, logs, 24)...)
	if !sameReply(out.Replies[5], first) || !slices.EqualFunc(got, []impl.Reply{done(), failed(5), failed(3), failed(3), failed(3), done(), done(), done(), done(), want, done(), want}, sameReply) {
		for i, r := range out.Replies {
			t.Errorf("reply %d: %s", i, briefly(r))
		}
	}
}

// fullLogs tell records that bring the sink nearly to MaxFile bytes in nine frames, of six and then of four records;
// the last four of them decide how long the tenth is.
func fullLogs(last ...string) []impl.Part {
	recs := []string{}
	for i := range 32 {
		recs = append(recs, fmt.Sprintf("e %d 1 1 1 10000", 500+i%4*40))
	}
	recs = append(recs, last...)
	return []impl.Part{part(append([]string{"e 1000 1 1 1 1"}, recs[:23]...)...), part(append([]string{"e 1000 1 1 1 1"}, recs[23:]...)...)}
}

// Nine commits, and a tenth up to its push.
func fullActs() []impl.Act {
	return slices.Concat(up(), committing(6, 4, 4, 4, 4, 4, 4, 4), reading(4), kinds(2, 3, 4))
}

// A sink may have just MaxFile bytes: a byte more is refused when it is pushed, and when the engine comes up.
func TestASinkThatIsFull(t *testing.T) {
	c := manyRowed([]int{0, 1, 3, 7}, 0, longest)
	for bytes, logs := range map[int][]impl.Part{
		mostFile:     fullLogs("e 500 1 1 1 3000", "e 540 1 1 1 400000", "e 580 1 1 1 5", "e 591 1 1 1 800000"),
		mostFile + 1: fullLogs("e 500 1 1 1 20", "e 540 1 1 1 9000", "e 580 1 1 1 90000", "e 554 1 1 1 100000"),
	} {
		acts := fullActs()
		out := run(t, c, logs, acts)
		ckpt := impl.DiskRead(out.Disk, "ckpt")
		_, f, ok := impl.CkptRead(c, ckpt)
		ahead := impl.DiskRead(run(t, c, logs, acts[:len(acts)-1]).Disk, "sink")
		if !ok || len(ahead)+len(frameByHand(f)) != bytes {
			t.Fatalf("the sink would have %d bytes", len(ahead)+len(frameByHand(f)))
		}
		last := out.Replies[len(acts)-1]
		if bytes <= mostFile {
			if !sameReply(last, done()) || len(impl.DiskRead(out.Disk, "sink")) != bytes {
				t.Errorf("a sink of %d bytes: %v", bytes, last)
			}
			// Also when the frame is added in coming up.
			acts = slices.Concat(acts[:len(acts)-1], crashing(0, 0), up())
			if got := run(t, c, logs, acts).Replies[len(acts)-1]; !sameReply(got, committed(f.Epoch, f.Count, impl.TableOf(c, logs, f.Count)...)) {
				t.Errorf("coming up with a sink of %d bytes: %.300v", bytes, fmt.Sprint(got))
			}
			continue
		}
		if !sameReply(last, failed(5)) || impl.DiskRead(out.Disk, "sink") != ahead {
			t.Errorf("a sink of %d bytes: %v", bytes, last)
		}
		refusesToComeUp(t, c, logs, acts, disk(synced("ckpt", ckpt), synced("sink", ahead)))
	}
}

// refusesToComeUp goes on behind a push that was refused: nothing has changed, and nothing does when it does not come up.
func refusesToComeUp(t *testing.T, c impl.Config, logs []impl.Part, acts []impl.Act, want impl.Disk) {
	t.Helper()
	more := slices.Concat(kinds(5, 2, 3, 4), reading(9), kinds(4), crashing(0, 0), up(), kinds(1, 4, 8), up(), crashing(1, 1), up())
	got := run(t, c, logs, slices.Concat(acts, more))
	replies := []impl.Reply{failed(3), failed(3), failed(3), failed(5), done(), failed(5), done(), failed(5), failed(1), failed(1), failed(4), failed(5), done(), failed(5)}
	if !slices.EqualFunc(got.Replies[len(acts):], replies, sameReply) || got.Up {
		t.Errorf("behind a push that was refused: %v, up: %v", got.Replies[len(acts):], got.Up)
	}
	isDisk(t, got.Disk, want)
}

// keepsCkpt asks for a checkpoint's text by hand, and for the State and the Frame that are read from it.
func keepsCkpt(t *testing.T, c impl.Config, s impl.State, f impl.Frame) {
	t.Helper()
	text := ckptByHand(s, f)
	if got := impl.CkptText(c, s, f); got != text {
		t.Fatalf("CkptText(%v, %.300v, %.300v) = %.900q; want %.900q", c, fmt.Sprint(s), fmt.Sprint(f), got, text)
	}
	if gotState, gotFrame, ok := impl.CkptRead(c, text); !ok || !sameState(gotState, s) || !sameFrame(gotFrame, f) {
		t.Fatalf("CkptRead(%v, %.900q) = %.300v, %.300v, %v", c, text, fmt.Sprint(gotState), fmt.Sprint(gotFrame), ok)
	}
}

func refusesCkpt(t *testing.T, c impl.Config, s string) {
	t.Helper()
	if state, f, ok := impl.CkptRead(c, s); ok || !reflect.ValueOf(state).IsZero() || !reflect.ValueOf(f).IsZero() {
		t.Errorf("CkptRead(%v, %.900q) = %.300v, %.300v, %v; want nothing, false", c, s, fmt.Sprint(state), fmt.Sprint(f), ok)
	}
}

// refusesCkptText asks that the two have no text, and that none is read where it would be.
func refusesCkptText(t *testing.T, c impl.Config, s impl.State, f impl.Frame) {
	t.Helper()
	if got := impl.CkptText(c, s, f); got != "" {
		t.Errorf("CkptText(%v, %.300v, %.300v) = %.300q; want an empty text", c, fmt.Sprint(s), fmt.Sprint(f), got)
	}
	if len(s.Offs) == len(s.Marks) {
		refusesCkpt(t, c, ckptByHand(s, f))
	}
}

func TestCkptText(t *testing.T) {
	c := config(1, []impl.Win{win(10, 10)}, []int{1, 0}, 5, 10)
	s := state(1, -5, []impl.Pane{pane(0, 1, 10, one(4))}, []impl.Row{row(0, 0, 10, one(3), 2, 7)}, 2, 0)
	f := frame(9, 4, row(0, 0, 10, one(3), 2, 7))
	body, head := "part 1 -5\ndrops 2\nbad 0\npane 0 1 10 0 1 4 4 4\nrow 0 0 10 1 7 1 3 3 3 2\n", "frame 9 4 1\nrow 0 0 10 1 7 1 3 3 3 2\n"
	if got := impl.CkptText(c, s, f); got != sealedByHand(body)+sealedByHand(head) {
		t.Errorf("CkptText = %q", got)
	}
	keepsCkpt(t, c, s, f)
}

func TestCheckpointsAreReadAsTheyWere(t *testing.T) {
	c := cubeConfig()
	for _, s := range acceptedStates() {
		keepsCkpt(t, c, s, frame(1, 0))
		keepsCkpt(t, c, s, frame(1000, 72, fewRows()...))
	}
	for _, f := range acceptedFrames() {
		keepsCkpt(t, c, soundState(), f)
		keepsCkpt(t, c, impl.Fresh(c, 2), f)
	}
	for _, c := range acceptedConfigs() {
		for parts := 1; parts <= impl.MaxParts; parts++ {
			keepsCkpt(t, c, impl.Fresh(c, parts), frame(3, 5))
		}
	}
}

func TestCkptTextRefuses(t *testing.T) {
	c := cubeConfig()
	for _, s := range refusedStates() {
		refusesCkptText(t, c, s, frame(1, 0))
		refusesCkptText(t, c, s, frame(5, 7, fewRows()...))
	}
	for _, f := range refusedFrames() {
		refusesCkptText(t, c, soundState(), f)
	}
	refusesCkptText(t, c, impl.State{}, impl.Frame{})
	for _, c := range refusedConfigs() {
		refusesCkptText(t, c, impl.Fresh(c, 1), frame(1, 0))
		refusesCkptText(t, c, soundState(), frame(1, 0, fewRows()...))
	}
	// What is sound with one Config is not with another.
	for _, c := range []impl.Config{{}, plainConfig(0, 0), config(3, nil, []int{5, 7, 4, 0}, 3, 4)} {
		refusesCkptText(t, c, soundState(), frame(1, 0))
		refusesCkptText(t, c, impl.Fresh(c, 2), frame(1, 0, fewRows()...))
	}
}

// Both texts of a checkpoint may have MaxSaved bytes, neither one more.
func TestCheckpointsOfMaxSavedBytes(t *testing.T) {
	c := savedConfig()
	s, f := stateOfBytes(t, mostSaved), frameOfBytes(t, 7, mostSaved)
	small := state(1, 5, nil, nil, 0, 0)
	keepsCkpt(t, c, s, f)
	keepsCkpt(t, c, s, frame(7, 7))
	keepsCkpt(t, c, small, f)
	if got := len(impl.CkptText(c, s, f)); got != 2*mostSaved {
		t.Errorf("a checkpoint has %d bytes", got)
	}
	for _, bytes := range []int{mostSaved + 1, 2 * mostSaved} {
		refusesCkptText(t, c, stateOfBytes(t, bytes), frame(7, 7))
		refusesCkptText(t, c, stateOfBytes(t, bytes), f)
		refusesCkptText(t, c, small, frameOfBytes(t, 7, bytes))
		refusesCkptText(t, c, s, frameOfBytes(t, 7, bytes))
	}
}

func smallCkpt() (impl.State, impl.Frame) {
	return states([]int{3, 7}, []int{-20, noMark}, soundPanes()[:3], rowsOf(soundPanes()[8:10]), 5, 6), frame(4, 10, fewRows()[:2]...)
}

// A byte less at each place, a byte more, each bit turned.
func TestCkptReadTellsEachByteThatIsNotAsItWas(t *testing.T) {
	c := cubeConfig()
	s, f := smallCkpt()
	text := ckptByHand(s, f)
	keepsCkpt(t, c, s, f)
	for i := range text {
		refusesCkpt(t, c, text[:i])
		refusesCkpt(t, c, text[i+1:])
		refusesCkpt(t, c, text[:i]+text[i+1:])
		for _, more := range []string{" ", "\n", "0", "1", "f", "\x00", "\xff"} {
			refusesCkpt(t, c, text[:i]+more+text[i:])
		}
	}
	for _, more := range append(ordinaryTexts()[1:], "sum ", "frame ", "part 1 1\n", frameByHand(f), frameByHand(frame(5, 10)), sealedByHand(bodyByHand(s)), text) {
		refusesCkpt(t, c, text+more)
		refusesCkpt(t, c, more+text)
	}
	for turned := range flips(text, 1) {
		refusesCkpt(t, c, turned)
	}
}

func TestCkptReadRefusesWhatIsNearlyOne(t *testing.T) {
	c := cubeConfig()
	s, f := smallCkpt()
	body, head := bodyByHand(s), strings.TrimSuffix(frameByHand(f), "\n")
	head = head[:1+strings.LastIndex(head, "\n")]
	text, tail := sealedByHand(body), sealedByHand(head)
	if text+tail != ckptByHand(s, f) {
		t.Fatalf("the test's own texts are %q and %q", text, tail)
	}
	for _, near := range []string{
		"", "\n", text, tail, body, head, body + head, text + head, body + tail, tail + text, text + text, tail + tail, text + text + tail, text + tail + tail, tail + text + tail, text + tail + text,
		sealedByHand(body + head), sealedByHand(text + tail), sealedByHand(text) + tail, text + sealedByHand(tail), body + sealedByHand(head+"sum 0\n"), sealedByHand(text+tail) + tail,
		text + "\n" + tail, text + " " + tail, "\n" + text + tail, text + tail + "\n", text[:len(text)-1] + tail, text + tail[:len(tail)-1], text + "Frame" + tail[5:], strings.ToUpper(text + tail),
		strings.Repeat("frame ", 20000), text + strings.Repeat("frame ", 20000), strings.Repeat("frame 4 10 0\n", 9000), strings.Repeat(text, 500), text + strings.Repeat(tail, 500), allBytes(),
		// Sealed as they should be, but not of a state and a frame.
		sealedByHand("") + tail, text + sealedByHand(""), sealedByHand("\n") + tail, text + sealedByHand("frame 4 10 1\n"), text + sealedByHand("frame 0 10 0\n"), text + sealedByHand("frame 1001 10 0\n"), text + sealedByHand("frame 4 73 0\n"), text + sealedByHand("frame 4 -1 0\n"),
		text + sealedByHand("frame 04 10 0\n"), text + sealedByHand("frame 4 10 0\n\n"), text + sealedByHand("frame 4 10\n"), text + sealedByHand("frame\n"), sealedByHand("frame 1 1 0\n") + sealedByHand("frame 2 2 0\n"), sealedByHand(body+"frame 4 10 0\n") + tail,
		sealedByHand("part 0 0\n"+body) + sealedByHand("part 1 1\ndrops 0\nbad 0\n"), sealedByHand("drops 0\nbad 0\n") + tail, sealedByHand("part 25 0\ndrops 0\nbad 0\n") + tail, sealedByHand("part 0 -200000\ndrops 0\nbad 0\nframe 4 10 0\n"),
	} {
		refusesCkpt(t, c, near)
	}
	for _, near := range ordinaryTexts() {
		refusesCkpt(t, c, near)
		refusesCkpt(t, c, near+tail)
		refusesCkpt(t, c, text+near)
	}
	for _, c := range append(refusedConfigs(), impl.Config{}, plainConfig(0, 0)) {
		refusesCkpt(t, c, text+tail)
	}
}

// A text that is nearly a checkpoint's, with the sums of what it is then: what is read is just what the form says.
func TestCkptReadTakesOnlyTexts(t *testing.T) {
	c := cubeConfig()
	const body, head = "part 2 9\ndrops 1\nbad 0\npane 0 3 0 0 1 7 7 7\n", "frame 1 2 1\nrow 0 3 10 0 1 7 7 7 10\n"
	near := []string{sealedByHand(body) + sealedByHand(head)}
	for _, s := range nearTexts(body, "0127 -fr\n") {
		near = append(near, sealedByHand(s)+sealedByHand(head))
	}
	for _, s := range nearTexts(head, "0127 -fr\n") {
		near = append(near, sealedByHand(body)+sealedByHand(s))
	}
	taken := 0
	for _, s := range near {
		state, f, want := ckptByForm(c, s)
		if !want {
			refusesCkpt(t, c, s)
			continue
		}
		taken++
		if gotState, gotFrame, ok := impl.CkptRead(c, s); !ok || !sameState(gotState, state) || !sameFrame(gotFrame, f) {
			t.Errorf("CkptRead(%q) = %v, %v, %v; want %v, %v", s, gotState, gotFrame, ok, state, f)
		}
	}
	if taken < 50 || len(near)-taken < 500 {
		t.Errorf("%d of %d near texts are those of checkpoints", taken, len(near))
	}
}

// recovers asks for all that a disk says; s and f are nothing where there is no checkpoint.
func recovers(t *testing.T, c impl.Config, d impl.Disk, frames []impl.Frame, s impl.State, f impl.Frame, have bool) {
	t.Helper()
	gotFrames, gotState, gotFrame, ok := impl.Recovered(c, d)
	if ok != have || !sameFrames(gotFrames, frames) || !sameState(gotState, s) || !sameFrame(gotFrame, f) {
		t.Errorf("Recovered(%s) = %.300v, %.300v, %.300v, %v", brief(d), fmt.Sprint(gotFrames), fmt.Sprint(gotState), fmt.Sprint(gotFrame), ok)
	}
	if !have && (!reflect.ValueOf(gotState).IsZero() || !reflect.ValueOf(gotFrame).IsZero()) {
		t.Errorf("Recovered(%s) without a checkpoint = %v, %v", brief(d), gotState, gotFrame)
	}
}

func TestRecovered(t *testing.T) {
	c := cubeConfig()
	s, f := smallCkpt()
	none, no := impl.State{}, impl.Frame{}
	list, ckpt := manyFrames(), ckptByHand(s, f)
	sink := journalByHand(list)
	recovers(t, c, impl.Disk{}, nil, none, no, false)
	recovers(t, c, disk(file("ckpt", "", "")), nil, none, no, false)
	recovers(t, c, disk(file("ckpt", "", ""), file("sink", "", "")), nil, none, no, false)
	recovers(t, c, disk(synced("sink", sink)), list, none, no, false)
	recovers(t, c, disk(synced("ckpt", ckpt)), nil, s, f, true)
	recovers(t, c, disk(synced("ckpt", ckpt), synced("sink", sink)), list, s, f, true)
	recovers(t, c, disk(synced("a", "x"), synced("ckpt", ckpt), synced("other", "y"), synced("sink", sink)), list, s, f, true)
	// What is there now counts, not what is safe.
	recovers(t, c, disk(file("ckpt", "", ckpt), file("sink", "", sink)), list, s, f, true)
	recovers(t, c, disk(file("ckpt", ckpt, ""), file("sink", sink, "")), nil, none, no, false)
	recovers(t, c, disk(file("ckpt", "old", ckpt), file("sink", sink, journalByHand(list[:2]))), list[:2], s, f, true)
	// Files of other names.
	recovers(t, c, disk(synced("Ckpt", ckpt), synced("Sink", sink), synced("ckpt ", ckpt), synced("sink\x00", sink)), nil, none, no, false)
	recovers(t, c, disk(synced("ckp", ckpt), synced("ckpts", ckpt), synced("sin", sink), synced("sinks", sink)), nil, none, no, false)
	recovers(t, c, disk(synced("ckpt", sink), synced("sink", ckpt)), nil, none, no, false)
	// A torn sink, a torn checkpoint.
	recovers(t, c, disk(synced("ckpt", ckpt), synced("sink", sink[:len(sink)-1])), list[:4], s, f, true)
	recovers(t, c, disk(synced("ckpt", ckpt), synced("sink", "x"+sink)), nil, s, f, true)
	recovers(t, c, disk(synced("ckpt", ckpt[:len(ckpt)-1]), synced("sink", sink)), list, none, no, false)
	recovers(t, c, disk(synced("ckpt", sealedByHand(bodyByHand(s))), synced("sink", sink+"x")), list, none, no, false)
	// Nothing is asked of the checkpoint's frame beside the others.
	for _, other := range []impl.Frame{frame(1, 0), frame(5, 72), frame(6, 3), frame(7, 72, fewRows()...), frame(1000, 0)} {
		recovers(t, c, disk(synced("ckpt", ckptByHand(s, other)), synced("sink", sink)), list, s, other, true)
		recovers(t, c, disk(synced("ckpt", ckptByHand(s, other))), nil, s, other, true)
	}
	for _, bad := range refusedConfigs() {
		recovers(t, bad, disk(synced("ckpt", ckpt), synced("sink", sink)), nil, none, no, false)
	}
}

func TestRecoveredOfADiskThatIsNotDiskOk(t *testing.T) {
	c := cubeConfig()
	s, f := smallCkpt()
	ckpt, sink := synced("ckpt", ckptByHand(s, f)), synced("sink", journalByHand(manyFrames()))
	long := strings.Repeat("x", mostFile+1)
	for _, d := range append(refusedDisks(), disk(sink, ckpt), disk(ckpt, ckpt, sink), disk(ckpt, sink, sink), disk(ckpt, sink, file("z", long, "")), disk(ckpt, sink, file("z", "", long)), disk(file("", "", ""), ckpt, sink), disk(file("a", "", ""), file("b", "", ""), ckpt, file("d", "", ""), sink),
		disk(file("ckpt", long, ckpt.Now), sink), disk(ckpt, file("sink", long, sink.Now)), disk(ckpt, sink, file("t", "", ""), file(strings.Repeat("u", 21), "", ""))) {
		recovers(t, c, d, nil, impl.State{}, impl.Frame{}, false)
	}
}

// At each place of a course the disk says what was put on it.
func TestRecoveredOfTheDisksOfACourse(t *testing.T) {
	for i, c := range []impl.Config{plainConfig(0, 10), cubeConfig()} {
		logs := mixedLogs(c, i+4, 9, 9)
		whole := slices.Concat(up(), committing(5, 4), reading(9), kinds(2), crashing(1, 1), up(), committing(9))
		for n := range len(whole) + 1 {
			d := run(t, c, logs, whole[:n]).Disk
			frames, _ := journalByForm(c, impl.DiskRead(d, "sink"))
			s, f, have := ckptByForm(c, impl.DiskRead(d, "ckpt"))
			recovers(t, c, d, frames, s, f, have)
			if folded, ok := impl.Fold(c, logs, f.Count); have && (!ok || !sameState(folded, s)) {
				t.Errorf("the checkpoint behind %d acts is not the state of %d records", n, f.Count)
			}
		}
	}
}

// roomyLogs are tideLogs and a list of acts, with spare room behind each list.
func roomyLogs() ([]impl.Part, []impl.Act, []any) {
	recs := append(tideLogs()[0].Recs, "e 900 9", "e 901 9")
	parts := []impl.Part{part(recs[:5]...), part("e 1 1")}
	parts[0].Recs = recs[:5]
	acts := slices.Concat(up(), committing(2, 1), reading(1), kinds(2, 3, 4), crashing(1, 20), up(), committing(9), kinds(0, 9))
	return parts[:1], acts[:len(acts)-2], []any{recs, parts, acts}
}

func TestTheEngineLeavesItsArguments(t *testing.T) {
	c := plainConfig(0, 10)
	room := append(c.Wins, win(77, 77))
	c.Wins = room[:1]
	logs, acts, behind := roomyLogs()
	before := fmt.Sprint(behind, room)
	runsTo(t, c, logs, acts, runByHand(plainConfig(0, 10), tideLogs(), slices.Clone(acts)))
	refusesRun(t, c, logs[:0], acts)
	if fmt.Sprint(behind, room) != before || !reflect.DeepEqual(c, plainConfig(0, 10)) {
		t.Errorf("Run writes into its arguments: %v", behind)
	}
	s, stateBehind := roomyState()
	rows, rowsBehind := roomyRows(fewRows())
	f := impl.Frame{Epoch: 4, Count: 10, Rows: rows}
	before = fmt.Sprint(stateBehind, rowsBehind)
	if got := impl.CkptText(cubeConfig(), s, f); got != ckptByHand(soundState(), frame(4, 10, fewRows()...)) {
		t.Errorf("CkptText reads what lies behind a list: %q", got)
	}
	d := disk(synced("ckpt", ckptByHand(s, f)), synced("sink", journalByHand(manyFrames())), file("z", "", ""))
	recovers(t, cubeConfig(), disk(d.Files[:2]...), manyFrames(), soundState(), frame(4, 10, fewRows()...), true)
	recovers(t, cubeConfig(), impl.Disk{Files: d.Files[:1]}, nil, soundState(), frame(4, 10, fewRows()...), true)
	if fmt.Sprint(stateBehind, rowsBehind) != before || !sameState(s, soundState()) || len(d.Files) != 3 || d.Files[2].Name != "z" {
		t.Errorf("the engine writes into its arguments: %v", s)
	}
}

// scribbleFrames writes over all that frames hold, and into the room behind each list.
func scribbleFrames(list []impl.Frame) {
	for i := range list {
		scribbleRows(list[i].Rows)
		list[i] = frame(99, 99)
	}
	_ = append(list, frame(98, 98))
}

func TestRepliesAreNewMemory(t *testing.T) {
	c := cubeConfig()
	logs := mixedLogs(c, 8, 12, 12)
	acts := slices.Concat(up(), committing(15, 5), reading(9), kinds(2, 3, 4), crashing(1, 30), up(), commit(), crashing(0, 0), up())
	want := run(t, c, logs, acts)
	want.Replies, want.Disk = copyReplies(want.Replies), copyDisk(want.Disk)
	first := run(t, c, logs, acts)
	for i := range first.Replies {
		before := copyReplies(first.Replies)
		scribbleRows(first.Replies[i].Rows)
		for j := range first.Replies {
			if j != i && !sameReply(first.Replies[j], before[j]) {
				t.Fatalf("the replies %d and %d share memory", i, j)
			}
		}
	}
	_, _ = append(first.Replies, failed(9)), append(first.Disk.Files, file("z", "z", "z"))
	for i := range first.Disk.Files {
		first.Disk.Files[i] = file("scribble", "over", "it")
	}
	runsTo(t, c, logs, acts, want)
	lists, told := []impl.Pane{}, 0
	for _, r := range run(t, c, logs, acts).Replies {
		for _, x := range r.Rows {
			lists, told = append(lists, paneOf(x)), told+1
		}
	}
	keysApart(t, lists)
	if told < 100 {
		t.Errorf("the course is too dull: %d rows", told)
	}
}

func TestCheckpointsReadAreNewMemory(t *testing.T) {
	c := cubeConfig()
	s, f := soundState(), frame(4, 10, fewRows()...)
	d := disk(synced("ckpt", ckptByHand(s, f)), synced("sink", journalByHand(manyFrames())))
	read := func() ([]impl.Frame, impl.State, impl.Frame) {
		frames, gotState, gotFrame, _ := impl.Recovered(c, d)
		return frames, gotState, gotFrame
	}
	frames, gotState, gotFrame := read()
	scribble(gotState)
	scribbleFrames([]impl.Frame{gotFrame})
	if !sameFrames(frames, manyFrames()) {
		t.Error("the frames share memory with the checkpoint")
	}
	scribbleFrames(frames)
	recovers(t, c, d, manyFrames(), soundState(), frame(4, 10, fewRows()...), true)
	frames, gotState, gotFrame = read()
	lists := append(slices.Clone(gotState.Panes), impl.Pane{Key: gotState.Offs}, impl.Pane{Key: gotState.Marks})
	for _, x := range append(frames, gotFrame, impl.Frame{Rows: gotState.Rows}) {
		for _, r := range x.Rows {
			lists = append(lists, paneOf(r))
		}
	}
	keysApart(t, lists)
	gotState, gotFrame, ok := impl.CkptRead(c, impl.DiskRead(d, "ckpt"))
	scribble(gotState)
	if !ok || !sameFrame(gotFrame, f) {
		t.Error("the frame of a checkpoint shares memory with its state")
	}
	keepsCkpt(t, c, s, f)
}

// Whatever goes on at once, each course is as it is alone; behind it nothing of it goes on.
func TestCoursesAtOnce(t *testing.T) {
	c := cubeConfig()
	logs := mixedLogs(c, 3, 12, 12, 12)
	ahead := runtime.NumGoroutine()
	acts := slices.Concat(up(), committing(9, 9), reading(0), reading(-1), reading(50), kinds(2), crashing(0, 0), up(), reading(1), crashing(0, 0), up(), committing(99))
	want := run(t, c, logs, acts)
	var all sync.WaitGroup
	for caller := range 8 {
		all.Go(func() {
			for range 5 {
				if got, ok := impl.Run(c, logs, acts); !ok || !sameOutcome(got, want) {
					t.Errorf("caller %d has another outcome", caller)
				}
			}
		})
	}
	all.Wait()
	// One that has told its end may still be there for a moment.
	for wait := 0; runtime.NumGoroutine() > ahead; wait++ {
		if wait == 1000 {
			t.Fatalf("%d goroutines go on", runtime.NumGoroutine()-ahead)
		}
		time.Sleep(time.Millisecond)
	}
}
