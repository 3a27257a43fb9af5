package tests

import (
	"fmt"
	"math"
	"reflect"
	"regexp"
	"slices"
	"strings"
	"testing"

	"loop.example/g00552/impl"
)

const mostJob = impl.MaxJob

func job(c impl.Config, logs []impl.Part, acts ...impl.Act) impl.Job {
	return impl.Job{C: c, Logs: logs, Acts: acts}
}

func sameConfig(a, b impl.Config) bool {
	return a.Dims == b.Dims && slices.Equal(a.Wins, b.Wins) && slices.Equal(a.Masks, b.Masks) && a.Delay == b.Delay && a.Late == b.Late
}

func sameLogs(a, b []impl.Part) bool {
	return slices.EqualFunc(a, b, func(p, q impl.Part) bool { return slices.Equal(p.Recs, q.Recs) })
}

func sameJob(a, b impl.Job) bool {
	return sameConfig(a.C, b.C) && sameLogs(a.Logs, b.Logs) && slices.Equal(a.Acts, b.Acts)
}

// jobByHand tells the lines of a job, also of one that has no text.
func jobByHand(j impl.Job) string {
	lines := []string{wordsBy("config", j.C.Dims, j.C.Delay, j.C.Late)}
	for _, w := range j.C.Wins {
		lines = append(lines, wordsBy("win", w.Size, w.Slide))
	}
	for _, mask := range j.C.Masks {
		lines = append(lines, wordsBy("mask", mask))
	}
	for _, p := range j.Logs {
		lines = append(lines, "part")
		for _, rec := range p.Recs {
			lines = append(lines, ":"+rec)
		}
	}
	for _, a := range j.Acts {
		lines = append(lines, wordsBy("act", a.Kind, a.N, a.M))
	}
	return textOf(lines...)
}

// textOf tells lines, each of them ended.
func textOf(lines ...string) string {
	text := ""
	for _, line := range lines {
		text += line + "\n"
	}
	return text
}

// courseByHand tells what a course says.
func courseByHand(out impl.Outcome) string {
	lines := []string{}
	for _, r := range out.Replies {
		lines = append(lines, fmt.Sprintf("%d %d %d %d\n", r.Code, r.Epoch, r.Count, len(r.Rows)))
		for _, x := range r.Rows {
			lines = append(lines, rowByHand(x)+"\n")
		}
	}
	return strings.Join(lines, "") + map[bool]string{true: "up\n", false: "down\n"}[out.Up]
}

// The form of each kind of lines with its end, a letter for each kind.
var lineForms = map[string]*regexp.Regexp{
	"c": regexp.MustCompile(`\Aconfig ` + numForm + ` ` + numForm + ` ` + numForm + `\n\z`),
	"w": regexp.MustCompile(`\Awin ` + numForm + ` ` + numForm + `\n\z`),
	"m": regexp.MustCompile(`\Amask ` + numForm + `\n\z`),
	"p": regexp.MustCompile(`\Apart\n\z`),
	"r": regexp.MustCompile(`\A:[^\n]*\n\z`),
	"a": regexp.MustCompile(`\Aact ` + numForm + ` ` + numForm + ` ` + numForm + `\n\z`),
}

// The order of lines by their letters. What begins with a word that is not of this form is of no such form, either.
var orderForm = regexp.MustCompile(`\Acw*m*(pr*)*a{0,60}\z`)

// letterByForm tells the letter of a line and its numbers, `?` of one that has no form.
func letterByForm(line string) (string, []int) {
	for letter, form := range lineForms {
		switch {
		case !form.MatchString(line):
			continue
		case letter == "p" || letter == "r":
			return letter, nil
		}
		if nums, ok := numsByHand(strings.TrimSuffix(line, "\n")); ok {
			return letter, nums
		}
	}
	return "?", nil
}

// readJobByForm reads a text without what reads it in the program.
func readJobByForm(s string) (impl.Job, int, int) {
	if len(s) > 8000 {
		return impl.Job{}, 0, 1
	}
	lines := strings.SplitAfter(s, "\n")
	if len(lines) > 1 && lines[len(lines)-1] == "" {
		lines = lines[:len(lines)-1]
	}
	j, letters := impl.Job{}, ""
	for i, line := range lines {
		letter, nums := letterByForm(line)
		if letters += letter; !orderForm.MatchString(letters) {
			return impl.Job{}, i + 1, 2
		}
		switch letter {
		case "c":
			j.C = config(nums[0], nil, nil, nums[1], nums[2])
		case "w":
			j.C.Wins = append(j.C.Wins, win(nums[0], nums[1]))
		case "m":
			j.C.Masks = append(j.C.Masks, nums[0])
		case "p":
			j.Logs = append(j.Logs, part())
		case "r":
			last := &j.Logs[len(j.Logs)-1]
			last.Recs = append(last.Recs, strings.TrimSuffix(line[1:], "\n"))
		case "a":
			j.Acts = append(j.Acts, act(nums[0], nums[1], nums[2]))
		}
	}
	switch {
	case !impl.ConfigOk(j.C):
		return impl.Job{}, 0, 3
	case !impl.LogsOk(j.C, j.Logs):
		return impl.Job{}, 0, 4
	}
	return j, 0, 0
}

func readsJob(t *testing.T, s string, want impl.Job) {
	t.Helper()
	if got, line, code := impl.JobRead(s); code != 0 || line != 0 || !sameJob(got, want) {
		t.Errorf("JobRead(%.300q) = %.300v, %d, %d; want %.300v, 0, 0", s, fmt.Sprint(got), line, code, fmt.Sprint(want))
	}
}

// refusesJob asks for a line and a code, and that JobRun says both.
func refusesJob(t *testing.T, s string, line, code int) {
	t.Helper()
	if got, n, bad := impl.JobRead(s); n != line || bad != code || !reflect.ValueOf(got).IsZero() {
		t.Errorf("JobRead(%.300q) = %.300v, %d, %d; want nothing, %d, %d", s, fmt.Sprint(got), n, bad, line, code)
	}
	if got, want := impl.JobRun(s), fmt.Sprintf("job %d %d\n", line, code); got != want {
		t.Errorf("JobRun(%.300q) = %.300q; want %q", s, got, want)
	}
}

func hasNoText(t *testing.T, j impl.Job) {
	t.Helper()
	if got := impl.JobText(j); got != "" {
		t.Errorf("JobText(%.300v) = %.300q; want an empty text", fmt.Sprint(j), got)
	}
}

// keepsJob asks that a sound job is read from its text as it was; it says false of one that is too long for a text.
func keepsJob(t *testing.T, j impl.Job) bool {
	t.Helper()
	text := jobByHand(j)
	if len(text) > mostJob {
		hasNoText(t, j)
		refusesJob(t, text, 0, impl.JbLong)
		return false
	}
	if got := impl.JobText(j); got != text {
		t.Errorf("JobText(%.300v) = %.300q; want %.300q", fmt.Sprint(j), got, text)
	}
	readsJob(t, text, j)
	return true
}

// isReadAsByForm holds JobRead against the tests' own, and tells the code.
func isReadAsByForm(t *testing.T, s string) int {
	t.Helper()
	want, line, code := readJobByForm(s)
	got, n, bad := impl.JobRead(s)
	if n != line || bad != code || !sameJob(got, want) {
		t.Fatalf("JobRead(%.300q) = %.300v, %d, %d; want %.300v, %d, %d", s, fmt.Sprint(got), n, bad, fmt.Sprint(want), line, code)
	}
	if code == 0 && impl.JobText(got) != s {
		t.Fatalf("the text of JobRead(%.300q) is %.300q", s, impl.JobText(got))
	}
	return code
}

// onLines tells the logs with `_` for each byte that ends a line.
func onLines(logs []impl.Part) []impl.Part {
	list := []impl.Part{}
	for _, p := range logs {
		recs := []string{}
		for _, rec := range p.Recs {
			recs = append(recs, strings.ReplaceAll(rec, "\n", "_"))
		}
		list = append(list, impl.Part{Recs: recs})
	}
	return list
}

// sound tells the lines of a job with several lines of each kind.
func sound() []string {
	return []string{"config 2 5 10", "win 20 10", "win 10 10", "mask 3", "mask 0", "part", ":e 3 1 2 4", ":?", "part", "part", ":", "act 7 0 0", "act 1 -2 3"}
}

func soundJob() impl.Job {
	c := config(2, []impl.Win{win(20, 10), win(10, 10)}, []int{3, 0}, 5, 10)
	return job(c, []impl.Part{part("e 3 1 2 4", "?"), {}, part("")}, act(7, 0, 0), act(1, -2, 3))
}

// with tells lines with another one put in at a place.
func with(lines []string, at int, line string) []string {
	return slices.Insert(slices.Clone(lines), at, line)
}

// farthest is the act whose line is the longest.
func farthest() []impl.Act { return []impl.Act{act(math.MinInt, math.MinInt, math.MinInt)} }

// tideJob tells the text of a job with tideLogs.
func tideJob(acts ...impl.Act) string {
	return jobByHand(job(plainConfig(0, 10), tideLogs(), acts...))
}

func TestLimitsAndCodesOfJobs(t *testing.T) {
	if got := []int{mostJob, impl.JbOK, impl.JbLong, impl.JbForm, impl.JbConfig, impl.JbLogs}; !slices.Equal(got, []int{8000, 0, 1, 2, 3, 4}) {
		t.Fatal(got)
	}
}

func jobCases() []struct {
	j    impl.Job
	text string
} {
	return []struct {
		j    impl.Job
		text string
	}{
		{soundJob(), textOf(sound()...)},
		{job(impl.Config{}, []impl.Part{{}}), "config 0 0 0\npart\n"},
		{job(config(0, []impl.Win{}, []int{}, 0, 0), []impl.Part{part()}, []impl.Act{}...), "config 0 0 0\npart\n"},
		{job(impl.Config{}, make([]impl.Part, 3)), "config 0 0 0\npart\npart\npart\n"},
		{job(config(3, nil, nil, 1000, 999), []impl.Part{part("x")}), "config 3 1000 999\npart\n:x\n"},
		{job(config(1, []impl.Win{win(20000, 10000)}, nil, 1, 0), []impl.Part{{}}), "config 1 1 0\nwin 20000 10000\npart\n"},
		{job(config(1, nil, []int{1, 0}, 0, 1), []impl.Part{{}}), "config 1 0 1\nmask 1\nmask 0\npart\n"},
		{job(config(3, []impl.Win{win(1, 1), win(12, 1), win(3, 1)}, []int{7, 5, 0, 6}, 0, 0), []impl.Part{{}, part("a"), {}}, act(1, 2, 3)),
			"config 3 0 0\nwin 1 1\nwin 12 1\nwin 3 1\nmask 7\nmask 5\nmask 0\nmask 6\npart\npart\n:a\npart\nact 1 2 3\n"},
		// Records of any bytes, such as look like other lines among them.
		{job(impl.Config{}, []impl.Part{part("", ":", "::", " ", "  x ", " :", "e 1 1", "e 1 1 ")}), "config 0 0 0\npart\n:\n::\n:::\n: \n:  x \n: :\n:e 1 1\n:e 1 1 \n"},
		{job(impl.Config{}, []impl.Part{part("part", "act 1 2 3"), part("config 0 0 0", ":part", "win 1 1", "mask 0")}), "config 0 0 0\npart\n:part\n:act 1 2 3\npart\n:config 0 0 0\n::part\n:win 1 1\n:mask 0\n"},
		{job(impl.Config{}, []impl.Part{part("\r", "\x00", "\xff\xfe", "é€", "\t\v\f", "\u2028", "\x85")}), "config 0 0 0\npart\n:\r\n:\x00\n:\xff\xfe\n:é€\n:\t\v\f\n:\u2028\n:\x85\n"},
		// Acts of any numbers, also of a Kind that there is none of.
		{job(impl.Config{}, []impl.Part{{}}, act(0, 0, 0), act(8, 1, -1), act(-1, math.MinInt, math.MaxInt), act(math.MaxInt, -10, 100), act(math.MinInt, 0, -100)),
			"config 0 0 0\npart\nact 0 0 0\nact 8 1 -1\nact -1 -9223372036854775808 9223372036854775807\nact 9223372036854775807 -10 100\nact -9223372036854775808 0 -100\n"},
	}
}

func TestJobTextAndJobRead(t *testing.T) {
	for _, x := range jobCases() {
		if got := impl.JobText(x.j); got != x.text {
			t.Errorf("JobText(%v) = %q; want %q", x.j, got, x.text)
		}
		if got := jobByHand(x.j); got != x.text {
			t.Errorf("the test's own of %v is %q", x.j, got)
		}
		readsJob(t, x.text, x.j)
		if got, line, code := readJobByForm(x.text); line != 0 || code != 0 || !sameJob(got, x.j) {
			t.Errorf("the test's own of %q is %v, %d, %d", x.text, got, line, code)
		}
	}
}

func TestJobsAreReadAsTheyWere(t *testing.T) {
	far := []impl.Act{}
	for i, n := range farNumbers() {
		far = append(far, act(n, i, -i), act(i, n, 0), act(-i, 0, n))
	}
	kept, long := 0, 0
	for _, c := range acceptedConfigs() {
		for _, logs := range acceptedLogs() {
			for _, acts := range [][]impl.Act{nil, up(), committing(1, 2, 3), far, slices.Repeat(far, 2), kinds(filled(mostActs, 9)...), slices.Repeat(far[:1], mostActs), slices.Repeat(farthest(), mostActs)} {
				if keepsJob(t, job(c, onLines(logs), acts...)) {
					kept++
				} else {
					long++
				}
			}
		}
	}
	if kept < 300 || long < 10 {
		t.Errorf("the jobs are too dull: %d have a text, %d are too long", kept, long)
	}
}

func TestMixedJobsAreReadAsTheyWere(t *testing.T) {
	for i, c := range operatorConfigs() {
		for seed, counts := range [][]int{{0}, {impl.MaxRecs}, {5, 0}, {7, 11}, {3, 9, 4}, filled(3, impl.MaxRecs)} {
			logs := onLines(mixedLogs(c, i+5*seed, counts...))
			j := job(c, logs, mixedActs(c, logs, 9*i+seed)...)
			if !keepsJob(t, j) || isReadAsByForm(t, jobByHand(j)) != 0 {
				t.Errorf("the job of %v with parts of %v has no text", c, counts)
			}
		}
	}
}

// Any byte but the one that ends a line may stand anywhere in a record.
func TestRecordsOfAnyByte(t *testing.T) {
	bytes := allBytes()
	for i := range len(bytes) {
		b := bytes[i : i+1]
		logs := []impl.Part{part(b, b+"x", "x"+b, "x"+b+"x", b+b), part(strings.Repeat(b, impl.MaxRec))}
		if b == "\n" {
			hasNoText(t, job(impl.Config{}, logs))
			continue
		}
		keepsJob(t, job(impl.Config{}, logs, up()...))
	}
}

func TestJobTextRefuses(t *testing.T) {
	c, logs := plainConfig(0, 10), tideLogs()
	keepsJob(t, job(c, logs, kinds(filled(mostActs, 1)...)...))
	for _, n := range []int{mostActs + 1, mostActs + 2, 1000} {
		hasNoText(t, job(c, logs, kinds(filled(n, 1)...)...))
	}
	for _, bad := range refusedConfigs() {
		hasNoText(t, job(bad, logs))
		hasNoText(t, job(bad, logs, up()...))
		hasNoText(t, job(bad, nil))
	}
	for _, good := range acceptedConfigs() {
		for _, bad := range refusedLogs() {
			hasNoText(t, job(good, bad))
			hasNoText(t, job(good, bad, up()...))
		}
	}
	for _, rec := range []string{"\n", "x\n", "\nx", "x\ny", "\n\n", "e 3 1\n", "x\npart", "\r\n", strings.Repeat("x", impl.MaxRec-1) + "\n"} {
		for _, bad := range [][]impl.Part{{part(rec)}, {part(rec, "x", "y")}, {part("x", rec, "y")}, {part("x", "y", rec)}, {part("x"), part(rec)}, {part("x"), {}, part("y", rec)}, {part(rec), part("x")}} {
			hasNoText(t, job(c, bad))
			hasNoText(t, job(c, bad, up()...))
			keepsJob(t, job(c, onLines(bad)))
		}
	}
	hasNoText(t, impl.Job{})
}

// jobOfBytes tells a job whose text has just so many bytes: the last record is as long as that needs.
func jobOfBytes(t *testing.T, bytes int) impl.Job {
	t.Helper()
	j := job(impl.Config{}, logs(impl.MaxRec, impl.MaxRecs, impl.MaxRecs, impl.MaxRecs), slices.Repeat(farthest(), 53)...)
	last := &j.Logs[2].Recs[impl.MaxRecs-1]
	*last = (*last)[:impl.MaxRec-len(jobByHand(j))+bytes]
	if got := len(jobByHand(j)); got != bytes {
		t.Fatalf("the text has %d bytes; want %d", got, bytes)
	}
	return j
}

func TestJobsOfMaxJobBytes(t *testing.T) {
	for _, bytes := range []int{mostJob - 1, mostJob} {
		j := jobOfBytes(t, bytes)
		if !keepsJob(t, j) {
			t.Errorf("the job of %d bytes has no text", bytes)
		}
		if got, want := impl.JobRun(jobByHand(j)), strings.Repeat("4 0 0 0\n", 53)+"down\n"; got != want {
			t.Errorf("JobRun of %d bytes = %.300q", bytes, got)
		}
	}
	for _, bytes := range []int{mostJob + 1, mostJob + 2} {
		if keepsJob(t, jobOfBytes(t, bytes)) {
			t.Errorf("the job of %d bytes has a text", bytes)
		}
	}
}

// Whatever a text has, it is too long ahead of all else.
func TestTextsThatAreTooLong(t *testing.T) {
	sound := jobByHand(jobOfBytes(t, mostJob))
	for _, x := range []struct {
		s          string
		line, code int
	}{
		{strings.Repeat("x", mostJob), 1, impl.JbForm}, {strings.Repeat("x", mostJob+1), 0, impl.JbLong},
		{strings.Repeat("\n", mostJob), 1, impl.JbForm}, {strings.Repeat("\n", mostJob+1), 0, impl.JbLong},
		{strings.Repeat(" ", mostJob), 1, impl.JbForm}, {strings.Repeat(" ", mostJob+1), 0, impl.JbLong}, {strings.Repeat("x", 1<<20), 0, impl.JbLong},
		{sound[:mostJob-1] + "x", 129, impl.JbForm}, {sound + "\n", 0, impl.JbLong}, {sound + "x", 0, impl.JbLong}, {sound + "act 1 2 3\n", 0, impl.JbLong},
		{"config 0 0 0\npart\n:" + strings.Repeat("x", mostJob-20) + "\n", 0, impl.JbLogs}, {"config 0 0 0\npart\n:" + strings.Repeat("x", mostJob-19) + "\n", 0, impl.JbLong},
		{"config 4 0 0\npart\n:" + strings.Repeat("x", mostJob-20) + "\n", 0, impl.JbConfig}, {"config 4 0 0\npart\n:" + strings.Repeat("x", mostJob-19) + "\n", 0, impl.JbLong},
		{"config 0 0 0\npart\n:" + strings.Repeat("x", mostJob-19), 3, impl.JbForm},
		{"config 0 0 0\nmask" + strings.Repeat(" 1", 3991) + "\n", 2, impl.JbForm}, {"config 0 0 0\nmask " + strings.Repeat("1", mostJob-19) + "\n", 2, impl.JbForm},
		{"config 0 0 0\n" + strings.Repeat("part\n", 1597), 0, impl.JbLogs}, {"config 0 0 0\npart\n" + strings.Repeat(":\n", 3991), 0, impl.JbLogs},
		{"config 0 0 0\n" + strings.Repeat("mask 0\n", 1141), 0, impl.JbConfig}, {"config 0 0 0\n" + strings.Repeat("win 1 1\n", 998), 0, impl.JbConfig},
	} {
		if (len(x.s) > mostJob) != (x.code == impl.JbLong) {
			t.Fatalf("%.40q has %d bytes", x.s, len(x.s))
		}
		refusesJob(t, x.s, x.line, x.code)
		isReadAsByForm(t, x.s)
	}
}

func TestJobReadOfNoLines(t *testing.T) {
	refusesJob(t, "", 1, impl.JbForm)
	refusesJob(t, "\n", 1, impl.JbForm)
	refusesJob(t, "\n\n", 1, impl.JbForm)
	refusesJob(t, "config 0 0 0", 1, impl.JbForm)
	refusesJob(t, "config 0 0 0\n", 0, impl.JbLogs)
	refusesJob(t, "config 0 0 0\n\n", 2, impl.JbForm)
	refusesJob(t, "\nconfig 0 0 0\npart\n", 1, impl.JbForm)
}

// wrongLines holds lines that have no form.
func wrongLines() []string {
	return []string{
		"", " ", "  ", "x", "-", "0", "1 2 3", "\r", "\x00", "\xff", "e 3 1", "up", "down", "job 1 2", "row 0 0 0 0 1 1 1 1 1", "frame 1 2 0", "drops 0", "sum 0",
		"config", "config ", "config 0", "config 0 0", "config 0 0 ", "config 0 0 0 ", "config 0 0 0 0", "config 0 0 0 0 0 0", " config 0 0 0", "config  0 0 0", "config 0  0 0", "config 0 0  0", "config  ",
		"Config 0 0 0", "CONFIG 0 0 0", "configs 0 0 0", "confi 0 0 0", "config0 0 0", "config\t0 0 0", "config 0\t0 0", "config 0 0 0\r", "config 0 0 0\x00", "config, 0 0 0", "config 0 0 x", "config x 0 0", "config 0 0 config", "0 config 0 0",
		"win", "win ", "win 10", "win 10 ", "win 10 10 ", "win 10 10 10", "win 10 10 10 10", " win 10 10", "win  10 10", "win 10  10", "Win 10 10", "wins 10 10", "wi 10 10", "win10 10", "win 10 10\r", "win 10 x", "win x 10", "win\xff 10 10", "10 10 win",
		"mask", "mask ", "mask  ", "mask 0 ", "mask 0 0", "mask 0 0 0", " mask 0", "mask  0", "Mask 0", "masks 0", "mas 0", "mask0", "mask x", "mask 0\r", "mask mask", "0 mask",
		"part ", " part", "part 0", "part 2 12", "part part", "parts", "par", "Part", "PART", "part\r", "part\x00", "part:", "part :x", "part\t",
		"act", "act ", "act 1", "act 1 2", "act 1 2 ", "act 1 2 3 ", "act 1 2 3 4", "act 1 2 3 4 5 6", " act 1 2 3", "act  1 2 3", "act 1  2 3", "act 1 2  3", "Act 1 2 3", "acts 1 2 3", "ac 1 2 3", "act1 2 3", "act 1 2 3\r", "act 1 2 x", "act x 2 3", "act, 1, 2, 3", "1 2 3 act",
		" :", " :x", "x:", "\t:x", "\x00:x", "：x", "config 0 0 0 :x",
	}
}

// A line that has no form is the one, wherever it stands.
func TestWrongLinesAtEachPlace(t *testing.T) {
	lines := sound()
	for _, line := range wrongLines() {
		for at := range len(lines) + 1 {
			refusesJob(t, textOf(with(lines, at, line)...), at+1, impl.JbForm)
			if at < len(lines) {
				other := slices.Clone(lines)
				other[at] = line
				refusesJob(t, textOf(other...), at+1, impl.JbForm)
			}
		}
		refusesJob(t, textOf(line), 1, impl.JbForm)
		refusesJob(t, line, 1, impl.JbForm)
	}
}

// A number has one form. Each of these stands for each number of each kind of lines.
func TestNumbersOfAJob(t *testing.T) {
	forms := []string{"config # 0 0", "config 0 # 0", "config 0 0 #", "win # 10", "win 10 #", "mask #", "act # 0 0", "act 0 # 0", "act 0 0 #"}
	places := []int{0, 0, 0, 1, 2, 4, 11, 12, 13}
	for i, form := range forms {
		lines := with(sound(), places[i], form)
		if places[i] == 0 {
			lines = slices.Delete(lines, 1, 2)
		}
		for _, number := range []string{
			"00", "01", "-01", "-0", "-00", "+0", "+1", "", "-", "+", "--1", "1-", "-+1", "1+", "0x1", "0b1", "0o7", "1e1", "1.0", "1.", ".1", "1_0", "1,0", "x", "１", "٣", "1\xff", "1\x00", "inf", "nil",
			"9223372036854775808", "-9223372036854775809", "9223372036854775810", "18446744073709551615", "18446744073709551616", "-18446744073709551616", "10000000000000000000", "99999999999999999999", "-99999999999999999999", strings.Repeat("9", 400), "0" + strings.Repeat("0", 400), "000000000000000000001",
		} {
			lines[places[i]] = strings.ReplaceAll(form, "#", number)
			refusesJob(t, textOf(lines...), places[i]+1, impl.JbForm)
		}
		for _, number := range []string{"9223372036854775807", "-9223372036854775808", "9223372036854775806", "-9223372036854775807", "-1", "1000000000000000000"} {
			lines[places[i]] = strings.ReplaceAll(form, "#", number)
			text := textOf(lines...)
			if places[i] < 11 {
				refusesJob(t, text, 0, impl.JbConfig)
			} else if got, line, code := impl.JobRead(text); code != 0 || line != 0 || impl.JobText(got) != text {
				t.Errorf("JobRead(%q) = %v, %d, %d", text, got, line, code)
			}
		}
	}
}

// Which line may come behind which other one; each is at the end of a text that has no fault.
func TestEachKindBehindEachKind(t *testing.T) {
	ends := map[string][]string{
		"c": {"config 1 0 0"}, "w": {"config 1 0 0", "win 10 10"}, "m": {"config 1 0 0", "mask 1"}, "p": {"config 1 0 0", "part"},
		"r": {"config 1 0 0", "part", ":x"}, "a": {"config 1 0 0", "act 1 2 3"},
	}
	next := map[string]string{"c": "config 1 0 0", "w": "win 20 20", "m": "mask 0", "p": "part", "r": ":y", "a": "act 4 5 6"}
	may := map[string]string{"c": "wmpa", "w": "wmpa", "m": "mpa", "p": "pra", "r": "pra", "a": "a"}
	for ahead, lines := range ends {
		for letter, line := range next {
			text := textOf(append(slices.Clone(lines), line)...)
			switch hasPart := strings.Contains(text, "part"); {
			case !strings.Contains(may[ahead], letter):
				refusesJob(t, text, len(lines)+1, impl.JbForm)
				refusesJob(t, text+"part\n", len(lines)+1, impl.JbForm)
			case !hasPart:
				refusesJob(t, text, 0, impl.JbLogs)
			default:
				if _, at, code := impl.JobRead(text); at != 0 || code != 0 {
					t.Errorf("JobRead(%q): %d, %d", text, at, code)
				}
			}
		}
	}
	for letter, line := range next {
		if letter != "c" {
			refusesJob(t, textOf(line), 1, impl.JbForm)
			refusesJob(t, textOf(line, "config 1 0 0", "part"), 1, impl.JbForm)
		}
	}
}

// All texts of a few lines, each of any kind, or of none.
func TestLinesInEachOrder(t *testing.T) {
	codes := map[int]int{}
	var try func(lines []string)
	try = func(lines []string) {
		n := len(lines)
		codes[isReadAsByForm(t, textOf(lines...))]++
		if n == 6 {
			return
		}
		for _, line := range []string{"config 1 0 0", fmt.Sprintf("win %d %d", n, n), fmt.Sprintf("mask %d", n%2), "part", ":x", "act 1 2 3"} {
			try(append(lines, line))
		}
	}
	try(nil)
	if codes[impl.JbOK] < 100 || codes[impl.JbLogs] < 50 || codes[impl.JbConfig] < 20 || codes[impl.JbForm] < 50000 {
		t.Errorf("the texts are too dull: %v", codes)
	}
}

// The lines of a job in their places, but one left out, told twice, or one put in another's place.
func TestLinesOutOfPlace(t *testing.T) {
	lines := sound()
	codes := map[int]int{}
	for i := range lines {
		codes[isReadAsByForm(t, textOf(slices.Delete(slices.Clone(lines), i, i+1)...))]++
		for at := range len(lines) + 1 {
			codes[isReadAsByForm(t, textOf(with(lines, at, lines[i])...))]++
			moved := slices.Delete(slices.Clone(lines), i, i+1)
			codes[isReadAsByForm(t, textOf(with(moved, min(at, len(moved)), lines[i])...))]++
		}
	}
	if codes[impl.JbOK] < 50 || codes[impl.JbForm] < 200 || codes[impl.JbConfig] < 4 {
		t.Errorf("the texts are too dull: %v", codes)
	}
}

// Cut anywhere but behind a line, a text ends with a line that is not ended.
func TestAJobCutAtEveryByte(t *testing.T) {
	text := textOf(sound()...)
	for n := range len(text) {
		s := text[:n]
		if n == 0 || s[n-1] != '\n' {
			refusesJob(t, s, 1+strings.Count(s, "\n"), impl.JbForm)
		} else if code := isReadAsByForm(t, s); code == impl.JbForm {
			t.Errorf("JobRead(%q) says JbForm", s)
		}
	}
	// A line ended by other bytes is not ended.
	for _, end := range []string{"\r", "\r\n", "\x00", "\n\r", "\n\x00", "\n ", " \n"} {
		refusesJob(t, strings.TrimSuffix(text, "\n")+end, map[bool]int{true: 14, false: 13}[end[0] == '\n'], impl.JbForm)
	}
}

func TestJobReadTakesOnlyTexts(t *testing.T) {
	codes := map[int]int{}
	for _, x := range []struct{ s, bytes string }{
		{"config 0 0 0\nmask 0\npart\n:?\nact 1 2 3\n", allBytes()},
		{textOf(sound()...), "0129 -+:acwmpr\n\x00\xff"},
	} {
		for _, near := range nearTexts(x.s, x.bytes) {
			codes[isReadAsByForm(t, near)]++
		}
	}
	if codes[impl.JbOK] < 500 || codes[impl.JbForm] < 10000 || codes[impl.JbConfig] < 20 {
		t.Errorf("the texts are too dull: %v", codes)
	}
}

// actLines tells so many lines of acts.
func actLines(n int) string {
	return strings.Repeat("act 6 0 0\n", n)
}

func TestMaxActsOfAJob(t *testing.T) {
	const head = "config 0 0 0\npart\n"
	readsJob(t, head+actLines(mostActs), job(impl.Config{}, []impl.Part{{}}, kinds(filled(mostActs, impl.AcCrash)...)...))
	for _, x := range []struct {
		s    string
		line int
	}{
		{head + actLines(mostActs+1), 63}, {head + actLines(mostActs+2), 63}, {head + actLines(700), 63}, {head + ":x\n" + actLines(mostActs+1), 64}, {"config 0 0 0\n" + actLines(mostActs+1), 62},
		// What comes behind the first one too many is not read; one that is not right and ahead of it comes first.
		{head + actLines(mostActs+1) + "x\n", 63}, {head + actLines(mostActs+1) + "part\n", 63}, {head + actLines(mostActs+1) + "act 1 2\n", 63}, {head + actLines(mostActs+1) + "act 1 2 3", 63}, {head + actLines(mostActs+9) + "\n", 63},
		{head + actLines(mostActs) + "x\n" + actLines(1), 63}, {head + actLines(mostActs-1) + "x\n" + actLines(2), 62}, {head + actLines(30) + "part\n" + actLines(mostActs), 33}, {head + actLines(mostActs-1) + ":x\n" + actLines(9), 62},
		{head + "x\n" + actLines(mostActs+1), 3}, {"config 0 0 0\nact 1 2\n" + actLines(mostActs+1), 2}, {actLines(mostActs + 1), 1}, {"x\n" + head + actLines(mostActs+1), 1},
		// The one too many is not right itself.
		{head + actLines(mostActs) + "x\n", 63}, {head + actLines(mostActs) + "act 1 2\n", 63}, {head + actLines(mostActs) + "act 1 2 3", 63}, {head + actLines(mostActs) + "part\n", 63}, {head + actLines(mostActs) + "\n", 63},
		// Ahead of what is wrong with the config and the logs.
		{"config 4 0 0\npart\n" + actLines(mostActs+1), 63}, {"config 4 0 0\n" + actLines(mostActs+1), 62}, {"config 0 0 0\n" + strings.Repeat("part\n", 4) + actLines(mostActs+1), 66},
	} {
		refusesJob(t, x.s, x.line, impl.JbForm)
		isReadAsByForm(t, x.s)
	}
}

func TestTheFirstFaultOfAJob(t *testing.T) {
	for _, x := range []struct {
		s          string
		line, code int
	}{
		// The first of several lines, whatever is wrong with each.
		{"x\ny\n", 1, impl.JbForm}, {"config 0 0 0\nx\ny\n", 2, impl.JbForm}, {"config 0 0 0\npart\nact 1\nmask\n", 3, impl.JbForm},
		{"config 0 0 0\n:x\nconfig 0 0 0\n", 2, impl.JbForm}, {"config 0 0 0\nconfig 0 0 0\n:x\n", 2, impl.JbForm}, {"config 0 0 0\nmask 0\nwin 5 5\nx\n", 3, impl.JbForm}, {"config 0 0 0\nmask 0\nx\nwin 5 5\n", 3, impl.JbForm},
		{"config 0 0 0\nact 1 2 3\npart\n:x\nx\n", 3, impl.JbForm}, {"config 0 0 0\npart\nx\npart", 3, impl.JbForm}, {"config 0 0 0\npart\n:x\npart", 4, impl.JbForm}, {"part\nconfig 0 0 0", 1, impl.JbForm}, {"x\nconfig 0 0 0", 1, impl.JbForm},
		{"config 0 0 0\nmask 1 1\nmask 0", 2, impl.JbForm}, {"config 0 0 0\npart\nact 1 2 3\n:x\nact 1 2", 4, impl.JbForm},
		// A form ahead of the config and the logs, the config ahead of the logs.
		{"config 4 0 0\npart\nx\n", 3, impl.JbForm}, {"config 4 0 0\nx\n", 2, impl.JbForm}, {"config 4 0 0", 1, impl.JbForm}, {"config 4 0 0\nwin 3 2\nmask 9\npart", 4, impl.JbForm}, {"config 4 0 0\npart\npart\npart\npart\nx\n", 6, impl.JbForm},
		{"config 0 0 0\npart\npart\npart\npart\nx\n", 6, impl.JbForm}, {"config 0 0 0\nx\n", 2, impl.JbForm}, {"config 4 0 0\nact 1 2 3\nconfig 0 0 0\n", 3, impl.JbForm},
		{"config 4 0 0\n", 0, impl.JbConfig}, {"config 4 0 0\npart\npart\npart\npart\n", 0, impl.JbConfig}, {"config 0 0 0\nmask 1\n", 0, impl.JbConfig}, {"config 0 0 0\nwin 3 2\nact 1 2 3\n", 0, impl.JbConfig},
		{"config 0 0 0\nact 1 2 3\n", 0, impl.JbLogs}, {"config 0 0 0\npart\npart\npart\npart\nact 1 2 3\n", 0, impl.JbLogs}, {"config 4 0 0\npart\n:" + strings.Repeat("x", 61) + "\n", 0, impl.JbConfig},
		{"config 0 0 0\npart\n:" + strings.Repeat("x", 61) + "\n", 0, impl.JbLogs}, {"config 0 0 0\npart\n" + strings.Repeat(":\n", 25), 0, impl.JbLogs}, {"config 0 0 0\npart\n" + strings.Repeat(":\n", 25) + "x\n", 28, impl.JbForm},
	} {
		refusesJob(t, x.s, x.line, x.code)
		isReadAsByForm(t, x.s)
	}
}

func TestJobReadRefusesConfigsAndLogs(t *testing.T) {
	for _, c := range refusedConfigs() {
		refusesJob(t, jobByHand(job(c, tideLogs(), up()...)), 0, impl.JbConfig)
		refusesJob(t, jobByHand(job(c, nil)), 0, impl.JbConfig)
		refusesJob(t, jobByHand(job(c, logs(0, 0, 0, 0, 0))), 0, impl.JbConfig)
	}
	read := 0
	for _, c := range acceptedConfigs() {
		for _, logs := range refusedLogs() {
			code := impl.JbLogs
			if len(jobByHand(job(c, logs, up()...))) > mostJob {
				code = impl.JbLong
			} else {
				read++
			}
			refusesJob(t, jobByHand(job(c, logs, up()...)), 0, code)
		}
	}
	if read < 100 {
		t.Errorf("only %d of the texts are not too long", read)
	}
	// A record that has an end of a line in it would be another line.
	refusesJob(t, jobByHand(job(impl.Config{}, []impl.Part{part("x\ny")})), 4, impl.JbForm)
	readsJob(t, jobByHand(job(impl.Config{}, []impl.Part{part("x\n:y\npart")})), job(impl.Config{}, []impl.Part{part("x", "y"), {}}))
}

func TestJobRun(t *testing.T) {
	const head = "config 0 0 10\nwin 10 10\nmask 0\npart\n:e 3 1\n:e 12 2\n:e 4 5\n:?\n:e 25 4\n"
	for _, x := range []struct{ acts, want string }{
		{"", "down\n"},
		{"act 7 0 0\n", "0 0 0 0\nup\n"},
		{"act 1 1 0\nact 8 0 0\nact 6 0 0\n", "1 0 0 0\n4 0 0 0\n0 0 0 0\ndown\n"},
		{"act 7 0 0\nact 7 0 0\nact 3 0 0\nact 0 0 0\n", "0 0 0 0\n2 0 0 0\n3 0 0 0\n4 0 0 0\nup\n"},
		{"act 7 0 0\nact 2 0 0\nact 3 0 0\nact 4 0 0\nact 5 0 0\n", "0 0 0 0\n0 0 0 0\n0 0 0 0\n0 0 0 0\n0 1 0 0\nup\n"},
		// A commit of two records, one of all, with a row told again.
		{"act 7 0 0\nact 1 2 0\nact 2 0 0\nact 3 0 0\nact 4 0 0\nact 5 0 0\nact 1 99 0\nact 2 0 0\nact 3 0 0\nact 4 0 0\nact 5 0 0\n",
			"0 0 0 0\n0 0 0 0\n0 0 0 0\n0 0 0 0\n0 0 0 0\n0 1 2 1\nrow 0 0 0 0 1 1 1 1 1\n0 0 0 0\n0 0 0 0\n0 0 0 0\n0 0 0 0\n0 2 5 2\nrow 0 0 0 0 2 6 1 5 2\nrow 0 0 10 0 1 2 2 2 1\nup\n"},
		// A crash that leaves the new checkpoint, one that leaves the old one, and down at the end.
		{"act 7 0 0\nact 1 2 0\nact 2 0 0\nact 3 0 0\nact 4 0 0\nact 5 0 0\nact 1 1 0\nact 2 0 0\nact 6 1 0\nact 9 0 0\nact 7 0 0\nact 6 0 0\n",
			"0 0 0 0\n0 0 0 0\n0 0 0 0\n0 0 0 0\n0 0 0 0\n0 1 2 1\nrow 0 0 0 0 1 1 1 1 1\n0 0 0 0\n0 0 0 0\n0 0 0 0\n4 0 0 0\n0 2 3 1\nrow 0 0 0 0 2 6 1 5 2\n0 0 0 0\ndown\n"},
		{"act 7 0 0\nact 1 2 0\nact 2 0 0\nact 3 0 0\nact 4 0 0\nact 5 0 0\nact 1 1 0\nact 2 0 0\nact 6 2 0\nact 9 0 0\nact 7 0 0\n",
			"0 0 0 0\n0 0 0 0\n0 0 0 0\n0 0 0 0\n0 0 0 0\n0 1 2 1\nrow 0 0 0 0 1 1 1 1 1\n0 0 0 0\n0 0 0 0\n0 0 0 0\n4 0 0 0\n0 1 2 1\nrow 0 0 0 0 1 1 1 1 1\nup\n"},
	} {
		if got := impl.JobRun(head + x.acts); got != x.want {
			t.Errorf("JobRun(%q) = %q; want %q", head+x.acts, got, x.want)
		}
	}
	// A row with a key.
	s := "config 2 0 0\nwin 10 10\nmask 3\npart\n:e -3 7 8 -40\n:e 90 7 8 1\nact 7 0 0\nact 1 2 0\nact 2 0 0\nact 3 0 0\nact 4 0 0\nact 5 0 0\n"
	if got, want := impl.JobRun(s), strings.Repeat("0 0 0 0\n", 5)+"0 1 2 1\nrow 0 0 -10 2 7 8 1 -40 -40 -40 1\nup\n"; got != want {
		t.Errorf("JobRun(%q) = %q; want %q", s, got, want)
	}
}

func TestJobRunOfEachCourse(t *testing.T) {
	for _, x := range engineCourses() {
		want := courseByHand(impl.Outcome{Replies: x.replies, Up: x.up})
		if got := impl.JobRun(tideJob(x.acts...)); got != want {
			t.Errorf("%s: JobRun = %q; want %q", x.name, got, want)
		}
	}
}

func TestJobRunOfMixedCourses(t *testing.T) {
	rows, ups := 0, 0
	for i, c := range operatorConfigs() {
		for seed, counts := range [][]int{{24}, {9, 12}, {7, 11, 9}} {
			logs := onLines(mixedLogs(c, i+5*seed, counts...))
			acts := mixedActs(c, logs, 100*i+10*seed)
			out := runByHand(c, logs, acts)
			want := courseByHand(out)
			if got := impl.JobRun(jobByHand(job(c, logs, acts...))); got != want {
				t.Fatalf("JobRun of %v, %q, %v = %.300q; want %.300q", c, logs, acts, got, want)
			}
			rows += strings.Count(want, "row ")
			if out.Up {
				ups++
			}
		}
	}
	if rows < 2000 || ups < 10 || ups > 3*len(operatorConfigs())-3 {
		t.Errorf("the courses are too dull: %d rows, %d up at the end", rows, ups)
	}
}

// A course may tell far more than a job's text has.
func TestJobRunOfManyRows(t *testing.T) {
	c := manyRowed([]int{0, 1, 3, 7}, 0, longest)
	logs := fullLogs("e 500 1 1 1 3000", "e 540 1 1 1 400000", "e 580 1 1 1 5", "e 591 1 1 1 800000")
	got := impl.JobRun(jobByHand(job(c, logs, fullActs()...)))
	if want := courseByHand(run(t, c, logs, fullActs())); got != want || strings.Count(got, "\nrow ") < 1000 {
		t.Errorf("JobRun has %d bytes with %d rows; want %d bytes", len(got), strings.Count(got, "\nrow "), len(want))
	}
	// A checkpoint that is too long is refused: RpFull.
	full := jobByHand(job(manyRowed([]int{7}, longest, 0), longLogs("e 1022 60 1 1 1"), slices.Concat(up(), reading(99), commit())...))
	if got, want := impl.JobRun(full), "0 0 0 0\n0 0 0 0\n5 0 0 0\n3 0 0 0\n3 0 0 0\n3 0 0 0\nup\n"; got != want {
		t.Errorf("JobRun(%.300q) = %q; want %q", full, got, want)
	}
}

func TestJobsLeaveTheirArguments(t *testing.T) {
	c, configBehind := roomyConfig()
	logs, acts, logsBehind := roomyLogs()
	j := job(c, logs, acts...)
	j.Acts = acts
	before := fmt.Sprint(configBehind, logsBehind)
	text := jobByHand(job(cubeConfig(), tideLogs(), slices.Clone(acts)...))
	if got := impl.JobText(j); got != text {
		t.Errorf("JobText reads what lies behind a list: %q; want %q", got, text)
	}
	hasNoText(t, job(c, logs[:0], acts...))
	if fmt.Sprint(configBehind, logsBehind) != before || len(j.Logs) != 1 || len(j.Acts) != len(acts) || !sameConfig(j.C, cubeConfig()) {
		t.Errorf("JobText writes into its argument: %v", j)
	}
	// What would be refused lies behind each list.
	room := []impl.Part{part("x", "y\n"), part("z"), {}, {}}
	room[0].Recs = room[0].Recs[:1]
	many := kinds(filled(mostActs+1, 6)...)
	near := job(impl.Config{}, room[:3], many[:mostActs]...)
	if got, want := impl.JobText(near), "config 0 0 0\npart\n:x\npart\n:z\npart\n"+actLines(mostActs); got != want {
		t.Errorf("JobText reads what lies behind a list: %q", got)
	}
}

// recsApart writes into all the room of each part's records and looks at the other ones.
func recsApart(t *testing.T, logs []impl.Part) {
	t.Helper()
	for i := range logs {
		room := logs[i].Recs[:cap(logs[i].Recs)]
		for k := range room {
			room[k] = fmt.Sprint("scribble ", i)
		}
		for k, p := range logs {
			if k != i && slices.Contains(p.Recs, fmt.Sprint("scribble ", i)) {
				t.Fatalf("the records of the parts %d and %d share memory", i, k)
			}
		}
	}
}

// nothingBehind asks that there is nothing in the spare room of a list.
func nothingBehind[T any](t *testing.T, list []T) {
	t.Helper()
	for _, x := range list[len(list):cap(list)] {
		if !reflect.ValueOf(x).IsZero() {
			t.Errorf("behind %v lies %v", list, x)
		}
	}
}

func TestJobsReadAreNewMemory(t *testing.T) {
	for _, want := range []impl.Job{soundJob(), job(cubeConfig(), onLines(mixedLogs(cubeConfig(), 2, 9, 12, 24)), committing(1, 2, 3)...)} {
		text := jobByHand(want)
		course := impl.JobRun(text)
		first, _, _ := impl.JobRead(text)
		second, _, _ := impl.JobRead(text)
		nothingBehind(t, first.C.Wins)
		nothingBehind(t, first.C.Masks)
		nothingBehind(t, first.Logs)
		nothingBehind(t, first.Acts)
		for _, p := range first.Logs {
			nothingBehind(t, p.Recs)
		}
		recsApart(t, first.Logs)
		scribbleConfig(first.C)
		_, _ = append(first.Logs, part("scribble")), append(first.Acts, act(9, 9, 9))
		for i := range first.Logs {
			first.Logs[i] = part("scribble")
		}
		for i := range first.Acts {
			first.Acts[i] = act(9, 9, 9)
		}
		if !sameJob(second, want) {
			t.Errorf("two answers share memory: %v", second)
		}
		readsJob(t, text, want)
		if impl.JobRun(text) != course || impl.JobText(second) != text {
			t.Errorf("the course of %q hangs on what was written into an answer", text)
		}
	}
}

// Whatever was asked ahead, a text says the same.
func TestJobsKeepNothing(t *testing.T) {
	texts := []string{"", "x\n", textOf(sound()...), tideJob(committing(1)...), tideJob(slices.Concat(up(), committing(2, 1))...), "config 4 0 0\n", "config 0 0 0\n", actLines(61)}
	first := []string{}
	for _, s := range texts {
		first = append(first, impl.JobRun(s))
	}
	for _, ahead := range texts {
		for i, s := range texts {
			impl.JobRead(ahead)
			impl.JobRun(ahead)
			if got := impl.JobRun(s); got != first[i] {
				t.Errorf("behind %q JobRun(%q) = %q; want %q", ahead, s, got, first[i])
			}
		}
	}
}
