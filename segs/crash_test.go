package segs

import (
	"slices"
	"testing"

	"cachet/disk"
)

// deed is a call of a store: an Append of texts, or, with none, a Sync.
type deed []string

// scripts is deeds in which segments are begun, filled just so, overfilled, and left unsynced.
func scripts() [][]deed {
	a, b, c := text(30, 'a'), text(30, 'b'), text(30, 'c')
	return [][]deed{
		{{"one"}, {}, {"two", ""}, {"three"}, {}},
		{{a}, {b}, {c}, {}, {"d"}},
		{{a, b, c}, {}, {"d", text(47, 'e'), "f"}, {}},
		{{text(56, 'x')}, {""}, {}, {text(48, 'y')}, {text(100, 'z'), text(100, 'w')}, {}, {"end"}},
		{{}, {"", "", "", "", "", "", "", "", ""}, {"a"}, {}, {text(200, 'l')}, {""}},
	}
}

// run does deeds up to the first that fails, and answers all texts that were
// handed in, and how many of them were sure.
func run(s *Store, script []deed) (handed []string, sure int) {
	for _, x := range script {
		var err error
		if len(x) == 0 {
			err = s.Sync()
		} else {
			handed = append(handed, x...)
			err = s.Append(rows(x...)...)
		}
		if err != nil {
			break
		}
	}
	return handed, s.Sure()
}

// unsure is how many bytes of one file aren't sure, at most.
func unsure(d *disk.Disk) int {
	lit := d.Copy()
	lit.Crash(1 << 30)
	n := 0
	for _, name := range d.Names() {
		n = max(n, lit.Sure(name)-d.Sure(name))
	}
	return n
}

// outlives asks that a disk behind a crash is opened, with a beginning of what
// was handed in and all that was sure; and opened once more it is the same.
func outlives(t *testing.T, d *disk.Disk, handed []string, sure int) []string {
	t.Helper()
	s := opened(t, d, 64)
	got := texts(s)
	if len(got) < sure || len(got) > len(handed) || !slices.Equal(got, handed[:len(got)]) {
		t.Fatalf("of %.300q, %d sure, there is %.300q", handed, sure, got)
	}
	holds(t, s, got, len(got), s.Last(), nil)
	was := content(d)
	holds(t, opened(t, d, 64), got, len(got), s.Last(), nil)
	is(t, d, was)
	d.Crash(0)
	is(t, d, was)
	holds(t, opened(t, d, 64), got, len(got), s.Last(), nil)
	return got
}

// P8.2: a crash behind each step, with each torn end; opened, and opened once
// more. What is appended then outlives the next crash likewise.
func TestCrashBehindEachStep(t *testing.T) {
	for _, script := range scripts() {
		for arm := 0; ; arm++ {
			d := empty(t, 2000)
			s := opened(t, d, 64)
			done(t, d.Arm(arm))
			handed, sure := run(s, script)
			for keep := range unsure(d) + 2 {
				e := d.Copy()
				e.Crash(keep)
				got := outlives(t, e, handed, sure)
				goesOn(t, e, got)
			}
			if !d.Down() {
				break
			}
		}
	}
}

// goesOn asks that a store that was opened anew takes more, and keeps it.
func goesOn(t *testing.T, d *disk.Disk, had []string) {
	t.Helper()
	more := []string{"more", text(40, 'm'), ""}
	s := opened(t, d, 64)
	done(t, s.Append(rows(more...)...))
	holds(t, s, slices.Concat(had, more), len(had), s.Last(), nil)
	done(t, s.Sync())
	all := slices.Concat(had, more)
	holds(t, s, all, len(all), s.Last(), nil)
	d.Crash(0)
	holds(t, opened(t, d, 64), all, len(all), s.Last(), nil)
}

// P8.2: the power goes again, at each step of opening, and of what is appended behind it.
func TestCrashWhileOpened(t *testing.T) {
	for _, script := range scripts() {
		for arm := 0; ; arm++ {
			d := empty(t, 2000)
			s := opened(t, d, 64)
			done(t, d.Arm(arm))
			handed, sure := run(s, script)
			for _, keep := range []int{0, 1, 9, 20, 1000} {
				e := d.Copy()
				e.Crash(keep)
				again(t, e, handed, sure, keep)
			}
			if !d.Down() {
				break
			}
		}
	}
}

func again(t *testing.T, d *disk.Disk, handed []string, sure, keep int) {
	t.Helper()
	had := outlives(t, d.Copy(), handed, sure)
	for arm := 0; ; arm++ {
		e := d.Copy()
		done(t, e.Arm(arm))
		s, err := Open(e, 64)
		if err != nil {
			// What was found when it was opened whole is found behind a crash of opening, too.
			e.Crash(keep)
			if got := outlives(t, e, handed, sure); !slices.Equal(got, had) {
				t.Fatal(arm, got, had)
			}
			continue
		}
		more, sure := run(s, []deed{{"x", text(60, 'y')}, {}, {"z"}})
		e.Crash(keep)
		outlives(t, e, slices.Concat(had, more), max(sure, len(had)))
		if s.Stuck() == nil {
			return
		}
	}
}

// P8.2: what an Append that failed has written may be there; what the store held is.
func TestTornAppend(t *testing.T) {
	d := empty(t, 1000)
	s := opened(t, d, 64)
	done(t, s.Append([]byte("one")))
	done(t, s.Sync())
	done(t, d.Arm(1))
	if s.Append([]byte("two"), []byte("three")) == nil {
		t.Fatal("no power")
	}
	holds(t, s, []string{"one"}, 1, 1, s.Stuck())
	for keep, want := range map[int][]string{0: {"one"}, 10: {"one"}, 11: {"one", "two"}, 12: {"one", "two"}} {
		e := d.Copy()
		e.Crash(keep)
		holds(t, opened(t, e, 64), want, len(want), 1, nil)
	}
}
