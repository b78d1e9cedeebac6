package poll_test

import (
	"math/rand"
	"testing"

	"taskmill/api"
	"taskmill/poll"
)

// The chapter's examples.
func TestExamples(t *testing.T) {
	d, who, f := poll.Fire(zero, 0)
	same(t, "fire", told(d, who, f), told(desc(ready(0)), 0, none))
	d, tells, f := poll.Wait(d, 0, 1, 0)
	same(t, "fire, and then wait", told(d, tells, f), told(zero, 1, none))

	d, tells, f = poll.Wait(zero, 0, 1, 0)
	same(t, "wait", told(d, tells, f), told(desc(task(0, 1)), 0, none))
	d, who, f = poll.Fire(d, 0)
	same(t, "wait, and then fire", told(d, who, f), told(zero, 1, none))
}

// story is a descriptor that is played: time goes on, and what happens is written down.
type story struct {
	d      api.Desc
	now    int
	ticked int     // the time of the last Tick
	fired  [2]bool // has something come that nobody has got yet?
	inside [2]int  // who waits
	due    [2]int  // until when
	closed bool    // has it been closed?
	counts [8]int  // how often what happened, so that all of it does
	r      *rand.Rand
}

// What is counted.
const (
	cameFirst  = iota // it was got by who waited next
	cameLast          // it was got by who waited
	wentLate          // somebody was told by Tick
	wentAtOnce        // somebody was told by Until
	wentClosed        // somebody was told by Close
	foundLate
	foundClosed
	began
)

func (s *story) wait(t *testing.T, way int) {
	t.Helper()
	n := 1 + s.r.Intn(4)
	d, tells, f := poll.Wait(s.d, way, n, s.now)
	if s.inside[way] != 0 || s.inside[1-way] == n {
		same(t, "wait: somebody is there", d, zero)
		if f == none {
			t.Fatalf("wait: no fault at %v", s.d)
		}
		return
	}
	want := began
	switch {
	case s.closed:
		want = foundClosed
	case s.due[way] != 0 && s.due[way] <= s.now:
		want = foundLate
	case s.fired[way]:
		want = cameFirst
		s.fired[way] = false
	default:
		s.inside[way] = n
	}
	same(t, "wait", told(tells, f), told(map[int]int{began: 0, cameFirst: 1, foundLate: 2, foundClosed: 3}[want], none))
	s.counts[want]++
	s.d = d
}

func (s *story) fire(t *testing.T, way int) {
	t.Helper()
	d, who, f := poll.Fire(s.d, way)
	same(t, "fire", told(who, f), told(s.inside[way], none))
	if who != 0 {
		s.counts[cameLast]++
	} else {
		s.fired[way] = !s.closed
	}
	s.inside[way] = 0
	s.d = d
}

func (s *story) until(t *testing.T, way int) {
	t.Helper()
	when := max(0, s.now+s.r.Intn(7)-2)
	if s.r.Intn(3) == 0 {
		when = 0
	}
	d, who, f := poll.Until(s.d, way, when, s.now)
	if s.closed {
		same(t, "until", told(d, who, f), told(zero, 0, fault(api.ErrState, -1)))
		return
	}
	s.due[way] = when
	want := 0
	if when != 0 && when <= s.now {
		want, s.inside[way] = s.inside[way], 0
	}
	same(t, "until", told(who, f), told(want, none))
	s.counts[wentAtOnce] += min(1, want)
	s.d = d
}

func (s *story) tick(t *testing.T) {
	t.Helper()
	s.now += s.r.Intn(3)
	s.ticked = s.now
	d, tasks, f := poll.Tick(s.d, s.now)
	want := []int{}
	for way := range 2 {
		if s.inside[way] != 0 && s.due[way] != 0 && s.due[way] <= s.now {
			want = append(want, s.inside[way])
			s.inside[way] = 0
		}
	}
	same(t, "tick", told(tasks, f), told(want, none))
	s.counts[wentLate] += len(tasks)
	s.d = d
}

func (s *story) close(t *testing.T) {
	t.Helper()
	d, tasks, was, f := poll.Close(s.d)
	want := []int{}
	for _, n := range s.inside {
		if n != 0 {
			want = append(want, n)
		}
	}
	same(t, "close", told(tasks, was, f), told(want, s.closed, none))
	s.counts[wentClosed] += len(tasks)
	s.closed, s.fired, s.inside, s.due = true, [2]bool{}, [2]int{}, [2]int{}
	s.d = d
}

// kept asks that the descriptor is as the story tells it, and that nobody waits at what is closed, ready, or late at the last Tick.
func (s *story) kept(t *testing.T) {
	t.Helper()
	same(t, "the descriptor", poll.Check(s.d), none)
	same(t, "as it is told", s.d, api.Desc{Closed: s.closed, Ready: s.fired, Task: s.inside, Until: s.due})
	for way := range 2 {
		late := s.d.Until[way] != 0 && s.d.Until[way] <= s.ticked
		if s.d.Task[way] != 0 && (s.d.Closed || s.d.Ready[way] || late) {
			t.Fatalf("somebody waits: %v, ticked at %d", s.d, s.ticked)
		}
	}
}

// What follows: what is fired is lost for nobody: it is got by who waits, or by who waits next;
// nobody waits at what is closed, ready, or late at the last Tick.
func TestNothingIsLost(t *testing.T) {
	var counts [8]int
	for seed := range 300 {
		s := story{r: rand.New(rand.NewSource(int64(seed)))}
		for range 100 {
			switch way := s.r.Intn(2); s.r.Intn(40) {
			case 0:
				s.close(t)
			case 1, 2, 3, 4, 5, 6, 7, 8, 9, 10:
				s.fire(t, way)
			case 11, 12, 13, 14, 15, 16, 17, 18:
				s.until(t, way)
			case 19, 20, 21, 22, 23, 24:
				s.tick(t)
			default:
				s.wait(t, way)
			}
			s.kept(t)
		}
		for i, n := range s.counts {
			counts[i] += n
		}
	}
	for i, n := range counts {
		if n < 50 {
			t.Errorf("%d happened %d times: %v", i, n, counts)
		}
	}
}

// What follows: what is fired stays for who waits next in time, also behind one who came too late, and behind other ways' doings.
func TestWhatIsFiredStays(t *testing.T) {
	for way := range 2 {
		d, _, _ := poll.Fire(zero, way)
		d, _, _ = poll.Until(d, way, 5, 9)
		d, tells, f := poll.Wait(d, way, 1, 9)
		same(t, "too late", told(tells, f), told(2, none))
		d, tells, f = poll.Wait(d, 1-way, 1, 9)
		same(t, "on the other way", told(tells, f), told(0, none))
		d, _, _ = poll.Tick(d, 10)
		d, who, f := poll.Fire(d, 1-way)
		same(t, "fired on the other way", told(who, f), told(1, none))
		d, _, _ = poll.Until(d, way, 0, 10)
		d, tells, f = poll.Wait(d, way, 2, 11)
		same(t, "it is got", told(d, tells, f), told(zero, 1, none))
		d, tells, f = poll.Wait(d, way, 2, 11)
		same(t, "but once", told(d, tells, f), told(desc(task(way, 2)), 0, none))
	}
}
