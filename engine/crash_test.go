package engine

import (
	"math/rand"
	"testing"

	"mapmaker/api"
	"mapmaker/change"
	"mapmaker/data"
)

// step applies a random operation and returns its error, and the dataset and the number of commits that it leads to without a crash.
func step(t *testing.T, r *rand.Rand, e *Engine) (err api.Errno, d api.Data, commits int) {
	t.Helper()
	d = e.Data()
	if r.Intn(8) == 0 {
		return e.Compact(), d, 0
	}
	l := someChanges(r)
	next, want := change.Apply(d, l)
	n, err := e.Commit(l)
	if err != want && (want != api.OK || err != api.ErrFull) || err != api.OK && n != 0 {
		t.Fatalf("Commit(%v) returns %d, %d, not %d", l, n, err, want)
	}
	if want != api.OK {
		return err, d, 0
	}
	return err, next, 1
}

// After every successful call the engine answers as one that is built anew, and so does one that is opened.
func TestP58_4Steps(t *testing.T) {
	done := map[api.Errno]int{}
	areas, hits, compacted := 0, 0, [2]int{}
	for seed := range 12 {
		r := rand.New(rand.NewSource(int64(seed)))
		first := world(r)
		s, e := formatted(t, 101, 301, first)
		version := 0
		check(t, e, version, first)
		for range 20 {
			before := answers(t, e)
			err, d, commits := step(t, r, e)
			done[err]++
			if err != api.OK {
				same(t, answers(t, e), before)
				continue
			}
			version += commits
			check(t, e, version, d)
			x := s.open(t)
			if x.Lag() != 0 {
				t.Fatalf("after an operation the cache is %d versions behind", x.Lag())
			}
			same(t, answers(t, x), answers(t, e))
			for _, p := range points(d) {
				areas += len(e.At(p))
			}
			hits += e.Coder().Len()
		}
		compacted[0] += journalOf(t, s.a).Epoch()
		compacted[1] += journalOf(t, s.b).Epoch()
	}
	if done[api.OK] < 100 || done[api.ErrRef] == 0 || done[api.ErrNone] == 0 || done[api.ErrFull] > 0 || areas < 500 || hits < 500 || min(compacted[0], compacted[1]) < 30 {
		t.Errorf("the operations returned %v, there were %d areas and %d names, and the devices were compacted %v times", done, areas, hits, compacted)
	}
}

// P8 of DOC.md: after a crash between any two writes the engine opens with the state before or after the operation.
func TestP58_4Crashes(t *testing.T) {
	crashes, behind := 0, 0
	for seed := range 5 {
		r := rand.New(rand.NewSource(int64(seed)))
		first := world(r)
		s, e := formatted(t, 101, 301, first)
		for range 12 {
			before, old, version := e.Data(), s.writes(), e.Version()
			err, after, commits := step(t, r, e)
			if err != api.OK {
				if s.writes() != old {
					t.Fatalf("an operation that returns %d writes", err)
				}
				continue
			}
			texts := [2]string{required(t, version, before), required(t, version+commits, after)}
			now := s.writes()
			// All writes of the store come before those of the cache.
			for k := 0; k <= now[0]-old[0]+now[1]-old[1]; k++ {
				more := max(0, old[0]+k-now[0])
				x := s.after(old[0]+k-more, old[1]+more).open(t)
				crashes++
				behind += x.Lag()
				if x.Lag() > 1 {
					t.Fatalf("after a crash Lag is %d", x.Lag())
				}
				done := 0
				if old[0]+k >= now[0] {
					done = 1
				}
				same(t, answers(t, x), texts[done])
			}
		}
	}
	if crashes < 300 || behind < 100 {
		t.Errorf("there were %d crashes, and %d caches behind", crashes, behind)
	}
}

// Engines go on after crashes, also after those of Open.
func TestP58_4Restarts(t *testing.T) {
	failed := map[bool]int{}
	for seed := range 12 {
		r := rand.New(rand.NewSource(int64(seed)))
		s, e := formatted(t, 101, 301, world(r))
		d, version := e.Data(), 0
		for range 40 {
			s.limit(r.Intn(2), r.Intn(12))
			err, next, commits := step(t, r, e)
			s = s.now()
			if r.Intn(2) == 0 {
				s.b.Limit(r.Intn(12))
				_, err := Open(s.a, s.b)
				if failed[err != api.OK]++; err != api.OK && err != api.ErrFull {
					t.Fatalf("Open with a limit returns %d", err)
				}
				s = s.now()
			}
			e = s.open(t)
			if err == api.OK || e.Version() != version {
				d, version = next, version+commits
			}
			check(t, e, version, d)
			if data.Check(d) != api.OK {
				t.Fatal("the dataset is not valid")
			}
		}
	}
	if failed[true] < 10 || failed[false] < 100 {
		t.Errorf("of the interrupted calls of Open %v failed", failed)
	}
}
