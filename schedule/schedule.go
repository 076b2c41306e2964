// Package schedule is layer 7: when an arc with a daily schedule can be entered (chapter 7).
package schedule

import (
	"mapmaker/api"
)

// maxSpans is the greatest number of spans of a schedule.
const maxSpans = 8

// Check returns the first error of a schedule.
func Check(s api.Schedule) api.Errno {
	if len(s.Closed) > maxSpans {
		return api.ErrLong
	}
	last := 0
	for _, c := range s.Closed {
		if c.From < 0 || c.To <= c.From || c.To > api.Day {
			return api.ErrRange
		}
		if c.From < last {
			return api.ErrOrder
		}
		last = c.To
	}
	if s.Every < 0 || s.Every == 0 && s.First != 0 || s.First < 0 || s.First >= api.Day {
		return api.ErrTime
	}
	return api.OK
}

// Open reports whether s is valid and can be entered at time t.
func Open(s api.Schedule, t int) bool {
	return Check(s) == api.OK && t >= 0 && openAt(s, t%api.Day)
}

// Next returns the smallest time of at least t at which s is open, and true if there is one.
func Next(s api.Schedule, t int) (int, bool) {
	if Check(s) != api.OK || t > api.Inf {
		return 0, false
	}
	t = max(t, 0)
	// Every day is alike, so that the minutes of one day decide.
	for wait := range api.Day {
		if openAt(s, (t+wait)%api.Day) {
			return t + wait, true
		}
	}
	return 0, false
}

// Free reports whether s is valid and always open.
func Free(s api.Schedule) bool {
	if Check(s) != api.OK {
		return false
	}
	for m := range api.Day {
		if !openAt(s, m) {
			return false
		}
	}
	return true
}

// openAt reports whether a valid schedule is open at minute m of the day.
func openAt(s api.Schedule, m int) bool {
	if s.Every > 0 && (m < s.First || (m-s.First)%s.Every != 0) {
		return false
	}
spans:
	for _, c := range s.Closed {
		switch {
		case m < c.From:
			break spans // later spans begin later still
		case m < c.To:
			return false
		}
	}
	return true
}
