package sod

import (
	"slices"

	"bogworks/api"
)

// bounds is what bounds the strokes that there can have been by the end of a day.
type bounds interface {
	allow(day int, c costs) strokes
}

// counted bounds strokes by counts.
type counted struct{ logs []api.SodLog }

// supposed bounds them besides by one count that nobody has made.
type supposed struct {
	counted
	log api.SodLog
}

func (k counted) allow(day int, c costs) strokes { return meet(k.each(day, c)...) }

func (s supposed) allow(day int, c costs) strokes {
	list := s.each(day, c)
	if s.log.Day == day {
		list = append(list, c.strokes(s.log.Sods))
	}
	return meet(list...)
}

// each returns with how many strokes each count of a day is right.
func (k counted) each(day int, c costs) (list []strokes) {
	for _, l := range k.logs {
		if l.Day == day {
			list = append(list, c.strokes(l.Sods))
		}
	}
	return list
}

// only returns the counts of a set.
func (k counted) only(set int) counted {
	logs := make([]api.SodLog, len(k.logs))
	copy(logs, k.logs)
	for i := len(logs) - 1; i >= 0; i-- {
		if set>>i&1 == 0 {
			logs = slices.Delete(logs, i, i+1)
		}
	}
	return counted{logs}
}
