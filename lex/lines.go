package lex

import (
	"strings"

	"loanword/api"
)

// Line answers the line and the column of that place, both from 1 on.
func Line(s string, at int) (line, column int, e api.Errno) {
	if len(s) > api.MaxSource {
		return 0, 0, api.ErrLong
	}
	if at < 0 || at > len(s) {
		return 0, 0, api.ErrArg
	}
	ahead := s[:at]
	// Without a byte 10 the last one stands at -1: just ahead of the text.
	last := strings.LastIndexByte(ahead, '\n')
	return 1 + strings.Count(ahead, "\n"), at - last, api.OK
}

// Lines answers what stands between the bytes 10 of s.
func Lines(s string) ([]string, api.Errno) {
	if len(s) > api.MaxSource {
		return nil, api.ErrLong
	}
	l := strings.Split(s, "\n")
	for i, line := range l {
		// A line keeps its own bytes, not the whole text.
		l[i] = strings.Clone(line)
	}
	return l, api.OK
}
