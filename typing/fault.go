package typing

import "loanword/api"

// fault is what a file is given up with.
type fault struct {
	at int
	e  api.Errno
}

// demand is something that must be so, and what is told where it is not.
type demand struct {
	at int
	e  api.Errno
	so func() bool
}

// must asks one behind the other: what is asked later may lean on what was asked, and found, before.
func must(demands ...demand) {
	for _, d := range demands {
		if !d.so() {
			panic(fault{at: d.at, e: d.e})
		}
	}
}

// caught does the work, and answers what it was given up with, if it was.
func caught(work func()) (at int, e api.Errno) {
	defer func() {
		r := recover()
		if r == nil {
			return
		}
		given, ok := r.(fault)
		if !ok {
			panic(r)
		}
		at, e = given.at, given.e
	}()
	work()
	return 0, api.OK
}
