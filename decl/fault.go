package decl

import "loanword/api"

// fault is what a file, or a type, is given up with.
type fault struct {
	at int
	e  api.Errno
}

// must gives up at the node at, unless ok is so.
func must(ok bool, at int, e api.Errno) {
	if !ok {
		panic(fault{at: at, e: e})
	}
}

// caught does the work, and answers what it was given up with, if it was.
func caught(work func()) (at int, e api.Errno) {
	defer func() {
		r := recover()
		if r == nil {
			return
		}
		given, ok := r.(fault)
		if !ok {
			panic(r)
		}
		at, e = given.at, given.e
	}()
	work()
	return 0, api.OK
}
