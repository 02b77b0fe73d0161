package lower

// tooLarge is what a graph is given up with.
type tooLarge struct{}

// fits does the work, and tells whether it came to its end, not to something too large.
func fits(work func()) (ok bool) {
	defer func() {
		r := recover()
		if r == nil {
			return
		}
		if _, is := r.(tooLarge); !is {
			panic(r)
		}
		ok = false
	}()
	work()
	return true
}
