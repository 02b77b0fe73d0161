package decl

import (
	"loanword/api"
	"loanword/types"
)

// relation says of each two numbers whether the first one stands to the second one: which struct stands in which, which lifetime outlives which. It has room for all structs, and there are never as many lifetimes.
type relation [api.MaxItems][api.MaxItems]bool

// close adds what follows for the first count numbers: if a stands to b and b to c, then a to c.
func (r *relation) close(count int) {
	for via := range count {
		for from := range count {
			for to := range count {
				r[from][to] = r[from][to] || r[from][via] && r[via][to]
			}
		}
	}
}

// pairs answers what is said of two of the first count numbers that are not the same, sorted.
func (r *relation) pairs(count int) []api.Outlives {
	var l []api.Outlives
	for long := range count {
		for short := range count {
			if r[long][short] && long != short {
				l = append(l, api.Outlives{Long: long, Short: short})
			}
		}
	}
	return l
}

// closed answers all that follows of what is given and of what the types of s imply. All of their lifetimes are lifetimes of s.
func closed(s api.Sig, given []api.Outlives) []api.Outlives {
	var r relation
	for _, o := range given {
		r[o.Long][o.Short] = true
	}
	for _, t := range typesOf(s) {
		imply(t, func(long, short int) { r[long][short] = true })
	}
	r.close(s.Count)
	return r.pairs(s.Count)
}

// imply tells what t implies. What stands in a reference's type stands behind it in the row of regions, and all that stands behind it stands in it.
func imply(t api.Type, tell func(long, short int)) {
	l := types.Regions(t)
	for i, short := range l {
		for _, long := range l[i+1:] {
			tell(long, short)
		}
	}
}

// typesOf answers the types of the parameters and of the answer.
func typesOf(s api.Sig) []api.Type {
	var l []api.Type
	for _, p := range s.Params {
		l = append(l, p.Type)
	}
	return append(l, s.Answer)
}
