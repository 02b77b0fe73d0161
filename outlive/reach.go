package outlive

import (
	"slices"

	"loanword/api"
)

// reached answers the regions to which one comes from one of so many, going from each constraint's Short to its Long, rising.
func reached(l []api.Constraint, count, from int) []int {
	longs := make([][]int, count)
	for _, c := range l {
		longs[c.Short] = append(longs[c.Short], c.Long)
	}
	came := make([]bool, count)
	came[from] = true
	list := []int{from}
	for k := 0; k < len(list); k++ { // the list grows meanwhile
		for _, long := range longs[list[k]] {
			if !came[long] {
				came[long] = true
				list = append(list, long)
			}
		}
	}
	slices.Sort(list)
	return list
}
