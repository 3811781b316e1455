package partition

// turned answers what Turned does, of a list without a fault.
func turned(l []int) []int {
	if len(l) == 0 {
		return nil
	}
	many := make([]int, l[0])
	for _, entry := range l {
		for k := range entry {
			many[k]++
		}
	}
	return many
}
