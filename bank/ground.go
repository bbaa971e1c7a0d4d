package bank

import "bogworks/api"

// ground is a valid bank, as it is walked over.
type ground struct {
	perches, nobody int
	leases          []lease
	marks           marked
}

// survey returns the ground of a bank.
func survey(b api.Bank) ground {
	return ground{perches: b.Perches, nobody: b.Holders, leases: leases(b), marks: marked{b.Marks}}
}

// needTruth gives the call up if not all marks can be right.
func (g ground) needTruth() { refuse(!g.possible(g.marks), api.ErrClash) }

// count returns how many truths there are in which all is as it is asked.
func (g ground) count(a asked) int {
	w := g.truths(a, g.nobody)
	return sum(w[:]...)
}

// sum returns the sum of numbers.
func sum(numbers ...int) int {
	total := 0
	for _, n := range numbers {
		total += n
	}
	return total
}

// claims returns, for each holder and for nobody, in how many truths all perches from first to last are theirs.
func (g ground) claims(first, last int) []int {
	var list []int
	for holder := range g.nobody + 1 {
		n := g.count(claimed{g.marks, first, last, holder})
		list = append(list, n)
	}
	return list
}

// whose returns the set of those who have a perch in some truth.
func (g ground) whose(perch int) int {
	holders := 0
	for holder, truths := range g.claims(perch, perch) {
		if truths > 0 {
			holders |= 1 << holder
		}
	}
	return holders
}

// has returns the perches that a holder has in each truth, and in some.
func (g ground) has(holder int) (surely, perhaps int) {
	for perch := range g.perches {
		holders := g.whose(perch)
		if holders == 1<<holder {
			surely |= 1 << perch
		}
		if holders>>holder&1 == 1 {
			perhaps |= 1 << perch
		}
	}
	return surely, perhaps
}

// line returns whether a perch and the one before it are those of different ones.
func (g ground) line(perch int) int {
	same := sum(g.claims(perch-1, perch)...)
	if same == 0 {
		return api.BankAlways
	}
	if same == g.count(g.marks) {
		return api.BankNever
	}
	return api.BankPerhaps
}

// ask returns the perch of which the one who has it in most truths has it in the fewest, and in how many.
func (g ground) ask() (perch, left int) {
	for p := range g.perches {
		most := 0
		for _, truths := range g.claims(p, p) {
			most = max(most, truths)
		}
		if p == 0 || most < left {
			perch, left = p, most
		}
	}
	return perch, left
}
