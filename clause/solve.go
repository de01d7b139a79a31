package clause

import (
	"slices"

	"solspace/api"
)

// The most clauses of a proof.
const mostProof = 2000

// search is what Solve knows: all clauses, what is told now, the decisions that led there, and what they came to.
type search struct {
	clauses   []api.Clause
	now       values
	decisions []decision
	proof     []api.Clause
}

// decision is a literal that no clause asked for, and what had been told ahead of it.
type decision struct {
	literal int
	before  values
}

// Solve is the first values, where true comes ahead of false, variable by variable; or a proof: whenever some clause can't hold, the clause that not all decisions are true together; the last decision is taken back, and that clause is one of all from then on. ErrLimit: 2000 of these, and the last one isn't empty.
func Solve(vars int, l []api.Clause) (Answer, error) {
	if err := Check(vars, l); err != nil {
		return Answer{}, err
	}
	s := search{clauses: slices.Clone(l)}
	for {
		i, x := s.now.next(s.clauses)
		switch {
		case x != 0:
			s.now.tell(x)
		case i >= 0:
			s.refute()
			if len(s.decisions) == 0 {
				return Answer{Proof: s.proof}, nil
			}
			if len(s.proof) == mostProof {
				return Answer{}, api.ErrLimit
			}
			s.takeBack()
		default:
			v := slices.Index(s.now[:vars], 0)
			if v < 0 {
				return Answer{Holds: true, Values: s.now.number()}, nil
			}
			s.decide(v + 1)
		}
	}
}

// decide tells a literal that no clause asks for.
func (s *search) decide(x int) {
	s.decisions = append(s.decisions, decision{x, s.now})
	s.now.tell(x)
}

// refute adds the clause that not all decisions are true together.
func (s *search) refute() {
	c := make(api.Clause, len(s.decisions))
	for i, d := range s.decisions {
		c[i] = -d.literal
	}
	s.proof = append(s.proof, c)
	s.clauses = append(s.clauses, c)
}

// takeBack makes it as if the last decision had not been.
func (s *search) takeBack() {
	last := len(s.decisions) - 1
	s.now = s.decisions[last].before
	s.decisions = s.decisions[:last]
}
