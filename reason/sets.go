package reason

import (
	"solspace/arena"
	"solspace/family"
)

// least are the sets of so many things of which something is so, though without any one thing of them it isn't; rising.
func least(things int, so func(set uint) bool) []uint {
	var out []uint
	for set := range uint(1) << things {
		if so(set) && !without(things, set, so) {
			out = append(out, set)
		}
	}
	return out
}

// without says whether something is so of a set without one of its things.
func without(things int, set uint, so func(set uint) bool) bool {
	for thing := range things {
		if one := uint(1) << thing; set&one != 0 && so(set&^one) {
			return true
		}
	}
	return false
}

// gathered is the family of sets. ErrRange: one has a thing that there is not.
func gathered(s *family.Store, sets []uint) (int, error) {
	all := arena.False
	for _, set := range sets {
		one, err := s.One(set)
		if err != nil {
			return 0, err
		}
		if all, err = s.Or(all, one); err != nil {
			return 0, err
		}
		// As many sets as Reiter takes never fill the room by themselves, but what was made on the way would.
		s.Free(all)
	}
	return all, nil
}
