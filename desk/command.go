package desk

import (
	"strconv"
	"strings"

	"solspace/api"
	"solspace/catalog"
	"solspace/clause"
	"solspace/count"
	"solspace/plan"
	"solspace/reason"
	"solspace/semver"
	"solspace/space"
)

// How many words stand behind a command's, where any number may.
const anyNumber = -1

// All commands' words, as help tells them.
const allWords = "add always can clause clauses clear core count cores fits help items kth least lines near never order range undo why yank"

// command is what a line's first word asks for: how many words stand behind it, and what is done with them.
type command struct {
	words int
	does  func(words []string) string
}

// command is a word's. ErrForm is thrown, if there is none.
func (d *desk) command(word string) command {
	switch word {
	case "add":
		return command{anyNumber, d.add}
	case "yank":
		return command{1, d.yank}
	case "undo":
		return command{0, d.undo}
	case "lines":
		return command{0, d.lines}
	case "items":
		return command{0, d.items}
	case "count":
		return command{0, d.count}
	case "kth":
		return command{1, d.kth}
	case "least":
		return command{0, d.least}
	case "near":
		return command{anyNumber, d.near}
	case "always":
		return command{0, d.always}
	case "never":
		return command{0, d.never}
	case "fits":
		return command{anyNumber, d.fits}
	case "order":
		return command{anyNumber, d.order}
	case "core":
		return command{0, d.core}
	case "why":
		return command{2, d.why}
	case "cores":
		return command{0, d.cores}
	case "range":
		return command{anyNumber, d.versions}
	case "clause":
		return command{anyNumber, d.clause}
	case "clauses":
		return command{0, d.list}
	case "can":
		return command{0, d.can}
	case "clear":
		return command{0, d.clear}
	case "help":
		return command{0, d.help}
	}
	panic(api.ErrForm)
}

// What the commands do, in the order in which they stand above: each is handed as many words as it asks for, and throws what the layers say, ahead of any change.

func (d *desk) add(words []string) string {
	line := must(catalog.ParseLine(strings.Join(words, " ")))
	throw(d.shelf.Publish(line))
	return d.size()
}

func (d *desk) yank(words []string) string {
	throw(d.shelf.Yank(readNumber(words[0])))
	return d.size()
}

func (d *desk) undo([]string) string {
	throw(d.shelf.Undo())
	return d.size()
}

// size tells how many lines there are.
func (d *desk) size() string { return strconv.Itoa(len(d.shelf.Catalog().Lines())) }

func (d *desk) lines([]string) string {
	text := strings.TrimSuffix(d.shelf.Catalog().Text(), "\n")
	return strings.ReplaceAll(text, "\n", "; ")
}

func (d *desk) items([]string) string {
	var out []string
	for _, x := range d.shelf.Catalog().Items() {
		out = append(out, x.Name+" "+x.Version.Text())
	}
	return strings.Join(out, comma)
}

func (d *desk) count([]string) string { return must(d.shelf.Count()).Text() }

func (d *desk) kth(words []string) string {
	k := must(count.Parse(words[0]))
	s := d.space()
	return tellSet(must(s.Kth(s.All, k)))
}

// space is all that may be installed.
func (d *desk) space() *space.Space { return must(d.shelf.Space()) }

func (d *desk) least([]string) string { return tellSet(must(d.space().Least())) }

func (d *desk) near(words []string) string {
	now := readSet(words)
	return tellSet(must(d.space().Near(now)))
}

func (d *desk) always([]string) string { return tellNumbers(must(d.space().Always())) }

func (d *desk) never([]string) string { return tellNumbers(must(d.space().Never())) }

func (d *desk) fits(words []string) string {
	ok, line := plan.Fits(d.shelf.Catalog(), readSet(words))
	if ok {
		return "fits"
	}
	return strconv.Itoa(line)
}

func (d *desk) order(words []string) string {
	return tellNumbers(must(plan.Order(d.shelf.Catalog(), readSet(words))))
}

func (d *desk) core([]string) string { return tellNumbers(must(reason.Core(d.shelf.Catalog()))) }

func (d *desk) why(words []string) string {
	v := must(semver.Parse(words[1]))
	return tellNumbers(must(reason.WhyNot(d.shelf.Catalog(), words[0], v)))
}

func (d *desk) cores([]string) string {
	cores, fixes, err := reason.Cores(d.shelf.Catalog())
	throw(err)
	out := append(tellSets(cores), "|")
	return strings.Join(append(out, tellSets(fixes)...), comma)
}

func (d *desk) versions(words []string) string {
	return must(semver.ParseRange(strings.Join(words, " "))).Text()
}

func (d *desk) clause(words []string) string {
	// With no room beyond it, the list is not written into for a clause that may be refused.
	n := len(d.clauses)
	all := append(d.clauses[:n:n], readClause(words))
	throw(clause.Check(api.MaxVars, all))
	d.clauses = all
	return strconv.Itoa(len(all))
}

func (d *desk) list([]string) string { return tellClauses(d.clauses) }

func (d *desk) can([]string) string {
	a := must(clause.Solve(variables(d.clauses), d.clauses))
	if a.Holds {
		return "yes " + tellSet(a.Values)
	}
	return "no " + tellClauses(a.Proof)
}

// variables are how many clauses need: a literal is one more than its variable's number, or less than 0 by as much.
func variables(l []api.Clause) int {
	most := 0
	for _, c := range l {
		for _, x := range c {
			most = max(most, x, -x)
		}
	}
	return most
}

func (d *desk) clear([]string) string {
	*d = desk{}
	return "clear"
}

func (d *desk) help([]string) string { return allWords }
