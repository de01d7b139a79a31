package many

import "sync"

// crew is workers that answer texts. It takes one on only when all are busy, so that there are no more than are of use.
type crew struct {
	texts   []string
	answers []Answer // each is written by the one worker that has its job
	jobs    chan int // the number of a text
	workers int
	joined  sync.WaitGroup
	lock    sync.Mutex
	busy    int // how many jobs were given out and are not done; under the lock
}

// newCrew is one that has no workers yet.
func newCrew(texts []string) *crew {
	return &crew{texts: texts, answers: make([]Answer, len(texts)), jobs: make(chan int)}
}

// run has each text answered, by at most so many workers, and ends when they are gone.
func (c *crew) run(most int) {
	for job := range c.texts {
		if c.begun() > c.workers && c.workers < most {
			c.grow()
		}
		c.jobs <- job
	}
	close(c.jobs)
	c.joined.Wait()
}

// grow takes a worker on.
func (c *crew) grow() {
	c.workers++
	c.joined.Add(1)
	go c.work()
}

// work answers texts as long as there are jobs.
func (c *crew) work() {
	defer c.joined.Done()
	for job := range c.jobs {
		c.answers[job] = One(c.texts[job])
		c.done()
	}
}

// begun tells how many are busy, with one more job that is given out.
func (c *crew) begun() int {
	c.lock.Lock()
	defer c.lock.Unlock()
	c.busy++
	return c.busy
}

// done is told of each job that is done.
func (c *crew) done() {
	c.lock.Lock()
	defer c.lock.Unlock()
	c.busy--
}
