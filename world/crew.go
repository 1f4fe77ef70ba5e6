package world

import "sync"

// crew has the machines work in goroutines, each in one of its own from its first task on.
type crew struct {
	desks map[machine]desk
	work  sync.WaitGroup
}

// desk is where a machine's tasks are laid, and where it lays its answers.
type desk struct {
	tasks   chan task
	answers chan answer
}

func newCrew() *crew {
	return &crew{desks: map[machine]desk{}}
}

// hand waits for the answer: one task is done at a time, so that nothing hangs on how goroutines run.
func (c *crew) hand(m machine, t task) answer {
	d, there := c.desks[m]
	if !there {
		d = desk{make(chan task), make(chan answer)}
		c.desks[m] = d
		c.work.Add(1)
		go c.serve(m, d)
	}
	d.tasks <- t
	return <-d.answers
}

func (c *crew) serve(m machine, d desk) {
	defer c.work.Done()
	for t := range d.tasks {
		d.answers <- m.do(t)
	}
}

// end comes back when all goroutines have ended.
func (c *crew) end() {
	for _, d := range c.desks {
		close(d.tasks)
	}
	c.work.Wait()
}
