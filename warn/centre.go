package warn

import (
	"iter"
	"slices"

	"tidewall/api"
)

// Centre is a centre that issues bulletins of an event.
type Centre struct {
	name    string
	event   string
	regions []Region
	tail    int
	number  int   // of the last bulletin
	time    int   // of the last bulletin
	stages  []int // in force
}

// New returns a centre.
func New(centre, event string, l []Region, tail int) (*Centre, api.Errno) {
	if !isName(centre) || !isName(event) {
		return nil, api.ErrName
	}
	if e := CheckRegions(l); e != api.OK {
		return nil, e
	}
	if !within(tail, 0, MaxTail) {
		return nil, api.ErrRange
	}
	return &Centre{name: centre, event: event, regions: slices.Clone(l), tail: tail, stages: make([]int, len(l))}, api.OK
}

// Issue returns the next bulletin.
func (c *Centre) Issue(now int, l []State) (Bulletin, api.Errno) {
	if e := c.checkIssue(now, l); e != api.OK {
		return Bulletin{}, e
	}
	items := slices.Collect(c.items(now, l))
	// The stages get new memory each time: a centre that is assigned as a value must not write into those of the other one.
	c.stages = make([]int, len(items))
	for i, x := range items {
		c.stages[i] = x.Stage
	}
	c.number++
	c.time = now
	return Bulletin{Centre: c.name, Event: c.event, Number: c.number, Time: now, Items: items}, api.OK
}

// Deadlines returns until when a higher stage has to be said in each region.
func (c *Centre) Deadlines(l []State) ([]int, api.Errno) {
	if !c.isMade() {
		return nil, api.ErrNil
	}
	if e := c.checkStates(l); e != api.OK {
		return nil, e
	}
	deadlines := make([]int, len(l))
	for i, x := range l {
		deadlines[i] = api.Never
		if stage := c.regions[i].greatest(x); stage > c.stages[i] {
			deadlines[i] = c.regions[i].deadline(stage, x)
		}
	}
	return deadlines, api.OK
}

// Stages returns the stages in force.
func (c *Centre) Stages() []int {
	if !c.isMade() {
		return nil
	}
	return slices.Clone(c.stages)
}

// Copy returns an independent centre.
func (c *Centre) Copy() *Centre {
	if !c.isMade() {
		return nil
	}
	another := *c
	another.regions = slices.Clone(c.regions)
	another.stages = slices.Clone(c.stages)
	return &another
}

// isMade says whether New or Copy made a centre: only then does it have a name.
func (c *Centre) isMade() bool {
	return c != nil && c.name != ""
}

func (c *Centre) checkIssue(now int, l []State) api.Errno {
	if !c.isMade() {
		return api.ErrNil
	}
	if !isTime(now) {
		return api.ErrRange
	}
	if now < c.time {
		return api.ErrLate
	}
	if c.number >= MaxNumber {
		return api.ErrMany
	}
	return c.checkStates(l)
}

func (c *Centre) checkStates(l []State) api.Errno {
	if len(l) != len(c.regions) {
		return api.ErrShape
	}
	for _, x := range l {
		if e := checkState(x); e != api.OK {
			return e
		}
	}
	return api.OK
}

// items yields what the next bulletin says of each region, in order.
func (c *Centre) items(now int, l []State) iter.Seq[Item] {
	return func(yield func(Item) bool) {
		for i, x := range l {
			if !yield(c.item(i, now, x)) {
				return
			}
		}
	}
}

// item returns what the next bulletin says of the region with a number.
func (c *Centre) item(number, now int, x State) Item {
	region, inForce := c.regions[number], c.stages[number]
	hasPassed := x.Arrive.Hi != api.Never && now >= x.Arrive.Hi+c.tail
	stage := None
	if !hasPassed {
		stage = region.greatest(x)
	}
	return Item{
		Region: region.Name,
		Stage:  stage,
		Reason: c.reason(hasPassed, stage, inForce),
		Arrive: x.Arrive,
		Rise:   x.Rise,
		Late:   stage > inForce && now > region.deadline(stage, x),
	}
}

// reason returns why the next bulletin says a stage.
func (c *Centre) reason(hasPassed bool, stage, inForce int) int {
	switch {
	case hasPassed:
		return Passed
	case c.number == 0:
		return First
	case stage > inForce:
		return Raised
	case stage < inForce:
		return Less
	}
	return Kept
}

// greatest returns the greatest stage whose height the water can reach, as long as it has not passed.
func (r Region) greatest(x State) int {
	stage := None
	if x.Arrive.Lo == api.Never {
		return stage
	}
	for i, height := range r.Heights {
		if height <= x.Rise.Hi {
			stage = i + 1
		}
	}
	return stage
}

// deadline returns the last time at which a stage, which is not None, is said in time.
func (r Region) deadline(stage int, x State) int {
	return x.Arrive.Lo - r.Leads[stage-1]
}
