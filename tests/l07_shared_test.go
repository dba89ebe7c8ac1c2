package tests

import (
	"fmt"
	"testing"

	"loop.example/g01201/impl"
)

func TestMessagesOfSomeWorkers(t *testing.T) {
	for _, c := range []struct {
		high, workers int64
		wrap          bool
		want          string
	}{
		{3, 1, false, "[]"}, {3, 1, true, "[]"}, {16, 1, false, "[]"}, {16, 1, true, "[]"},
		{5, 2, false, "[[0 1 2] [1 0 3]]"}, {5, 2, true, "[[0 1 0] [0 1 2] [1 0 3] [1 0 4]]"},
		{3, 2, false, "[[0 1 1] [1 0 2]]"}, {3, 2, true, "[[0 1 0] [0 1 1] [1 0 2]]"},
		{4, 2, true, "[[0 1 0] [0 1 1] [1 0 2] [1 0 3]]"},
		{3, 3, false, "[[0 1 0] [1 0 1] [1 2 1] [2 1 2]]"}, {3, 3, true, "[[0 1 0] [0 2 0] [1 0 1] [1 2 1] [2 0 2] [2 1 2]]"},
		{3, 8, false, "[[0 1 0] [1 0 1] [1 2 1] [2 1 2]]"}, {3, 8, true, "[[0 1 0] [0 2 0] [1 0 1] [1 2 1] [2 0 2] [2 1 2]]"},
		{4, 8, true, "[[0 1 0] [0 3 0] [1 0 1] [1 2 1] [2 1 2] [2 3 2] [3 0 3] [3 2 3]]"},
		{7, 3, false, "[[0 1 2] [1 0 3] [1 2 4] [2 1 5]]"}, {7, 3, true, "[[0 1 2] [0 2 0] [1 0 3] [1 2 4] [2 0 6] [2 1 5]]"},
		{9, 4, true, "[[0 1 2] [0 3 0] [1 0 3] [1 2 4] [2 1 5] [2 3 6] [3 0 8] [3 2 7]]"},
	} {
		for _, wide := range []int64{3, 16} {
			got, ok := impl.MessagesOf(blankSheet(wide, c.high, c.wrap), c.workers)
			is(t, fmt.Sprint("MessagesOf ", c.high, c.workers, c.wrap), fmt.Sprint(got, ok), c.want+" true")
		}
	}
}

func TestMessagesOfAllShapes(t *testing.T) {
	eachShape(func(wide, high int64, wrap bool) {
		s := blankSheet(wide, high, wrap)
		for workers := int64(1); workers <= maxWorkers; workers++ {
			got, ok := impl.MessagesOf(s, workers)
			is(t, fmt.Sprint("MessagesOf ", wide, high, wrap, workers), fmt.Sprint(got, ok), fmt.Sprint(messagesOf(s, workers), true))
		}
	})
}

func TestWorkersThatAreRefused(t *testing.T) {
	source := numbers{310}
	for _, wrap := range []bool{false, true} {
		for _, side := range [][2]int64{{4, 5}, {3, 3}, {16, 16}} {
			c := anyScene(&source, side[0], side[1], wrap, near)
			for _, workers := range noWorkers {
				refusesWorkers(t, fmt.Sprint(side, wrap, workers), c, workers)
			}
		}
	}
}

func TestRunsOfWorkersThatAreRefused(t *testing.T) {
	source := numbers{311}
	for _, wrap := range []bool{false, true} {
		c := anyScene(&source, 4, 5, wrap, near)
		for _, steps := range noRuns {
			for workers := int64(1); workers <= maxWorkers; workers++ {
				isNothing[impl.Field](t, fmt.Sprint("RunShared ", workers, steps))(impl.RunShared(c.s, c.f, workers, steps))
			}
		}
	}
}

// Each number that is wanted here has been computed by hand.
func TestWorkersOfASmallField(t *testing.T) {
	c := plainScene(3, 5, false, 0.5, 0).with(map[int]float32{4: 2})
	once := impl.Field{
		E: []float32{0, 0, 0, 0, 0, 0, 0, 0.5, 0, 0, 0, 0, 0, 0, 0},
		X: []float32{0, -1, 0, 0, 1, 0, 0, 0, 0, 0, 0, 0, 0, 0, 0},
		Y: []float32{0, 0, 0, 1, -1, 0, 0, 0, 0, 0, 0, 0, 0, 0, 0},
	}
	isOfWorkers(t, "a small field", c, once)
	twice := impl.Field{
		E: []float32{0, 0, 0, 0, -1.875, 0, 0, 0.5, 0, 0, 0.125, 0, 0, 0, 0},
		X: []float32{0, -1, 0, 0, 0.75, 0, 0, 0.25, 0, 0, 0, 0, 0, 0, 0},
		Y: []float32{0, 0, 0, 1, -1, 0, 0.25, -0.25, 0, 0, 0, 0, 0, 0, 0},
	}
	for workers := int64(1); workers <= maxWorkers; workers++ {
		got, ok := impl.RunShared(c.s, c.f, workers, 2)
		isField(t, fmt.Sprint("RunShared ", workers), got, ok, twice)
	}
	c = plainScene(4, 3, true, 0.5, 0.5).with(map[int]float32{11: 8})
	isOfWorkers(t, "the last cell", c, impl.Field{
		E: []float32{0, 0, 0, 2, 0, 0, 0, 2, 2, 0, 2, -4},
		X: []float32{0, 0, 0, 0, 0, 0, 0, -4, 0, 0, 0, 4},
		Y: []float32{0, 0, 0, 0, 0, 0, 0, 0, 0, 0, 4, -4},
	})
}

// A number next to the edge of a strip is needed by the next worker, and one that
// is subnormal, too great or not a number at all tells whether it has come.
func TestWorkersAtTheEdgesOfStrips(t *testing.T) {
	source := numbers{312}
	values := []float32{1, -3, least, -least, 3 * least, infinity, -infinity, notANumber, negativeZero, 3e38}
	for _, side := range [][2]int64{{3, 3}, {4, 4}, {3, 5}, {5, 7}, {3, 9}, {3, 16}} {
		for _, wrap := range []bool{false, true} {
			s := anySheet(&source, side[0], side[1], wrap)
			for k := range 3 {
				for at := range s.Wide * s.High {
					c := scene{s, blankField(s)}
					listsOf(c.f)[k][at] = picked(&source, values)
					if !impl.IsField(c.s, c.f) {
						continue
					}
					isOfWorkers(t, fmt.Sprint("list ", k, " at ", at, " "), c, c.stepped().f)
					steps := below(&source, 6)
					workers := 1 + below(&source, maxWorkers)
					is(t, fmt.Sprint("RunShared ", workers, steps), c.shared(t, workers, steps).told(), c.ranReference(steps).told())
				}
			}
		}
	}
}

func TestWorkersOfZeros(t *testing.T) {
	eachShape(func(wide, high int64, wrap bool) {
		c := plainScene(wide, high, wrap, 0.5, 0.25)
		for _, workers := range []int64{1, 2, 5, maxWorkers} {
			is(t, fmt.Sprint("RunShared ", c.shape(), workers), c.shared(t, workers, 3).told(), c.told())
		}
	})
}

func TestRunsOfWorkersOfNoStep(t *testing.T) {
	eachScene(313, special, func(c scene) {
		for workers := int64(1); workers <= maxWorkers; workers++ {
			is(t, fmt.Sprint("RunShared ", c.shape(), workers), c.shared(t, workers, 0).told(), c.told())
		}
	})
}

// Losses of 1, of less, and of nothing, in whole rows.
func TestWorkersWithLosses(t *testing.T) {
	source := numbers{314}
	for _, wrap := range []bool{false, true} {
		for range 20 {
			c := mildScene(&source, 3+below(&source, 14), 3+below(&source, 14), wrap)
			for y := range c.s.High {
				loss := picked(&source, []float32{0, 1, negativeZero, part(&source)})
				for x := range c.s.Wide {
					c.s.Losses[x+c.s.Wide*y] = loss
				}
			}
			isOfWorkers(t, "with losses", c, c.stepped().f)
			want := c.ranReference(maxRun).told()
			for workers := int64(1); workers <= maxWorkers; workers++ {
				is(t, fmt.Sprint("RunShared ", c.shape(), workers), c.shared(t, workers, maxRun).told(), want)
			}
		}
	}
}

// The digests are those of a second program, in another language, for runs that
// are not shared.
func TestWorkersOfASecondProgram(t *testing.T) {
	for _, c := range secondRuns {
		from := anyScene(&numbers{c.seed}, c.wide, c.high, c.wrap, someKinds[c.kind])
		for workers := int64(1); workers <= maxWorkers; workers++ {
			is(t, fmt.Sprintf("the digest of %+v with %d", c, workers), newDigest.withField(from.shared(t, workers, c.steps).f), c.want)
		}
	}
}
