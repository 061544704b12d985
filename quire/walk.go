package quire

import "headword/api"

// walker goes from point to point of the grid.
type walker struct {
	at        [2]int
	direction [2]int
}

// left turns to the left and goes a step, to the point that it returns.
func (w *walker) left() [2]int {
	w.direction = [2]int{-w.direction[1], w.direction[0]}
	return w.ahead()
}

// right turns to the right and goes a step, to the point that it returns.
func (w *walker) right() [2]int {
	w.direction = [2]int{w.direction[1], -w.direction[0]}
	return w.ahead()
}

// ahead goes a step, to the point that it returns.
func (w *walker) ahead() [2]int {
	w.at[0] += w.direction[0]
	w.at[1] += w.direction[1]
	return w.at
}

// walk returns all points of the walk by creases that have no error.
func walk(creases string) [][2]int {
	w := &walker{direction: [2]int{1, 0}}
	points := [][2]int{w.at}
	step := w.ahead
	for _, crease := range creases {
		point := step()
		points = append(points, point)
		step = w.right
		if crease == valley {
			step = w.left
		}
	}
	last := step()
	return append(points, last)
}

// Walk returns the points of a walk.
func Walk(creases string) ([][2]int, api.Errno) {
	if e := checkCreases(creases); e != api.OK {
		return nil, e
	}
	return walk(creases), api.OK
}

// End returns the last point of the walk.
func End(folds string) (x, y int, e api.Errno) {
	creases, e := Creases(folds)
	if e != api.OK {
		return 0, 0, e
	}
	points := walk(creases)
	last := points[len(points)-1]
	return last[0], last[1], api.OK
}

// Lanes returns two steps in the same lane.
func Lanes(creases string) (i, j int, e api.Errno) {
	if e := checkCreases(creases); e != api.OK {
		return 0, 0, e
	}
	points := walk(creases)
	steps := len(points) - 1
	for one := range steps {
		for other := one + 1; other < steps; other++ {
			if sameLane(points, one, other) {
				return one, other, api.OK
			}
		}
	}
	return 0, 0, api.ErrClash
}

// sameLane reports whether two steps join the same two points, in whichever direction.
func sameLane(points [][2]int, i, j int) bool {
	from, to := points[i], points[i+1]
	return from == points[j] && to == points[j+1] || from == points[j+1] && to == points[j]
}
