package tests

import (
	"math"
	"reflect"
	"slices"
	"testing"

	"loop.example/g00190/impl"
)

var wrongIds = []int{math.MinInt, math.MinInt + 1, -1 << 32, -99, -2, -1, 0, 100, 101, 255, 1 << 32, 1<<32 + 1, 1<<32 + 99, math.MaxInt - 1, math.MaxInt}

// Ids that no scene of these tests has.
var strangeIds = []int{math.MinInt, -1 << 32, -2, -1, 0, 55, 100, 1 << 32, 1<<32 + 1, math.MaxInt}

var spareNode = impl.Node{Id: 7, Parent: 7, Group: true, Width: 71, Dashes: []int{72}, Fade: 73}

func groupNode(id int, parent int) impl.Node {
	return impl.Node{Id: id, Parent: parent, Group: true, Mat: impl.Still(), Mode: impl.Over, Fade: 255}
}

// One that is no Group, with something in each of its fields.
func shapeNode(id int, parent int) impl.Node {
	return impl.Node{
		Id: id, Parent: parent, Mat: impl.Shift(256, -512), Path: impl.RectPath(impl.Box{X1: 512, Y1: 256}), Even: true,
		Width: 64, Dashes: []int{30, 20}, Paint: plainOf(255, 0, 128, 255), Mode: impl.Screen, Fade: 200,
		Clip: impl.RectPath(impl.Box{X0: -256, X1: 256, Y1: 256}),
	}
}

// Groups, each by its Id and its Parent.
func groupsOf(numbers ...int) impl.Scene {
	s := impl.Scene{}
	for i := 0; i < len(numbers); i += 2 {
		s.Nodes = append(s.Nodes, groupNode(numbers[i], numbers[i+1]))
	}
	return s
}

// Groups with the Ids from 1 on, each one below the one ahead of it.
func chainOf(deep int) impl.Scene {
	s := impl.Scene{}
	for i := range deep {
		s.Nodes = append(s.Nodes, groupNode(i+1, i))
	}
	return s
}

// Without a change to the node or scene that is handed in.
func withNode(s impl.Scene, place int, x impl.Node) impl.Scene {
	nodes := slices.Clone(s.Nodes)
	nodes[place] = x
	return impl.Scene{Nodes: nodes}
}

func turnedAround(s impl.Scene) impl.Scene {
	nodes := slices.Clone(s.Nodes)
	slices.Reverse(nodes)
	return impl.Scene{Nodes: nodes}
}

func roomyPath(p impl.Path) impl.Path {
	verbs, _ := withRoom(p.Verbs, 77)
	points, _ := withRoom(p.Points, impl.Point{X: 78, Y: 79})
	return impl.Path{Verbs: verbs, Points: points}
}

// The same node, with lists of its own and spare room behind each of them.
func roomyNode(x impl.Node) impl.Node {
	x.Path, x.Clip = roomyPath(x.Path), roomyPath(x.Clip)
	x.Dashes, _ = withRoom(x.Dashes, 76)
	return x
}

func roomyScene(s impl.Scene) impl.Scene {
	nodes, _ := withRoom(s.Nodes, spareNode)
	for i, x := range nodes {
		nodes[i] = roomyNode(x)
	}
	return impl.Scene{Nodes: nodes}
}

func wholePath(p impl.Path) impl.Path {
	return impl.Path{Verbs: p.Verbs[:cap(p.Verbs)], Points: p.Points[:cap(p.Points)]}
}

// The same node, each of its lists with all of its room.
func wholeNode(x impl.Node) impl.Node {
	x.Path, x.Clip, x.Dashes = wholePath(x.Path), wholePath(x.Clip), x.Dashes[:cap(x.Dashes)]
	return x
}

func wholeScene(s impl.Scene) impl.Scene {
	whole := impl.Scene{}
	for _, x := range s.Nodes[:cap(s.Nodes)] {
		whole.Nodes = append(whole.Nodes, wholeNode(x))
	}
	return whole
}

func checkNodeOk(t *testing.T, x impl.Node, want bool) {
	t.Helper()
	roomy := roomyNode(x)
	if got := impl.NodeOk(roomy); got != want {
		t.Errorf("NodeOk(%v) = %v, want %v", x, got, want)
	}
	if !reflect.DeepEqual(wholeNode(roomy), wholeNode(roomyNode(x))) {
		t.Errorf("NodeOk(%v) wrote into its lists: %v", x, wholeNode(roomy))
	}
}

func checkLeft(t *testing.T, name string, handed impl.Scene, s impl.Scene) {
	t.Helper()
	if !reflect.DeepEqual(wholeScene(handed), wholeScene(roomyScene(s))) {
		t.Errorf("%s of %v wrote into its lists, or shares them: %v", name, s, wholeScene(handed))
	}
}

func checkSceneOk(t *testing.T, s impl.Scene, want bool) {
	t.Helper()
	roomy := roomyScene(s)
	if got := impl.SceneOk(roomy); got != want {
		t.Errorf("SceneOk(%v) = %v, want %v", s, got, want)
	}
	checkLeft(t, "SceneOk", roomy, s)
}

func checkNumber(t *testing.T, name string, ask func(s impl.Scene, id int) int, s impl.Scene, id int, want int) {
	t.Helper()
	roomy := roomyScene(s)
	if got := ask(roomy, id); got != want {
		t.Errorf("%s(%v, %d) = %d, want %d", name, s, id, got, want)
	}
	checkLeft(t, name, roomy, s)
}

func checkNodeAt(t *testing.T, s impl.Scene, id int, want int) {
	t.Helper()
	checkNumber(t, "NodeAt", impl.NodeAt, s, id, want)
}

func checkDepthOf(t *testing.T, s impl.Scene, id int, want int) {
	t.Helper()
	checkNumber(t, "DepthOf", impl.DepthOf, s, id, want)
}

// What is written into a list that came, and into the room behind it, must not come to what was handed in, nor into the next answer.
func checkIds(t *testing.T, name string, ask func(s impl.Scene, id int) []int, s impl.Scene, id int, want []int) {
	t.Helper()
	roomy := roomyScene(s)
	for range 2 {
		got := ask(roomy, id)
		if !slices.Equal(got, want) {
			t.Errorf("%s(%v, %d) = %v, want %v", name, s, id, got, want)
		}
		overwrite(got, 99)
	}
	checkLeft(t, name, roomy, s)
}

func checkKidsOf(t *testing.T, s impl.Scene, id int, want ...int) {
	t.Helper()
	checkIds(t, "KidsOf", impl.KidsOf, s, id, want)
}

func checkUnderOf(t *testing.T, s impl.Scene, id int, want ...int) {
	t.Helper()
	checkIds(t, "UnderOf", impl.UnderOf, s, id, want)
}

// Which nodes are above which, by their places: above[i][j] says that the node at j is above the one at i. Of nodes with unlike Ids.
func aboveByClosure(s impl.Scene) [][]bool {
	count := len(s.Nodes)
	above := make([][]bool, count)
	for i, x := range s.Nodes {
		above[i] = make([]bool, count)
		for j, y := range s.Nodes {
			above[i][j] = x.Parent == y.Id
		}
	}
	for between := range count {
		for i := range count {
			for j := range count {
				above[i][j] = above[i][j] || above[i][between] && above[between][j]
			}
		}
	}
	return above
}

func underByClosure(s impl.Scene, above [][]bool, place int) []int {
	ids := []int{}
	for i, x := range s.Nodes {
		if i == place || above[i][place] {
			ids = append(ids, x.Id)
		}
	}
	return ids
}

// Of at most MaxNodes nodes: one that hangs from the scene has, among itself and those above it, one with Parent 0; in a ring there is none.
func depthByClosure(s impl.Scene, above [][]bool, place int) int {
	depth, hangs := 0, false
	for j, y := range s.Nodes {
		if j == place || above[place][j] {
			depth++
			hangs = hangs || y.Parent == 0
		}
	}
	if !hangs {
		return 0
	}
	return depth
}

func kidsByHand(s impl.Scene, id int) []int {
	ids := []int{}
	for _, x := range s.Nodes {
		if x.Parent == id {
			ids = append(ids, x.Id)
		}
	}
	return ids
}

// Of right nodes with unlike Ids: whether they are a right scene.
func treeByClosure(s impl.Scene, above [][]bool) bool {
	for i, x := range s.Nodes {
		if depth := depthByClosure(s, above, i); depth < 1 || depth > 4 || x.Id == x.Parent {
			return false
		}
		for _, y := range s.Nodes {
			if y.Id == x.Parent && !y.Group {
				return false
			}
		}
	}
	return true
}

// All scenes of Groups with these Ids, each with each of these Parents.
func eachScene(ids []int, parents []int, visit func(s impl.Scene)) {
	total := 1
	for range ids {
		total *= len(parents)
	}
	for n := range total {
		s := impl.Scene{}
		for _, id := range ids {
			s.Nodes = append(s.Nodes, groupNode(id, parents[n%len(parents)]))
			n /= len(parents)
		}
		visit(s)
	}
}

// Right scenes of up to MaxNodes nodes, of many forms; those without kids are shapes in some; they stand in other orders than they hang.
func rightScenes() []impl.Scene {
	ids := []int{99, 1, 42, 7, 3, 98, 2, 50}
	scenes := []impl.Scene{{}}
	for seed := range 300 {
		s := impl.Scene{}
		depths := []int{}
		for i := range 1 + seed%8 {
			up := (seed*7+i*i*5+seed/9)%(i+1) - 1
			parent, depth := 0, 1
			if up >= 0 && depths[up] < 4 {
				parent, depth = ids[up], depths[up]+1
			}
			s.Nodes = append(s.Nodes, groupNode(ids[i], parent))
			depths = append(depths, depth)
		}
		for i, x := range s.Nodes {
			if seed%3 != 0 && len(kidsByHand(s, x.Id)) == 0 {
				s.Nodes[i] = shapeNode(x.Id, x.Parent)
			}
		}
		moved := slices.Concat(s.Nodes[seed/8%len(s.Nodes):], s.Nodes[:seed/8%len(s.Nodes)])
		scenes = append(scenes, s, turnedAround(s), impl.Scene{Nodes: moved})
	}
	return scenes
}

// A node with each thing of its own that makes it wrong.
func wrongNodes(id int, parent int) []impl.Node {
	nodes := []impl.Node{}
	for _, spoil := range []func(x *impl.Node){
		func(x *impl.Node) { x.Mat.A = turnLimit + 1 },
		func(x *impl.Node) { x.Mat.F = -impl.Far - 1 },
		func(x *impl.Node) { x.Path = impl.Path{Verbs: []int{impl.LineTo}, Points: dots(1)} },
		func(x *impl.Node) { x.Clip = impl.Path{Points: dots(1)} },
		func(x *impl.Node) { x.Width = -1 },
		func(x *impl.Node) { x.Width = 2049 },
		func(x *impl.Node) { x.Dashes = []int{1} },
		func(x *impl.Node) { x.Mode = 0 },
		func(x *impl.Node) { x.Mode = 6 },
		func(x *impl.Node) { x.Fade = -1 },
		func(x *impl.Node) { x.Fade = 256 },
		func(x *impl.Node) { x.Paint = impl.Paint{Kind: 3} },
	} {
		group, shape := groupNode(id, parent), shapeNode(id, parent)
		spoil(&group)
		spoil(&shape)
		nodes = append(nodes, group, shape)
	}
	unpainted, mixed := shapeNode(id, parent), shapeNode(id, parent)
	unpainted.Paint, mixed.Group = impl.Paint{}, true
	return append(nodes, unpainted, mixed, impl.Node{Id: id, Parent: parent})
}

func TestSceneConstants(t *testing.T) {
	if impl.MaxNodes != 8 || impl.MaxDepth != 4 {
		t.Errorf("MaxNodes %d and MaxDepth %d, want 8 and 4", impl.MaxNodes, impl.MaxDepth)
	}
}

func TestNodeOkOfRightNodes(t *testing.T) {
	checkNodeOk(t, groupNode(1, 0), true)
	checkNodeOk(t, shapeNode(1, 0), true)
	plain := groupNode(5, 6)
	plain.Group, plain.Paint = false, plainOf(0, 0, 0, 0)
	checkNodeOk(t, plain, true)
	checkNodeOk(t, impl.Node{}, false)
	checkNodeOk(t, impl.Node{Group: true}, false)
	checkNodeOk(t, impl.Node{Id: 1, Group: true, Mode: impl.Over}, true)
}

func TestNodeOkOfIds(t *testing.T) {
	for id := 1; id <= 99; id++ {
		checkNodeOk(t, groupNode(id, 0), true)
		checkNodeOk(t, shapeNode(id, 100-id), id != 50)
	}
	for _, wrong := range wrongIds {
		for _, other := range []int{0, 1, 50, 99} {
			checkNodeOk(t, groupNode(wrong, other), false)
			checkNodeOk(t, shapeNode(wrong, other), false)
			if wrong != 0 && other != 0 {
				checkNodeOk(t, groupNode(other, wrong), false)
				checkNodeOk(t, shapeNode(other, wrong), false)
			}
		}
		checkNodeOk(t, groupNode(wrong, wrong), false)
	}
}

func TestNodeOkOfParents(t *testing.T) {
	for parent := range 100 {
		checkNodeOk(t, groupNode(1, parent), parent != 1)
		checkNodeOk(t, groupNode(99, parent), parent != 99)
		checkNodeOk(t, shapeNode(17, parent), parent != 17)
		checkNodeOk(t, groupNode(parent, parent), false)
		checkNodeOk(t, shapeNode(parent, parent), false)
	}
	checkNodeOk(t, shapeNode(1, 100), false)
	checkNodeOk(t, shapeNode(1, -1), false)
}

func TestNodeOkOfMats(t *testing.T) {
	for _, right := range []impl.Node{groupNode(1, 2), shapeNode(1, 2)} {
		for place := range 6 {
			limit := turnLimit
			if place > 3 {
				limit = impl.Far
			}
			for _, n := range []int{math.MinInt, -limit - 1, -limit, -1, 0, 1, limit, limit + 1, math.MaxInt} {
				x := right
				*fieldOf(&x.Mat, place) = n
				checkNodeOk(t, x, -limit <= n && n <= limit)
			}
		}
		still := right
		still.Mat = impl.Mat{}
		checkNodeOk(t, still, true)
	}
}

func TestNodeOkOfPaths(t *testing.T) {
	for _, p := range rightPaths() {
		x := shapeNode(3, 0)
		x.Path = p
		checkNodeOk(t, x, true)
		x.Width, x.Dashes, x.Even = 0, nil, false
		checkNodeOk(t, x, true)
	}
	for _, p := range wrongPaths() {
		shape, group := shapeNode(3, 0), groupNode(3, 0)
		shape.Path, group.Path = p, p
		checkNodeOk(t, shape, false)
		checkNodeOk(t, group, false)
	}
}

func TestNodeOkOfClips(t *testing.T) {
	for _, right := range []impl.Node{groupNode(9, 8), shapeNode(9, 8)} {
		for _, p := range rightPaths() {
			right.Clip = p
			checkNodeOk(t, right, true)
		}
		for _, p := range wrongPaths() {
			right.Clip = p
			checkNodeOk(t, right, false)
		}
	}
}

func TestNodeOkOfWidths(t *testing.T) {
	for _, width := range append(append([]int{0}, rightWidths...), wrongWidths...) {
		x := shapeNode(4, 0)
		x.Width = width
		checkNodeOk(t, x, width >= 0 && width <= 2048)
		x.Path, x.Dashes = impl.Path{}, nil
		checkNodeOk(t, x, width >= 0 && width <= 2048)
	}
}

func TestNodeOkOfDashes(t *testing.T) {
	for _, dashes := range [][]int{nil, {}, {1, 1}, {20000, 20000}, {1, 20000, 3, 4}, {5, 5, 5, 5}} {
		x := shapeNode(4, 0)
		x.Dashes = dashes
		checkNodeOk(t, x, true)
		x.Width = 0
		checkNodeOk(t, x, true)
	}
	for _, dashes := range wrongDashLists() {
		shape, group := shapeNode(4, 0), groupNode(4, 0)
		shape.Dashes, group.Dashes = dashes, dashes
		checkNodeOk(t, shape, false)
		checkNodeOk(t, group, false)
		shape.Width = 0
		checkNodeOk(t, shape, false)
	}
}

func TestNodeOkOfModesAndFades(t *testing.T) {
	for _, right := range []impl.Node{groupNode(4, 0), shapeNode(4, 0)} {
		for _, mode := range append(slices.Clone(allModes), wrongModes...) {
			x := right
			x.Mode = mode
			checkNodeOk(t, x, slices.Contains(allModes, mode))
		}
		for fade := range 256 {
			x := right
			x.Fade = fade
			checkNodeOk(t, x, true)
		}
		for _, fade := range wrongParts {
			x := right
			x.Fade = fade
			checkNodeOk(t, x, false)
		}
	}
}

func TestNodeOkOfPaints(t *testing.T) {
	for _, p := range rightPaints() {
		shape, group := shapeNode(4, 0), groupNode(4, 0)
		shape.Paint, group.Paint = p, p
		checkNodeOk(t, shape, true)
		checkNodeOk(t, group, false)
	}
	for _, p := range append(wrongPaints(), impl.Paint{}) {
		shape, group := shapeNode(4, 0), groupNode(4, 0)
		shape.Paint, group.Paint = p, p
		checkNodeOk(t, shape, false)
		checkNodeOk(t, group, p == impl.Paint{})
	}
}

// Each thing that a Group must be without, alone.
func TestNodeOkOfGroupsWithMore(t *testing.T) {
	for _, add := range []func(x *impl.Node){
		func(x *impl.Node) { x.Paint = plainOf(1, 2, 3, 4) },
		func(x *impl.Node) { x.Paint = plainOf(0, 0, 0, 0) },
		func(x *impl.Node) { x.Paint = slopeFrom(0, 0, 300, 400) },
		func(x *impl.Node) { x.Paint.Kind = impl.Slope },
		func(x *impl.Node) { x.Paint.First.R = 1 },
		func(x *impl.Node) { x.Paint.Last.A = 1 },
		func(x *impl.Node) { x.Paint.From.X = 1 },
		func(x *impl.Node) { x.Paint.To.Y = 1 },
		func(x *impl.Node) { x.Path = impl.RectPath(impl.Box{X1: 1, Y1: 1}) },
		func(x *impl.Node) { x.Path = impl.Path{Verbs: []int{impl.MoveTo}, Points: dots(1)} },
		func(x *impl.Node) { x.Path = impl.Path{Points: dots(1)} },
		func(x *impl.Node) { x.Width = 1 },
		func(x *impl.Node) { x.Width = 2048 },
		func(x *impl.Node) { x.Dashes = []int{1, 1} },
		func(x *impl.Node) { x.Dashes = []int{5, 6, 7, 8} },
		func(x *impl.Node) { x.Even = true },
	} {
		x := groupNode(12, 34)
		add(&x)
		checkNodeOk(t, x, false)
		x.Mat, x.Clip = impl.Shift(5, 6), impl.RectPath(impl.Box{X1: 9, Y1: 9})
		checkNodeOk(t, x, false)
	}
}

func TestNodeOkOfGroupsOfTheirOwn(t *testing.T) {
	x := groupNode(12, 34)
	x.Mat, x.Clip, x.Mode, x.Fade = quarter, impl.RectPath(impl.Box{X0: -9, X1: 9, Y1: 9}), impl.Out, 0
	checkNodeOk(t, x, true)
	// Lists that are empty are without anything, nil or not, whatever room is behind them.
	x.Path, x.Dashes = impl.Path{Verbs: []int{}, Points: []impl.Point{}}, []int{}
	checkNodeOk(t, x, true)
	x.Path, x.Dashes = impl.Path{Verbs: make([]int, 0, 5), Points: dots(3)[:0]}, []int{1, 2, 3}[:0]
	checkNodeOk(t, x, true)
}

func TestNodeOkOfShapesWithoutAnything(t *testing.T) {
	x := impl.Node{Id: 2, Mat: impl.Still(), Mode: impl.Plus, Paint: plainOf(1, 2, 3, 4)}
	checkNodeOk(t, x, true)
	x.Even, x.Width, x.Dashes = true, 7, []int{3, 3}
	checkNodeOk(t, x, true)
	x.Paint = impl.Paint{}
	checkNodeOk(t, x, false)
	bare := impl.Node{Id: 2, Mat: impl.Still(), Mode: impl.Plus}
	checkNodeOk(t, bare, false)
	bare.Group = true
	checkNodeOk(t, bare, true)
}

func TestWrongNodesAreWrong(t *testing.T) {
	for _, x := range wrongNodes(5, 0) {
		checkNodeOk(t, x, false)
	}
}

func TestSceneOkOfEachCount(t *testing.T) {
	checkSceneOk(t, impl.Scene{}, true)
	checkSceneOk(t, impl.Scene{Nodes: []impl.Node{}}, true)
	for count := 1; count <= 20; count++ {
		flat, shapes, below := impl.Scene{}, impl.Scene{}, impl.Scene{}
		for i := range count {
			flat.Nodes = append(flat.Nodes, groupNode(i+1, 0))
			shapes.Nodes = append(shapes.Nodes, shapeNode(99-i, 0))
			below.Nodes = append(below.Nodes, groupNode(i+1, min(i, 1)))
		}
		for _, s := range []impl.Scene{flat, shapes, below, turnedAround(below)} {
			checkSceneOk(t, s, count <= 8)
		}
	}
}

func TestSceneOkPassesOverTheRoomBehind(t *testing.T) {
	room := slices.Concat(chainOf(4).Nodes, []impl.Node{{}, groupNode(1, 0), groupNode(9, 9)})
	if !impl.SceneOk(impl.Scene{Nodes: room[:4]}) {
		t.Error("wrong nodes behind the list make it wrong")
	}
	// A Parent that stands only in the room behind the list is no node.
	room = []impl.Node{groupNode(2, 1), groupNode(1, 0)}
	if impl.SceneOk(impl.Scene{Nodes: room[:1]}) {
		t.Error("a Parent behind the list counts")
	}
}

func TestSceneOkLooksAtEachNode(t *testing.T) {
	for _, count := range []int{1, 2, 3, 5, 8} {
		s := impl.Scene{}
		for i := range count {
			s.Nodes = append(s.Nodes, groupNode(i+1, 0))
		}
		for _, place := range threePlaces(s.Nodes) {
			checkSceneOk(t, withNode(s, place, shapeNode(place+1, 0)), true)
			for _, wrong := range wrongNodes(place+1, 0) {
				checkSceneOk(t, withNode(s, place, wrong), false)
			}
			for _, id := range wrongIds {
				checkSceneOk(t, withNode(s, place, groupNode(id, 0)), false)
			}
		}
	}
}

func TestSceneOkOfTwoNodesOfOneId(t *testing.T) {
	for count := 2; count <= 8; count++ {
		s := impl.Scene{}
		for i := range count {
			s.Nodes = append(s.Nodes, groupNode(10+i, 0))
		}
		checkSceneOk(t, s, true)
		for i := range count {
			for j := range count {
				if i != j {
					checkSceneOk(t, withNode(s, i, groupNode(10+j, 0)), false)
					checkSceneOk(t, withNode(s, i, shapeNode(10+j, 0)), false)
				}
			}
		}
	}
	checkSceneOk(t, groupsOf(1, 0, 2, 1, 2, 1), false)
	checkSceneOk(t, groupsOf(1, 0, 2, 1, 2, 0), false)
	checkSceneOk(t, groupsOf(1, 0, 1, 0, 2, 1), false)
}

func TestSceneOkOfParents(t *testing.T) {
	shape, below := shapeNode(1, 0), shapeNode(2, 1)
	for _, c := range []struct {
		s    impl.Scene
		want bool
	}{
		{groupsOf(1, 0, 2, 1), true}, {groupsOf(2, 1, 1, 0), true}, {groupsOf(1, 0, 3, 2, 2, 1), true}, {groupsOf(3, 2, 2, 1, 1, 0), true},
		{groupsOf(1, 2), false}, {groupsOf(1, 0, 2, 3), false}, {groupsOf(1, 3, 2, 0), false}, {groupsOf(1, 99), false}, {groupsOf(1, 0, 2, 1, 3, 4), false},
		{impl.Scene{Nodes: []impl.Node{groupNode(1, 0), below}}, true}, {impl.Scene{Nodes: []impl.Node{below, groupNode(1, 0)}}, true},
		{impl.Scene{Nodes: []impl.Node{shape, below}}, false}, {impl.Scene{Nodes: []impl.Node{below, shape}}, false},
		{impl.Scene{Nodes: []impl.Node{shape, groupNode(2, 1)}}, false}, {impl.Scene{Nodes: []impl.Node{groupNode(2, 1), shape}}, false},
		{impl.Scene{Nodes: []impl.Node{groupNode(3, 0), shapeNode(1, 3), shapeNode(2, 3)}}, true},
		{impl.Scene{Nodes: []impl.Node{groupNode(3, 0), shapeNode(1, 3), shapeNode(2, 1)}}, false},
		{groupsOf(1, 1), false}, {groupsOf(1, 0, 2, 2), false}, {groupsOf(1, -1), false}, {groupsOf(1, 100), false},
	} {
		checkSceneOk(t, c.s, c.want)
	}
}

func TestSceneOkOfEachDepth(t *testing.T) {
	for deep := 1; deep <= 8; deep++ {
		chain := chainOf(deep)
		checkSceneOk(t, chain, deep <= 4)
		checkSceneOk(t, turnedAround(chain), deep <= 4)
		leaf := withNode(chain, deep-1, shapeNode(deep, deep-1))
		checkSceneOk(t, leaf, deep <= 4)
		checkSceneOk(t, turnedAround(leaf), deep <= 4)
	}
	// Eight nodes, the deepest at the limit, or one past it.
	checkSceneOk(t, groupsOf(1, 0, 2, 1, 3, 2, 4, 3, 5, 0, 6, 5, 7, 6, 8, 7), true)
	checkSceneOk(t, groupsOf(1, 0, 2, 1, 3, 2, 4, 3, 5, 3, 6, 3, 7, 3, 8, 3), true)
	checkSceneOk(t, groupsOf(1, 0, 2, 1, 3, 2, 4, 3, 5, 3, 6, 3, 7, 3, 8, 4), false)
	checkSceneOk(t, groupsOf(8, 4, 7, 0, 6, 0, 5, 0, 4, 3, 3, 2, 2, 1, 1, 0), false)
}

// Each a ring, or with one; the nodes are right by themselves, but for the last.
func ringScenes() []impl.Scene {
	return []impl.Scene{
		groupsOf(1, 2, 2, 1), groupsOf(2, 1, 1, 2), groupsOf(1, 2, 2, 3, 3, 1), groupsOf(1, 3, 2, 1, 3, 2),
		groupsOf(1, 2, 2, 1, 3, 0), groupsOf(3, 0, 4, 3, 1, 2, 2, 1), groupsOf(1, 2, 2, 1, 3, 1), groupsOf(3, 2, 1, 2, 2, 1),
		groupsOf(4, 3, 3, 1, 1, 2, 2, 1), groupsOf(1, 2, 2, 3, 3, 1, 4, 3, 5, 4, 6, 0), groupsOf(1, 2, 2, 3, 3, 4, 4, 1),
		groupsOf(1, 2, 2, 1, 3, 4, 4, 3), groupsOf(1, 8, 2, 1, 3, 2, 4, 3, 5, 4, 6, 5, 7, 6, 8, 7), groupsOf(1, 1),
	}
}

func TestSceneOkOfRings(t *testing.T) {
	for _, s := range ringScenes() {
		checkSceneOk(t, s, false)
		checkSceneOk(t, turnedAround(s), false)
		shape := impl.Scene{Nodes: append(slices.Clone(s.Nodes), shapeNode(50, s.Nodes[0].Id))}
		checkSceneOk(t, shape, false)
	}
}

// Every way to hang up to five Groups, on each other, on themselves, on the scene and on nothing.
func TestScenesOfEveryForm(t *testing.T) {
	for count := range 6 {
		ids := []int{3, 98, 1, 40, 99}[:count]
		eachScene(ids, append([]int{0, 77}, ids...), func(s impl.Scene) {
			above := aboveByClosure(s)
			if got, want := impl.SceneOk(s), treeByClosure(s, above); got != want {
				t.Errorf("SceneOk(%v) = %v, want %v", s, got, want)
			}
			for place, id := range ids {
				if got := impl.NodeAt(s, id); got != place {
					t.Errorf("NodeAt(%v, %d) = %d, want %d", s, id, got, place)
				}
				if got, want := impl.KidsOf(s, id), kidsByHand(s, id); !slices.Equal(got, want) {
					t.Errorf("KidsOf(%v, %d) = %v, want %v", s, id, got, want)
				}
				if got, want := impl.UnderOf(s, id), underByClosure(s, above, place); !slices.Equal(got, want) {
					t.Errorf("UnderOf(%v, %d) = %v, want %v", s, id, got, want)
				}
				if got, want := impl.DepthOf(s, id), depthByClosure(s, above, place); got != want {
					t.Errorf("DepthOf(%v, %d) = %d, want %d", s, id, got, want)
				}
			}
		})
	}
}

// Every three nodes, some of them Groups.
func TestSceneOkOfGroupsAndShapes(t *testing.T) {
	ids := []int{5, 6, 7}
	eachScene(ids, append([]int{0, 8}, ids...), func(s impl.Scene) {
		for flags := range 8 {
			mixed := s
			for place, x := range s.Nodes {
				if flags>>place&1 == 1 {
					mixed = withNode(mixed, place, shapeNode(x.Id, x.Parent))
				}
			}
			checkSceneOk(t, mixed, treeByClosure(mixed, aboveByClosure(mixed)))
		}
	})
}

func TestNodeAtEachPlace(t *testing.T) {
	for _, s := range rightScenes() {
		for place, x := range s.Nodes {
			checkNodeAt(t, s, x.Id, place)
		}
		for _, id := range strangeIds {
			checkNodeAt(t, s, id, -1)
		}
	}
	for _, id := range append(strangeIds, 1, 2, 99) {
		checkNodeAt(t, impl.Scene{}, id, -1)
		checkNodeAt(t, impl.Scene{Nodes: []impl.Node{}}, id, -1)
	}
}

func TestNodeAtIsNoParentsPlace(t *testing.T) {
	s := groupsOf(2, 5, 3, 6, 4, 2)
	checkNodeAt(t, s, 5, -1)
	checkNodeAt(t, s, 6, -1)
	checkNodeAt(t, s, 2, 0)
	checkNodeAt(t, s, 4, 2)
}

func TestNodeAtOfScenesThatAreNotRight(t *testing.T) {
	s := groupsOf(4, 0, 5, 0, 5, 4, 4, 5, 6, 0, 5, 0)
	checkNodeAt(t, s, 4, 0)
	checkNodeAt(t, s, 5, 1)
	checkNodeAt(t, s, 6, 4)
	checkNodeAt(t, s, 7, -1)
	for _, id := range wrongIds {
		odd := groupsOf(1, 0, id, id, id, 1)
		checkNodeAt(t, odd, id, 1)
		checkNodeAt(t, odd, 1, 0)
	}
	for _, wrong := range wrongNodes(9, 0) {
		checkNodeAt(t, withNode(groupsOf(1, 0, 2, 0), 1, wrong), 9, 1)
	}
	long := chainOf(300)
	for _, id := range []int{1, 8, 9, 99, 100, 300} {
		checkNodeAt(t, long, id, id-1)
	}
	checkNodeAt(t, long, 301, -1)
	for _, ring := range ringScenes() {
		for place, x := range ring.Nodes {
			checkNodeAt(t, ring, x.Id, place)
		}
	}
}

func TestNodeAtPassesOverTheRoomBehind(t *testing.T) {
	if got := impl.NodeAt(impl.Scene{Nodes: chainOf(4).Nodes[:2]}, 3); got != -1 {
		t.Errorf("a node behind the list is found at %d", got)
	}
}

func TestKidsOfWrittenOut(t *testing.T) {
	s := groupsOf(5, 1, 2, 0, 9, 1, 1, 0, 7, 2, 3, 1, 4, 0)
	checkKidsOf(t, s, 0, 2, 1, 4)
	checkKidsOf(t, s, 1, 5, 9, 3)
	checkKidsOf(t, s, 2, 7)
	for _, id := range []int{3, 4, 5, 7, 9, 6, 99, 100, -1, math.MinInt, math.MaxInt} {
		checkKidsOf(t, s, id)
	}
	checkKidsOf(t, impl.Scene{}, 0)
	checkKidsOf(t, impl.Scene{Nodes: []impl.Node{}}, 1)
	mixed := impl.Scene{Nodes: []impl.Node{shapeNode(8, 1), groupNode(1, 0), shapeNode(3, 0), shapeNode(2, 1)}}
	checkKidsOf(t, mixed, 0, 1, 3)
	checkKidsOf(t, mixed, 1, 8, 2)
	checkKidsOf(t, mixed, 3)
}

func TestKidsOfRightScenes(t *testing.T) {
	for _, s := range rightScenes() {
		for _, id := range append([]int{1, 2, 3, 7, 42, 50, 98, 99}, strangeIds...) {
			checkKidsOf(t, s, id, kidsByHand(s, id)...)
		}
	}
}

func TestKidsOfScenesThatAreNotRight(t *testing.T) {
	// Nodes of one Id are each told; a node that is its own Parent is its kid; a Parent need not be there.
	s := groupsOf(2, 1, 2, 1, 1, 0, 3, 3, 1, 2, 4, 8)
	checkKidsOf(t, s, 1, 2, 2)
	checkKidsOf(t, s, 2, 1)
	checkKidsOf(t, s, 3, 3)
	checkKidsOf(t, s, 8, 4)
	checkKidsOf(t, s, 0, 1)
	for _, id := range wrongIds {
		if id != 0 {
			checkKidsOf(t, groupsOf(1, id, id, 0, 2, id), id, 1, 2)
			checkKidsOf(t, groupsOf(1, id, id, 0, 2, id), 0, id)
		}
	}
	// A Parent that is no Group has its kids all the same.
	checkKidsOf(t, impl.Scene{Nodes: []impl.Node{shapeNode(1, 0), shapeNode(2, 1)}}, 1, 2)
	for _, wrong := range wrongNodes(9, 5) {
		checkKidsOf(t, impl.Scene{Nodes: []impl.Node{wrong}}, 5, 9)
	}
	many := impl.Scene{}
	want := []int{}
	for i := range 300 {
		many.Nodes = append(many.Nodes, groupNode(500-i, i%2))
		if i%2 == 1 {
			want = append(want, 500-i)
		}
	}
	checkKidsOf(t, many, 1, want...)
	for _, ring := range ringScenes() {
		for _, x := range ring.Nodes {
			checkKidsOf(t, ring, x.Id, kidsByHand(ring, x.Id)...)
		}
	}
}

func TestUnderOfWrittenOut(t *testing.T) {
	s := groupsOf(5, 1, 2, 0, 9, 5, 1, 0, 7, 2, 3, 9, 4, 0)
	checkUnderOf(t, s, 1, 5, 9, 1, 3)
	checkUnderOf(t, s, 5, 5, 9, 3)
	checkUnderOf(t, s, 9, 9, 3)
	checkUnderOf(t, s, 3, 3)
	checkUnderOf(t, s, 2, 2, 7)
	checkUnderOf(t, s, 7, 7)
	checkUnderOf(t, s, 4, 4)
	for _, id := range append(strangeIds, 6, 8, 99) {
		checkUnderOf(t, s, id)
		checkUnderOf(t, impl.Scene{}, id)
		checkUnderOf(t, impl.Scene{Nodes: []impl.Node{}}, id)
	}
	mixed := impl.Scene{Nodes: []impl.Node{shapeNode(8, 1), groupNode(1, 6), shapeNode(3, 0), shapeNode(2, 1), groupNode(6, 0)}}
	checkUnderOf(t, mixed, 6, 8, 1, 2, 6)
	checkUnderOf(t, mixed, 1, 8, 1, 2)
	checkUnderOf(t, mixed, 3, 3)
}

func TestUnderOfKidsAheadOfTheirParents(t *testing.T) {
	for deep := 1; deep <= 12; deep++ {
		chain := chainOf(deep)
		for id := 1; id <= deep; id++ {
			want := []int{}
			for below := id; below <= deep; below++ {
				want = append(want, below)
			}
			checkUnderOf(t, chain, id, want...)
			slices.Reverse(want)
			checkUnderOf(t, turnedAround(chain), id, want...)
		}
	}
}

func TestUnderOfRings(t *testing.T) {
	checkUnderOf(t, groupsOf(1, 2, 2, 1), 1, 1, 2)
	checkUnderOf(t, groupsOf(1, 2, 2, 1), 2, 1, 2)
	checkUnderOf(t, groupsOf(3, 2, 1, 3, 2, 1), 1, 3, 1, 2)
	checkUnderOf(t, groupsOf(1, 1), 1, 1)
	checkUnderOf(t, groupsOf(1, 1, 2, 1), 1, 1, 2)
	checkUnderOf(t, groupsOf(1, 1, 2, 1), 2, 2)
	// Below a ring; beside one.
	checkUnderOf(t, groupsOf(4, 3, 3, 1, 1, 2, 2, 1, 5, 0), 2, 4, 3, 1, 2)
	checkUnderOf(t, groupsOf(4, 3, 3, 1, 1, 2, 2, 1, 5, 0), 3, 4, 3)
	checkUnderOf(t, groupsOf(4, 3, 3, 1, 1, 2, 2, 1, 5, 0), 5, 5)
	for _, ring := range ringScenes() {
		for _, s := range []impl.Scene{ring, turnedAround(ring)} {
			above := aboveByClosure(s)
			for place, x := range s.Nodes {
				checkUnderOf(t, s, x.Id, underByClosure(s, above, place)...)
			}
			for _, id := range strangeIds {
				checkUnderOf(t, s, id)
			}
		}
	}
}

func TestUnderOfScenesThatAreNotRight(t *testing.T) {
	// A Parent that is not there has nobody under it, though it has kids.
	checkUnderOf(t, groupsOf(1, 9, 2, 1), 9)
	checkUnderOf(t, groupsOf(1, 9, 2, 1), 1, 1, 2)
	// Nodes of one Id go by it, all of them.
	checkUnderOf(t, groupsOf(1, 0, 2, 1, 2, 1, 3, 2), 1, 1, 2, 2, 3)
	checkUnderOf(t, groupsOf(1, 0, 2, 1, 2, 1, 3, 2), 2, 2, 2, 3)
	checkUnderOf(t, impl.Scene{Nodes: []impl.Node{shapeNode(1, 0), shapeNode(2, 1)}}, 1, 1, 2)
	for _, wrong := range wrongNodes(9, 5) {
		checkUnderOf(t, impl.Scene{Nodes: []impl.Node{wrong, groupNode(5, 0)}}, 5, 9, 5)
	}
	for _, id := range wrongIds {
		if id != 0 {
			checkUnderOf(t, groupsOf(1, id, 3, 0, id, 0, 2, 1), id, 1, id, 2)
		}
	}
}

// So many nodes that one that goes through all of them for each would not come to its end.
func TestUnderOfVeryManyNodes(t *testing.T) {
	const many = 200000
	chain := chainOf(many)
	if got := len(impl.UnderOf(chain, 1)); got != many {
		t.Errorf("%d nodes under the first of %d", got, many)
	}
	if got := len(impl.UnderOf(turnedAround(chain), many/2)); got != many/2+1 {
		t.Errorf("%d nodes under the middle one of %d", got, many)
	}
	chain.Nodes[0].Parent = many
	if got := len(impl.UnderOf(chain, 77)); got != many {
		t.Errorf("%d nodes of a ring of %d", got, many)
	}
	if got := impl.DepthOf(chain, 77); got != 0 {
		t.Errorf("a node of a ring is %d deep", got)
	}
}

func TestDepthOfEachDepth(t *testing.T) {
	for deep := 1; deep <= 20; deep++ {
		chain := chainOf(deep)
		for id := 1; id <= deep; id++ {
			want := id
			if id > 8 {
				want = 0
			}
			checkDepthOf(t, chain, id, want)
			checkDepthOf(t, turnedAround(chain), id, want)
		}
		for _, id := range append(strangeIds, deep+1) {
			checkDepthOf(t, chain, id, 0)
		}
	}
	for _, id := range append(strangeIds, 1, 99) {
		checkDepthOf(t, impl.Scene{}, id, 0)
		checkDepthOf(t, impl.Scene{Nodes: []impl.Node{}}, id, 0)
	}
}

func TestDepthOfWrittenOut(t *testing.T) {
	s := groupsOf(5, 1, 2, 0, 9, 5, 1, 0, 7, 2, 3, 9, 4, 0)
	for id, want := range map[int]int{1: 1, 2: 1, 4: 1, 5: 2, 7: 2, 9: 3, 3: 4, 6: 0, 8: 0, 0: 0, -1: 0} {
		checkDepthOf(t, s, id, want)
	}
	mixed := impl.Scene{Nodes: []impl.Node{shapeNode(8, 1), groupNode(1, 6), shapeNode(3, 0), groupNode(6, 0)}}
	for id, want := range map[int]int{8: 3, 1: 2, 3: 1, 6: 1} {
		checkDepthOf(t, mixed, id, want)
	}
}

func TestDepthOfWhatHangsFromNothing(t *testing.T) {
	checkDepthOf(t, groupsOf(1, 9), 1, 0)
	checkDepthOf(t, groupsOf(1, 9), 9, 0)
	s := groupsOf(1, 9, 2, 1, 3, 2, 4, 0, 5, 4)
	for id, want := range map[int]int{1: 0, 2: 0, 3: 0, 4: 1, 5: 2, 9: 0} {
		checkDepthOf(t, s, id, want)
		checkDepthOf(t, turnedAround(s), id, want)
	}
	for _, parent := range wrongIds {
		if parent != 0 {
			checkDepthOf(t, groupsOf(1, parent, 2, 1), 1, 0)
			checkDepthOf(t, groupsOf(1, parent, 2, 1), 2, 0)
		}
	}
}

func TestDepthOfRings(t *testing.T) {
	for _, ring := range ringScenes() {
		for _, s := range []impl.Scene{ring, turnedAround(ring)} {
			above := aboveByClosure(s)
			for place, x := range s.Nodes {
				checkDepthOf(t, s, x.Id, depthByClosure(s, above, place))
			}
		}
	}
	checkDepthOf(t, groupsOf(1, 2, 2, 1), 1, 0)
	checkDepthOf(t, groupsOf(1, 2, 2, 3, 3, 1), 2, 0)
	checkDepthOf(t, groupsOf(1, 2, 2, 1, 3, 1), 3, 0)
	checkDepthOf(t, groupsOf(1, 1), 1, 0)
	checkDepthOf(t, groupsOf(1, 2, 2, 1, 3, 0), 3, 1)
}

func TestDepthOfScenesThatAreNotRight(t *testing.T) {
	checkDepthOf(t, impl.Scene{Nodes: []impl.Node{shapeNode(1, 0), shapeNode(2, 1)}}, 2, 2)
	// Of two nodes of one Id the first one counts, as for NodeAt.
	checkDepthOf(t, groupsOf(1, 0, 2, 1, 1, 2, 3, 1), 1, 1)
	checkDepthOf(t, groupsOf(1, 0, 2, 1, 1, 2, 3, 1), 3, 2)
	checkDepthOf(t, groupsOf(4, 0, 1, 4, 1, 0, 3, 1), 3, 3)
	for _, wrong := range wrongNodes(9, 5) {
		checkDepthOf(t, impl.Scene{Nodes: []impl.Node{wrong, groupNode(5, 0)}}, 9, 2)
	}
	for _, id := range wrongIds {
		if id != 0 {
			checkDepthOf(t, groupsOf(id, 0, 1, id), 1, 2)
		}
	}
}

func TestRightScenesAreRight(t *testing.T) {
	deepest, most := 0, 0
	for _, s := range rightScenes() {
		checkSceneOk(t, s, true)
		most = max(most, len(s.Nodes))
		for _, x := range s.Nodes {
			deepest = max(deepest, impl.DepthOf(s, x.Id))
		}
	}
	if deepest != 4 || most != 8 {
		t.Errorf("the deepest node is %d deep, the greatest scene has %d nodes, want 4 and 8", deepest, most)
	}
}

func TestPromise15NodesBelowAreBelow(t *testing.T) {
	for _, s := range rightScenes() {
		for _, x := range s.Nodes {
			under := impl.UnderOf(s, x.Id)
			// In the order of Nodes, and no two alike.
			places := []int{}
			for _, id := range under {
				places = append(places, impl.NodeAt(s, id))
			}
			if !slices.IsSorted(places) || len(slices.Compact(places)) != len(under) || slices.Contains(places, -1) {
				t.Errorf("UnderOf(%v, %d) = %v, at the places %v", s, x.Id, under, places)
			}
			for _, y := range s.Nodes {
				belongs := y.Id == x.Id || slices.Contains(under, y.Parent)
				if slices.Contains(under, y.Id) != belongs {
					t.Errorf("%d in UnderOf(%v, %d) = %v: want %v", y.Id, s, x.Id, under, belongs)
				}
				if y.Id != x.Id && belongs && impl.DepthOf(s, y.Id) <= impl.DepthOf(s, x.Id) {
					t.Errorf("%d is below %d, but not deeper in %v", y.Id, x.Id, s)
				}
			}
		}
	}
}

func TestPromise15DepthsAreOneMoreThanTheirParents(t *testing.T) {
	for _, s := range rightScenes() {
		for _, x := range s.Nodes {
			got := impl.DepthOf(s, x.Id)
			if got != impl.DepthOf(s, x.Parent)+1 || got < 1 || got > impl.MaxDepth {
				t.Errorf("DepthOf(%v, %d) = %d, its Parent's %d", s, x.Id, got, impl.DepthOf(s, x.Parent))
			}
			for _, kid := range impl.KidsOf(s, x.Id) {
				if impl.DepthOf(s, kid) != got+1 {
					t.Errorf("DepthOf(%v, %d) = %d, of its kid %d %d", s, x.Id, got, kid, impl.DepthOf(s, kid))
				}
			}
		}
	}
}

// Each node is under just those that are above it, and under itself: as many as it is deep.
func TestPromise15AsManyAboveAsDeep(t *testing.T) {
	for _, s := range rightScenes() {
		for _, x := range s.Nodes {
			count := 0
			for _, y := range s.Nodes {
				if slices.Contains(impl.UnderOf(s, y.Id), x.Id) {
					count++
				}
			}
			if got := impl.DepthOf(s, x.Id); got != count {
				t.Errorf("DepthOf(%v, %d) = %d, but it is under %d nodes", s, x.Id, got, count)
			}
		}
	}
}
