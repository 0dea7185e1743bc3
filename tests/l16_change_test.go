package tests

import (
	"math"
	"reflect"
	"slices"
	"testing"

	"loop.example/g00190/impl"
)

// A change with all but its scene.
type changeOf func(s impl.Scene) (impl.Scene, int)

func creating(x impl.Node) changeOf {
	return func(s impl.Scene) (impl.Scene, int) { return impl.CreateNode(s, x) }
}

func dropping(id int) changeOf {
	return func(s impl.Scene) (impl.Scene, int) { return impl.DropNode(s, id) }
}

func placing(id int, parent int, behind int) changeOf {
	return func(s impl.Scene) (impl.Scene, int) { return impl.PlaceNode(s, id, parent, behind) }
}

func setting(x impl.Node) changeOf {
	return func(s impl.Scene) (impl.Scene, int) { return impl.SetNode(s, x) }
}

func listless(x impl.Node) impl.Node {
	x.Path, x.Clip, x.Dashes = impl.Path{}, impl.Path{}, nil
	return x
}

func sameNode(a impl.Node, b impl.Node) bool {
	lists := samePath(a.Path, b.Path) && samePath(a.Clip, b.Clip) && slices.Equal(a.Dashes, b.Dashes)
	return lists && reflect.DeepEqual(listless(a), listless(b))
}

func sameScene(a impl.Scene, b impl.Scene) bool {
	return slices.EqualFunc(a.Nodes, b.Nodes, sameNode)
}

// The lists of numbers and the lists of points in a scene, in one order.
func listsOf(s impl.Scene) ([][]int, [][]impl.Point) {
	numbers, points := [][]int{}, [][]impl.Point{}
	for _, x := range s.Nodes {
		numbers = append(numbers, x.Path.Verbs, x.Dashes, x.Clip.Verbs)
		points = append(points, x.Path.Points, x.Clip.Points)
	}
	return numbers, points
}

// Writes a mark of its own into each list, up to the end of its room, and then asks whether all of them are still there.
func checkOwnLists(t *testing.T, name string, s impl.Scene) {
	t.Helper()
	numbers, points := listsOf(s)
	for i, list := range numbers {
		overwrite(list, 1000+i)
	}
	for i, list := range points {
		overwrite(list, impl.Point{X: 2000 + i})
	}
	for i, list := range numbers {
		if slices.ContainsFunc(list, func(n int) bool { return n != 1000+i }) {
			t.Errorf("%s: the list of numbers %d shares memory with another one", name, i)
		}
	}
	for i, list := range points {
		if slices.ContainsFunc(list, func(p impl.Point) bool { return p.X != 2000+i }) {
			t.Errorf("%s: the list of points %d shares memory with another one", name, i)
		}
	}
	overwrite(s.Nodes, spareNode)
}

// What is written into the scene that came must not come to the one that was handed in, nor into the next answer.
func checkChange(t *testing.T, name string, change changeOf, s impl.Scene, want impl.Scene, wantCode int) {
	t.Helper()
	roomy := roomyScene(s)
	for range 2 {
		got, code := change(roomy)
		if code != wantCode || !sameScene(got, want) {
			t.Errorf("%s of %v = %v, %d, want %v, %d", name, s, got, code, want, wantCode)
		}
		checkOwnLists(t, name, got)
	}
	checkLeft(t, name, roomy, s)
}

func checkCreate(t *testing.T, s impl.Scene, x impl.Node, want impl.Scene, wantCode int) {
	t.Helper()
	roomy := roomyNode(x)
	checkChange(t, "CreateNode", creating(roomy), s, want, wantCode)
	checkNodeLeft(t, "CreateNode", roomy, x)
}

func checkDrop(t *testing.T, s impl.Scene, id int, want impl.Scene, wantCode int) {
	t.Helper()
	checkChange(t, "DropNode", dropping(id), s, want, wantCode)
}

func checkPlace(t *testing.T, s impl.Scene, id int, parent int, behind int, want impl.Scene, wantCode int) {
	t.Helper()
	checkChange(t, "PlaceNode", placing(id, parent, behind), s, want, wantCode)
}

func checkSet(t *testing.T, s impl.Scene, x impl.Node, want impl.Scene, wantCode int) {
	t.Helper()
	roomy := roomyNode(x)
	checkChange(t, "SetNode", setting(roomy), s, want, wantCode)
	checkNodeLeft(t, "SetNode", roomy, x)
}

func checkNodeLeft(t *testing.T, name string, handed impl.Node, x impl.Node) {
	t.Helper()
	if !reflect.DeepEqual(wholeNode(handed), wholeNode(roomyNode(x))) {
		t.Errorf("%s of %v wrote into its lists, or shares them: %v", name, x, wholeNode(handed))
	}
}

func sceneOf(nodes ...impl.Node) impl.Scene {
	return impl.Scene{Nodes: nodes}
}

func plusNode(s impl.Scene, x impl.Node) impl.Scene {
	return impl.Scene{Nodes: append(slices.Clone(s.Nodes), x)}
}

func placeByHand(s impl.Scene, id int) int {
	for place, x := range s.Nodes {
		if x.Id == id {
			return place
		}
	}
	return -1
}

func holdsByHand(s impl.Scene, parent int) bool {
	place := placeByHand(s, parent)
	return parent == 0 || place >= 0 && s.Nodes[place].Group
}

// Of a right scene and a right node.
func createdByHand(s impl.Scene, x impl.Node) (impl.Scene, int) {
	more := plusNode(s, x)
	switch {
	case placeByHand(s, x.Id) >= 0:
		return s, 3
	case !holdsByHand(s, x.Parent):
		return s, 2
	case len(s.Nodes) == 8:
		return s, 4
	case depthByClosure(more, aboveByClosure(more), len(s.Nodes)) > 4:
		return s, 5
	}
	return more, 0
}

// Of a right scene.
func droppedByHand(s impl.Scene, id int) (impl.Scene, int) {
	place := placeByHand(s, id)
	if place < 0 {
		return s, 2
	}
	above := aboveByClosure(s)
	rest := impl.Scene{}
	for i, x := range s.Nodes {
		if i != place && !above[i][place] {
			rest.Nodes = append(rest.Nodes, x)
		}
	}
	return rest, 0
}

// The nodes in their new order, whether they may stand so or not.
func orderedByHand(s impl.Scene, x impl.Node, behind int) impl.Scene {
	ordered := impl.Scene{}
	if behind == 0 {
		ordered.Nodes = append(ordered.Nodes, x)
	}
	for _, y := range s.Nodes {
		if y.Id != x.Id {
			ordered.Nodes = append(ordered.Nodes, y)
		}
		if y.Id == behind {
			ordered.Nodes = append(ordered.Nodes, x)
		}
	}
	return ordered
}

// Of a right scene.
func placedByHand(s impl.Scene, id int, parent int, behind int) (impl.Scene, int) {
	place := placeByHand(s, id)
	if place < 0 || !holdsByHand(s, parent) || behind == id || behind != 0 && placeByHand(s, behind) < 0 {
		return s, 2
	}
	if parent == id || parent != 0 && aboveByClosure(s)[placeByHand(s, parent)][place] {
		return s, 6
	}
	x := s.Nodes[place]
	x.Parent = parent
	placed := orderedByHand(s, x, behind)
	above := aboveByClosure(placed)
	for i := range placed.Nodes {
		if depthByClosure(placed, above, i) > 4 {
			return s, 5
		}
	}
	return placed, 0
}

// Of a right scene and a right node.
func setByHand(s impl.Scene, x impl.Node) (impl.Scene, int) {
	place := placeByHand(s, x.Id)
	if place < 0 {
		return s, 2
	}
	if !x.Group && len(kidsByHand(s, x.Id)) > 0 {
		return s, 1
	}
	x.Parent = s.Nodes[place].Parent
	return withNode(s, place, x), 0
}

// Scenes that are not right, each for a reason of its own.
func wrongScenes() []impl.Scene {
	tooMany := groupsOf(1, 0, 2, 0, 3, 0, 4, 0, 5, 0, 6, 0, 7, 0, 8, 0, 9, 0)
	scenes := []impl.Scene{
		groupsOf(1, 0, 1, 0), groupsOf(1, 0, 2, 1, 2, 0), groupsOf(1, 5), groupsOf(1, 0, 2, 5, 3, 1), groupsOf(0, 0), groupsOf(100, 0), groupsOf(-1, 0),
		groupsOf(1, 0, 2, 100), groupsOf(1, 0, 2, -1), sceneOf(shapeNode(1, 0), groupNode(2, 1)), sceneOf(shapeNode(3, 1), shapeNode(1, 0)),
		chainOf(5), turnedAround(chainOf(5)), chainOf(8), chainOf(9), chainOf(300), tooMany,
	}
	for _, wrong := range wrongNodes(2, 1) {
		scenes = append(scenes, sceneOf(groupNode(1, 0), wrong), sceneOf(wrong, groupNode(1, 0), shapeNode(3, 1)))
	}
	return append(scenes, ringScenes()...)
}

// A right scene of 7 nodes, all depths and both kinds in it: 1 holds 2 and 3, 3 holds 4, 4 holds the shape 5; 6 is a shape and 7 a Group, both of the scene.
func sevenNodes() impl.Scene {
	return sceneOf(shapeNode(2, 1), groupNode(1, 0), groupNode(4, 3), shapeNode(6, 0), shapeNode(5, 4), groupNode(3, 1), groupNode(7, 0))
}

func eightNodes() impl.Scene {
	return plusNode(sevenNodes(), groupNode(8, 4))
}

func TestChangeConstants(t *testing.T) {
	got := []int{impl.BadNode, impl.NoNode, impl.TakenId, impl.TooMany, impl.TooDeep, impl.RingMade}
	if !slices.Equal(got, []int{1, 2, 3, 4, 5, 6}) {
		t.Errorf("the codes are %v", got)
	}
	if !impl.SceneOk(sevenNodes()) || !impl.SceneOk(eightNodes()) {
		t.Error("the scenes of these tests are not right")
	}
	for _, s := range wrongScenes() {
		if impl.SceneOk(s) {
			t.Errorf("%v is right", s)
		}
	}
}

func TestCreateNodeBehindAllOthers(t *testing.T) {
	for _, x := range []impl.Node{groupNode(1, 0), shapeNode(99, 0)} {
		checkCreate(t, impl.Scene{}, x, sceneOf(x), 0)
		checkCreate(t, impl.Scene{Nodes: []impl.Node{}}, x, sceneOf(x), 0)
	}
	s := sceneOf(groupNode(5, 0), shapeNode(9, 5))
	checkCreate(t, s, shapeNode(1, 5), sceneOf(groupNode(5, 0), shapeNode(9, 5), shapeNode(1, 5)), 0)
	checkCreate(t, s, groupNode(1, 0), sceneOf(groupNode(5, 0), shapeNode(9, 5), groupNode(1, 0)), 0)
	checkCreate(t, s, shapeNode(99, 0), sceneOf(groupNode(5, 0), shapeNode(9, 5), shapeNode(99, 0)), 0)
}

func TestCreateNodeOfWrongScenes(t *testing.T) {
	for _, s := range wrongScenes() {
		for _, x := range []impl.Node{groupNode(60, 0), shapeNode(1, 0), shapeNode(61, 60), groupNode(5, 1), shapeNode(2, 99), {}} {
			checkCreate(t, s, x, s, impl.BadNode)
		}
	}
}

func TestCreateNodeOfWrongNodes(t *testing.T) {
	wrong := append(wrongNodes(9, 1), wrongNodes(2, 6)...)
	wrong = append(wrong, groupNode(9, 9), shapeNode(1, 1), impl.Node{})
	for _, id := range wrongIds {
		wrong = append(wrong, groupNode(id, 0), shapeNode(id, 1))
		if id != 0 {
			wrong = append(wrong, groupNode(9, id), shapeNode(1, id))
		}
	}
	for _, x := range wrong {
		for _, s := range []impl.Scene{{}, sevenNodes(), eightNodes()} {
			checkCreate(t, s, x, s, impl.BadNode)
		}
	}
}

func TestCreateNodeOfTakenIds(t *testing.T) {
	s := sevenNodes()
	for id := 1; id <= 7; id++ {
		checkCreate(t, s, groupNode(id, 0), s, impl.TakenId)
		checkCreate(t, s, shapeNode(id, 0), s, impl.TakenId)
	}
	for _, x := range s.Nodes {
		checkCreate(t, s, x, s, impl.TakenId)
	}
	checkCreate(t, s, groupNode(8, 0), plusNode(s, groupNode(8, 0)), 0)
}

func TestCreateNodeOfParents(t *testing.T) {
	s := sevenNodes()
	for parent := 1; parent <= 99; parent++ {
		for _, x := range []impl.Node{groupNode(50, parent), shapeNode(50, parent)} {
			switch parent {
			case 1, 3, 4, 7:
				checkCreate(t, s, x, plusNode(s, x), 0)
			case 50:
				checkCreate(t, s, x, s, impl.BadNode)
			default:
				checkCreate(t, s, x, s, impl.NoNode)
			}
		}
	}
	checkCreate(t, impl.Scene{}, shapeNode(2, 1), impl.Scene{}, impl.NoNode)
	checkCreate(t, s, shapeNode(50, 0), plusNode(s, shapeNode(50, 0)), 0)
}

func TestCreateNodeUpToMaxNodes(t *testing.T) {
	s := impl.Scene{}
	for id := 1; id <= 8; id++ {
		x := groupNode(id, id/2%2)
		checkCreate(t, s, x, plusNode(s, x), 0)
		s = plusNode(s, x)
	}
	for _, x := range []impl.Node{groupNode(9, 0), shapeNode(99, 0), shapeNode(9, 1)} {
		checkCreate(t, s, x, s, impl.TooMany)
		checkCreate(t, eightNodes(), x, eightNodes(), impl.TooMany)
	}
}

func TestCreateNodeUpToMaxDepth(t *testing.T) {
	for deep := range 5 {
		for _, chain := range []impl.Scene{chainOf(deep), turnedAround(chainOf(deep))} {
			for _, x := range []impl.Node{groupNode(70, deep), shapeNode(70, deep)} {
				if deep < 4 {
					checkCreate(t, chain, x, plusNode(chain, x), 0)
				} else {
					checkCreate(t, chain, x, chain, impl.TooDeep)
				}
			}
		}
	}
	s := plusNode(chainOf(4), groupNode(9, 3))
	checkCreate(t, s, shapeNode(8, 9), s, impl.TooDeep)
	checkCreate(t, s, shapeNode(8, 3), plusNode(s, shapeNode(8, 3)), 0)
}

// The first that is so is told: not the least code.
func TestCreateNodeOfSeveralFaults(t *testing.T) {
	seven, eight := sevenNodes(), eightNodes()
	bad := shapeNode(5, 77)
	bad.Fade = 256
	for _, c := range []struct {
		s    impl.Scene
		x    impl.Node
		code int
	}{
		{chainOf(9), bad, 1}, {chainOf(9), shapeNode(5, 77), 1}, {seven, bad, 1}, {eight, bad, 1},
		// The Id is there, and the Parent is none, or a shape.
		{seven, shapeNode(5, 77), 3}, {seven, groupNode(1, 2), 3}, {eight, shapeNode(5, 77), 3}, {eight, shapeNode(5, 6), 3},
		// The Id is there, there are 8, and it would be too deep.
		{eight, groupNode(3, 8), 3}, {eight, shapeNode(7, 0), 3},
		// The Parent is none, there are 8, and under that shape it would be too deep.
		{eight, groupNode(9, 77), 2}, {eight, shapeNode(9, 6), 2}, {eight, shapeNode(9, 5), 2}, {seven, shapeNode(9, 5), 2},
		// There are 8, and it would be too deep.
		{eight, groupNode(9, 8), 4}, {eight, shapeNode(9, 8), 4},
	} {
		checkCreate(t, c.s, c.x, c.s, c.code)
	}
}

func TestCreateNodeOfManyScenes(t *testing.T) {
	codes := map[int]int{}
	for i, s := range rightScenes() {
		for _, id := range []int{99, 42, 2, 60, 61} {
			for _, parent := range []int{0, 99, 1, 42, 7, 3, 98, 2, 50, 60} {
				x := shapeNode(id, parent)
				if i%2 == 0 {
					x = groupNode(id, parent)
				}
				if id == parent {
					continue
				}
				want, wantCode := createdByHand(s, x)
				got, code := impl.CreateNode(s, x)
				if code != wantCode || !sameScene(got, want) {
					t.Errorf("CreateNode(%v, %v) = %v, %d, want %v, %d", s, x, got, code, want, wantCode)
				}
				codes[code]++
			}
		}
	}
	checkAllSeen(t, "CreateNode", codes, 0, 2, 3, 4, 5)
}

func checkAllSeen(t *testing.T, name string, codes map[int]int, wanted ...int) {
	t.Helper()
	for _, code := range wanted {
		if codes[code] == 0 {
			t.Errorf("no %s of these came to the code %d", name, code)
		}
	}
}

func TestDropNodeOfWrongScenes(t *testing.T) {
	for _, s := range wrongScenes() {
		for _, id := range append([]int{1, 2, 3, 9, 99}, strangeIds...) {
			checkDrop(t, s, id, s, impl.BadNode)
		}
	}
}

func TestDropNodeThatIsNotThere(t *testing.T) {
	for _, s := range []impl.Scene{{}, {Nodes: []impl.Node{}}, groupsOf(1, 0), sevenNodes(), eightNodes()} {
		for _, id := range append([]int{9, 99}, strangeIds...) {
			checkDrop(t, s, id, s, impl.NoNode)
		}
	}
	checkDrop(t, impl.Scene{}, 1, impl.Scene{}, impl.NoNode)
}

func TestDropNodeWrittenOut(t *testing.T) {
	s := sevenNodes()
	two, one, four, six, five, three, seven := s.Nodes[0], s.Nodes[1], s.Nodes[2], s.Nodes[3], s.Nodes[4], s.Nodes[5], s.Nodes[6]
	checkDrop(t, s, 2, sceneOf(one, four, six, five, three, seven), 0)
	checkDrop(t, s, 6, sceneOf(two, one, four, five, three, seven), 0)
	checkDrop(t, s, 7, sceneOf(two, one, four, six, five, three), 0)
	checkDrop(t, s, 5, sceneOf(two, one, four, six, three, seven), 0)
	// With kids, and kids of those, ahead of their parent too.
	checkDrop(t, s, 4, sceneOf(two, one, six, three, seven), 0)
	checkDrop(t, s, 3, sceneOf(two, one, six, seven), 0)
	checkDrop(t, s, 1, sceneOf(six, seven), 0)
}

func TestDropNodeOfChains(t *testing.T) {
	for deep := 1; deep <= 4; deep++ {
		for id := 1; id <= deep; id++ {
			chain := chainOf(deep)
			checkDrop(t, chain, id, chainOf(id-1), 0)
			checkDrop(t, turnedAround(chain), id, turnedAround(chainOf(id-1)), 0)
			// All else stays, whatever stands between.
			beside := plusNode(turnedAround(chain), shapeNode(80, 0))
			checkDrop(t, beside, id, plusNode(turnedAround(chainOf(id-1)), shapeNode(80, 0)), 0)
		}
	}
	checkDrop(t, sceneOf(shapeNode(99, 0)), 99, impl.Scene{}, 0)
}

func TestDropNodeOfManyScenes(t *testing.T) {
	for _, s := range rightScenes() {
		for _, id := range []int{0, 99, 1, 42, 7, 3, 98, 2, 50, 60} {
			want, wantCode := droppedByHand(s, id)
			got, code := impl.DropNode(s, id)
			if code != wantCode || !sameScene(got, want) {
				t.Errorf("DropNode(%v, %d) = %v, %d, want %v, %d", s, id, got, code, want, wantCode)
			}
		}
	}
}

func TestPlaceNodeOfWrongScenes(t *testing.T) {
	for _, s := range wrongScenes() {
		for _, c := range [][3]int{{1, 0, 0}, {1, 1, 1}, {2, 1, 0}, {2, 0, 1}, {0, 0, 0}, {77, 78, 79}, {1, 2, 0}, {3, 0, 2}, {-1, -1, -1}} {
			checkPlace(t, s, c[0], c[1], c[2], s, impl.BadNode)
		}
	}
}

func TestPlaceNodeThatIsNotThere(t *testing.T) {
	for _, s := range []impl.Scene{{}, {Nodes: []impl.Node{}}, groupsOf(1, 0), sevenNodes(), eightNodes()} {
		for _, id := range append([]int{9, 99}, strangeIds...) {
			for _, c := range [][2]int{{0, 0}, {1, 0}, {0, 1}, {1, 1}, {id, id}, {id, 0}, {0, id}} {
				checkPlace(t, s, id, c[0], c[1], s, impl.NoNode)
			}
		}
	}
}

func TestPlaceNodeOfParentsThatAreNone(t *testing.T) {
	s := sevenNodes()
	for _, x := range s.Nodes {
		for _, parent := range append([]int{8, 9, 99, 2, 5, 6}, strangeIds...) {
			if parent != 0 {
				checkPlace(t, s, x.Id, parent, 0, s, impl.NoNode)
				checkPlace(t, s, x.Id, parent, 7, s, impl.NoNode)
			}
		}
	}
}

func TestPlaceNodeBehindWhatIsNone(t *testing.T) {
	s := sevenNodes()
	for _, x := range s.Nodes {
		for _, behind := range append([]int{8, 9, 99, x.Id}, strangeIds...) {
			if behind != 0 {
				checkPlace(t, s, x.Id, 0, behind, s, impl.NoNode)
				checkPlace(t, s, x.Id, x.Parent, behind, s, impl.NoNode)
			}
		}
	}
}

func TestPlaceNodeWrittenOut(t *testing.T) {
	a, b, c, d := groupNode(10, 0), shapeNode(20, 0), shapeNode(30, 10), groupNode(40, 0)
	s := sceneOf(a, b, c, d)
	// The order alone.
	checkPlace(t, s, 20, 0, 0, sceneOf(b, a, c, d), 0)
	checkPlace(t, s, 40, 0, 0, sceneOf(d, a, b, c), 0)
	checkPlace(t, s, 10, 0, 20, sceneOf(b, a, c, d), 0)
	checkPlace(t, s, 10, 0, 40, sceneOf(b, c, d, a), 0)
	checkPlace(t, s, 20, 0, 30, sceneOf(a, c, b, d), 0)
	checkPlace(t, s, 40, 0, 10, sceneOf(a, d, b, c), 0)
	checkPlace(t, s, 40, 0, 20, sceneOf(a, b, d, c), 0)
	checkPlace(t, s, 30, 10, 0, sceneOf(c, a, b, d), 0)
	checkPlace(t, s, 30, 10, 40, sceneOf(a, b, d, c), 0)
	// Behind its own kid, which stays where it is.
	checkPlace(t, s, 10, 0, 30, sceneOf(b, c, a, d), 0)
	// The Parent alone.
	checkPlace(t, s, 20, 10, 10, sceneOf(a, shapeNode(20, 10), c, d), 0)
	checkPlace(t, s, 30, 0, 20, sceneOf(a, b, shapeNode(30, 0), d), 0)
	checkPlace(t, s, 30, 40, 20, sceneOf(a, b, shapeNode(30, 40), d), 0)
	checkPlace(t, s, 10, 40, 0, sceneOf(groupNode(10, 40), b, c, d), 0)
	// Both.
	checkPlace(t, s, 10, 40, 40, sceneOf(b, c, d, groupNode(10, 40)), 0)
	checkPlace(t, s, 40, 10, 0, sceneOf(groupNode(40, 10), a, b, c), 0)
	checkPlace(t, s, 30, 40, 0, sceneOf(shapeNode(30, 40), a, b, d), 0)
	checkPlace(t, s, 20, 40, 40, sceneOf(a, c, d, shapeNode(20, 40)), 0)
}

func TestPlaceNodeWhereItStands(t *testing.T) {
	for _, s := range []impl.Scene{groupsOf(1, 0), sceneOf(shapeNode(99, 0)), sevenNodes(), turnedAround(eightNodes()), chainOf(4), turnedAround(chainOf(4))} {
		ahead := 0
		for _, x := range s.Nodes {
			checkPlace(t, s, x.Id, x.Parent, ahead, s, 0)
			ahead = x.Id
		}
	}
}

func TestPlaceNodeUnderItself(t *testing.T) {
	s := sevenNodes()
	for _, c := range [][2]int{{1, 1}, {1, 3}, {1, 4}, {3, 3}, {3, 4}, {4, 4}, {7, 7}} {
		for _, behind := range []int{0, 6, 2} {
			checkPlace(t, s, c[0], c[1], behind, s, impl.RingMade)
			checkPlace(t, turnedAround(s), c[0], c[1], behind, turnedAround(s), impl.RingMade)
		}
	}
	checkPlace(t, groupsOf(1, 0), 1, 1, 0, groupsOf(1, 0), impl.RingMade)
	// A shape holds nothing, itself neither.
	checkPlace(t, s, 6, 6, 0, s, impl.NoNode)
	checkPlace(t, sceneOf(shapeNode(1, 0)), 1, 1, 0, sceneOf(shapeNode(1, 0)), impl.NoNode)
}

// A chain of Groups is hung below another one: the deepest of its nodes tells.
func TestPlaceNodeUpToMaxDepth(t *testing.T) {
	for above := range 5 {
		for below := 1; below <= 4; below++ {
			s := chainOf(above)
			for i := range below {
				parent := 10 + i
				if i == 0 {
					parent = 0
				}
				s.Nodes = append(s.Nodes, groupNode(11+i, parent))
			}
			for _, each := range []impl.Scene{s, turnedAround(s)} {
				want, code := orderedByHand(each, groupNode(11, above), 0), 0
				if above+below > 4 {
					want, code = each, impl.TooDeep
				}
				checkPlace(t, each, 11, above, 0, want, code)
			}
		}
	}
}

func TestPlaceNodeOfWhatComesToLieTooDeep(t *testing.T) {
	s := sevenNodes()
	checkPlace(t, s, 7, 4, 3, sceneOf(s.Nodes[0], s.Nodes[1], s.Nodes[2], s.Nodes[3], s.Nodes[4], s.Nodes[5], groupNode(7, 4)), 0)
	// 3 holds 4, and that holds 5: below 7 they are just deep enough.
	checkPlace(t, s, 3, 7, 0, sceneOf(groupNode(3, 7), s.Nodes[0], s.Nodes[1], s.Nodes[2], s.Nodes[3], s.Nodes[4], s.Nodes[6]), 0)
	checkPlace(t, s, 1, 7, 0, s, impl.TooDeep)
	eight := eightNodes()
	checkPlace(t, eight, 6, 8, 0, eight, impl.TooDeep)
	checkPlace(t, eight, 5, 8, 0, eight, impl.TooDeep)
	checkPlace(t, eight, 7, 8, 7, eight, impl.NoNode)
	checkPlace(t, eight, 7, 8, 0, eight, impl.TooDeep)
	// Of two kids one alone lies deep; it stands first or last.
	for _, x := range []impl.Scene{groupsOf(1, 0, 2, 1, 3, 2, 4, 1, 5, 0, 6, 5), groupsOf(4, 1, 3, 2, 2, 1, 1, 0, 6, 5, 5, 0)} {
		checkPlace(t, x, 1, 6, 0, x, impl.TooDeep)
		checkPlace(t, x, 1, 5, 0, orderedByHand(x, groupNode(1, 5), 0), 0)
	}
	// It goes up: what is deep by now counts no more.
	chain := chainOf(4)
	checkPlace(t, chain, 3, 0, 0, groupsOf(3, 0, 1, 0, 2, 1, 4, 3), 0)
	checkPlace(t, chain, 4, 1, 1, groupsOf(1, 0, 4, 1, 2, 1, 3, 2), 0)
}

func TestPlaceNodeOfSeveralFaults(t *testing.T) {
	s := eightNodes()
	for _, c := range []struct{ id, parent, behind, code int }{
		// There is no such node, or behind is none, or the parent; and a ring would be made.
		{1, 1, 77, 2}, {1, 3, 1, 2}, {1, 1, 1, 2}, {3, 8, -1, 2}, {77, 77, 0, 2}, {6, 6, 6, 2}, {1, 5, 0, 2}, {1, 2, 0, 2}, {0, 1, 1, 2}, {77, 0, 77, 2},
		// There is none of these, and it would be too deep.
		{7, 8, 77, 2}, {7, 8, 7, 2}, {7, 5, 0, 2}, {77, 8, 0, 2},
		// A ring would be made, and what is below would be too deep.
		{1, 8, 0, 6}, {1, 4, 6, 6}, {3, 8, 1, 6}, {3, 4, 4, 6}, {4, 8, 5, 6}, {8, 8, 0, 6},
	} {
		checkPlace(t, s, c.id, c.parent, c.behind, s, c.code)
	}
	chain := chainOf(4)
	checkPlace(t, chain, 1, 4, 0, chain, impl.RingMade)
	checkPlace(t, chain, 2, 4, 3, chain, impl.RingMade)
}

func TestPlaceNodeOfManyScenes(t *testing.T) {
	codes := map[int]int{}
	for i, s := range rightScenes() {
		if i%4 != 0 {
			continue
		}
		for _, x := range s.Nodes {
			for _, parent := range []int{0, 99, 1, 42, 7, 3, 98, 2, 50, 60} {
				for _, behind := range []int{0, 99, 42, 3, 2, x.Id, 60} {
					want, wantCode := placedByHand(s, x.Id, parent, behind)
					got, code := impl.PlaceNode(s, x.Id, parent, behind)
					if code != wantCode || !sameScene(got, want) {
						t.Errorf("PlaceNode(%v, %d, %d, %d) = %v, %d, want %v, %d", s, x.Id, parent, behind, got, code, want, wantCode)
					}
					codes[code]++
				}
			}
		}
	}
	checkAllSeen(t, "PlaceNode", codes, 0, 2, 5, 6)
}

func TestSetNodeOfWrongScenes(t *testing.T) {
	for _, s := range wrongScenes() {
		for _, x := range []impl.Node{groupNode(1, 0), shapeNode(1, 0), shapeNode(2, 1), groupNode(60, 0), {}} {
			checkSet(t, s, x, s, impl.BadNode)
		}
	}
}

func TestSetNodeOfWrongNodes(t *testing.T) {
	wrong := append(wrongNodes(7, 0), wrongNodes(77, 1)...)
	wrong = append(wrong, groupNode(7, 7), shapeNode(6, 6), shapeNode(77, 77), impl.Node{})
	for _, id := range wrongIds {
		wrong = append(wrong, groupNode(id, 0), shapeNode(id, 1))
		if id != 0 {
			wrong = append(wrong, groupNode(7, id), shapeNode(6, id))
		}
	}
	for _, x := range wrong {
		for _, s := range []impl.Scene{{}, sevenNodes(), eightNodes()} {
			checkSet(t, s, x, s, impl.BadNode)
		}
	}
}

func TestSetNodeThatIsNotThere(t *testing.T) {
	for _, s := range []impl.Scene{{}, {Nodes: []impl.Node{}}, groupsOf(1, 0), sevenNodes(), eightNodes()} {
		for id := 9; id <= 99; id += 9 {
			checkSet(t, s, groupNode(id, 0), s, impl.NoNode)
			checkSet(t, s, shapeNode(id, 1), s, impl.NoNode)
		}
	}
}

// A shape and a Group that are unlike those of the scenes in every field that may be.
func otherShape(id int, parent int) impl.Node {
	return impl.Node{
		Id: id, Parent: parent, Mat: impl.Mat{A: 3, B: -4, C: 5, D: 6, E: 7, F: -8}, Path: impl.RectPath(impl.Box{X0: -9, X1: 9, Y1: 3}), Width: 7,
		Dashes: []int{1, 2, 3, 4}, Paint: slopeFrom(1, 2, 300, 400), Mode: impl.Out, Fade: 9, Clip: impl.RectPath(impl.Box{Y0: -7, X1: 1, Y1: 1}),
	}
}

func otherGroup(id int, parent int) impl.Node {
	x := listless(otherShape(id, parent))
	x.Group, x.Width, x.Paint, x.Clip = true, 0, impl.Paint{}, impl.RectPath(impl.Box{X1: 5, Y1: 5})
	return x
}

func TestSetNodeWrittenOut(t *testing.T) {
	s := sevenNodes()
	for place, x := range s.Nodes {
		checkSet(t, s, x, s, 0)
		checkSet(t, s, otherGroup(x.Id, x.Parent), withNode(s, place, otherGroup(x.Id, x.Parent)), 0)
	}
	for place, x := range s.Nodes {
		if x.Id == 1 || x.Id == 3 || x.Id == 4 {
			checkSet(t, s, otherShape(x.Id, x.Parent), s, impl.BadNode)
		} else {
			checkSet(t, s, otherShape(x.Id, x.Parent), withNode(s, place, otherShape(x.Id, x.Parent)), 0)
		}
	}
	checkSet(t, eightNodes(), otherShape(8, 4), withNode(eightNodes(), 7, otherShape(8, 4)), 0)
	bare := impl.Node{Id: 6, Paint: plainOf(0, 0, 0, 0), Mode: impl.Over}
	checkSet(t, s, bare, withNode(s, 3, bare), 0)
	checkSet(t, groupsOf(1, 0), otherShape(1, 0), sceneOf(otherShape(1, 0)), 0)
	// A Group whose kid stands ahead of it.
	checkSet(t, sceneOf(shapeNode(2, 1), groupNode(1, 0)), shapeNode(1, 0), sceneOf(shapeNode(2, 1), groupNode(1, 0)), impl.BadNode)
	checkSet(t, sceneOf(groupNode(1, 0), shapeNode(2, 1)), shapeNode(1, 0), sceneOf(groupNode(1, 0), shapeNode(2, 1)), impl.BadNode)
}

// The Parent that x names is not asked for: it may be none, a shape, or one below.
func TestSetNodeKeepsTheParent(t *testing.T) {
	s := sevenNodes()
	for place, there := range s.Nodes {
		for _, parent := range []int{0, 1, 2, 3, 4, 5, 6, 7, 8, 99} {
			if parent != there.Id {
				checkSet(t, s, otherGroup(there.Id, parent), withNode(s, place, otherGroup(there.Id, there.Parent)), 0)
			}
		}
	}
	for _, parent := range []int{0, 1, 2, 5, 7, 99} {
		checkSet(t, s, otherShape(6, parent), withNode(s, 3, otherShape(6, 0)), 0)
	}
	for _, parent := range []int{0, 1, 2, 6, 7, 99} {
		checkSet(t, s, otherShape(5, parent), withNode(s, 4, otherShape(5, 4)), 0)
	}
}

func TestSetNodeOfSeveralFaults(t *testing.T) {
	s := sevenNodes()
	bad := otherShape(77, 0)
	bad.Fade = -1
	// x is not right and there is none, or there are nodes below; it stays with BadNode.
	checkSet(t, s, bad, s, impl.BadNode)
	bad.Id = 1
	checkSet(t, s, bad, s, impl.BadNode)
	// Nodes name a Parent that is none: s is not right.
	checkSet(t, groupsOf(2, 77), otherShape(77, 0), groupsOf(2, 77), impl.BadNode)
	checkSet(t, s, otherShape(77, 77), s, impl.BadNode)
	checkSet(t, s, otherShape(77, 5), s, impl.NoNode)
	checkSet(t, s, otherShape(1, 77), s, impl.BadNode)
}

func TestSetNodeOfManyScenes(t *testing.T) {
	codes := map[int]int{}
	for _, s := range rightScenes() {
		for _, id := range []int{99, 1, 42, 7, 3, 98, 2, 50, 60} {
			for _, x := range []impl.Node{otherGroup(id, 0), otherShape(id, 0), groupNode(id, 61), shapeNode(id, 62)} {
				want, wantCode := setByHand(s, x)
				got, code := impl.SetNode(s, x)
				if code != wantCode || !sameScene(got, want) {
					t.Errorf("SetNode(%v, %v) = %v, %d, want %v, %d", s, x, got, code, want, wantCode)
				}
				codes[code]++
			}
		}
	}
	checkAllSeen(t, "SetNode", codes, 0, 1, 2)
}

// All lists of the nodes are one and the same memory; those that come are not.
func TestChangesOfNodesThatShareTheirLists(t *testing.T) {
	shared := roomyNode(shapeNode(1, 0))
	shared.Clip = shared.Path
	s := impl.Scene{}
	for id := 1; id <= 4; id++ {
		shared.Id = id
		s.Nodes = append(s.Nodes, shared)
	}
	before := roomyScene(s)
	shared.Id = 9
	again := shared
	again.Id = 2
	for name, change := range map[string]changeOf{
		"CreateNode": creating(shared), "DropNode": dropping(2), "PlaceNode": placing(2, 0, 4), "SetNode": setting(again),
		"CreateNode refused": creating(again), "DropNode refused": dropping(9), "PlaceNode refused": placing(2, 3, 0), "SetNode refused": setting(shared),
	} {
		got, _ := change(s)
		checkOwnLists(t, name, got)
		if !sameScene(s, before) || !reflect.DeepEqual(wholeNode(s.Nodes[3]), wholeNode(before.Nodes[3])) {
			t.Errorf("%s changed what it was handed: %v", name, s)
		}
	}
}

// What is refused comes as it is, however long its lists are.
func TestChangesOfWrongScenesComeAsTheyAre(t *testing.T) {
	long := shapeNode(1, 0)
	long.Path = impl.Path{Verbs: slices.Repeat([]int{-5}, 700), Points: dots(900)}
	long.Clip = impl.Path{Verbs: slices.Repeat([]int{math.MaxInt}, 300), Points: dots(1)}
	long.Dashes = slices.Repeat([]int{math.MinInt}, 500)
	s := impl.Scene{Nodes: slices.Repeat([]impl.Node{long, {}, {Id: math.MinInt, Parent: math.MaxInt, Mode: -1}}, 40)}
	checkCreate(t, s, long, s, impl.BadNode)
	checkCreate(t, sevenNodes(), long, sevenNodes(), impl.BadNode)
	checkDrop(t, s, 1, s, impl.BadNode)
	checkPlace(t, s, 1, 0, 0, s, impl.BadNode)
	checkSet(t, s, long, s, impl.BadNode)
	checkSet(t, sevenNodes(), long, sevenNodes(), impl.BadNode)
}

// A node in the room behind the list is none of the scene.
func TestChangesPassOverTheRoomBehind(t *testing.T) {
	s := impl.Scene{Nodes: chainOf(4).Nodes[:2]}
	for name, c := range map[string]struct {
		change changeOf
		code   int
	}{
		"CreateNode": {creating(groupNode(3, 2)), 0}, "CreateNode below": {creating(groupNode(9, 3)), 2}, "DropNode": {dropping(3), 2},
		"PlaceNode": {placing(3, 0, 0), 2}, "PlaceNode below": {placing(2, 3, 0), 2}, "PlaceNode behind": {placing(2, 0, 3), 2}, "SetNode": {setting(groupNode(3, 0)), 2},
		"SetNode without kids": {setting(shapeNode(2, 0)), 0},
	} {
		_, code := c.change(s)
		if code != c.code {
			t.Errorf("%s came to the code %d, want %d", name, code, c.code)
		}
		if !sameScene(impl.Scene{Nodes: s.Nodes[:4]}, chainOf(4)) {
			t.Errorf("%s wrote into the room behind: %v", name, s.Nodes[:4])
		}
	}
}

// A number below that hangs on n, without a rule to be seen.
func mixed(n int, salt int, below int) int {
	h := uint64(n*31+salt) * 0x9e3779b97f4a7c15
	h = (h ^ h>>29) * 0xbf58476d1ce4e5b9
	return int(h >> 33 % uint64(below))
}

// The n-th of many changes, right and wrong ones of every kind.
func manyChanges(n int) changeOf {
	id, parent, behind := 1+mixed(n, 1, 11), mixed(n, 2, 12), mixed(n, 3, 12)
	x := groupNode(id, parent)
	if mixed(n, 4, 4) == 0 {
		x = shapeNode(id, parent)
	}
	if mixed(n, 5, 40) == 0 {
		x.Mode = 0
	}
	switch mixed(n, 6, 12) {
	case 0:
		return dropping(id)
	case 1, 2, 3:
		return placing(id, parent, behind)
	case 4, 5:
		return setting(x)
	}
	return creating(x)
}

func TestPromise16ScenesStayRight(t *testing.T) {
	s := impl.Scene{}
	codes := map[int]int{}
	most := 0
	for n := range 6000 {
		before := roomyScene(s)
		got, code := manyChanges(n)(s)
		if !impl.SceneOk(got) {
			t.Fatalf("the change %d of %v came to %v, which is not right", n, s, got)
		}
		if code != 0 && !sameScene(got, s) {
			t.Errorf("the change %d is refused with %d, but %v became %v", n, code, s, got)
		}
		if !sameScene(s, before) {
			t.Errorf("the change %d wrote into %v: %v", n, before, s)
		}
		codes[code]++
		s = got
		most = max(most, len(s.Nodes))
	}
	checkAllSeen(t, "change", codes, 0, 1, 2, 3, 4, 5, 6)
	if most != 8 {
		t.Errorf("the greatest scene had %d nodes, want 8", most)
	}
}

// All changes of every scene of up to four nodes, whatever they hang from: those that are not right are refused, the others stay right.
func TestPromise16OfEveryForm(t *testing.T) {
	for count := range 5 {
		ids := []int{3, 98, 1, 40}[:count]
		eachScene(ids, append([]int{0, 77}, ids...), func(s impl.Scene) {
			right := impl.SceneOk(s)
			for _, change := range []changeOf{
				creating(groupNode(50, 1)), creating(shapeNode(51, 40)), creating(shapeNode(98, 0)), dropping(3), dropping(40), dropping(77),
				placing(3, 98, 0), placing(98, 3, 40), placing(40, 1, 1), placing(1, 40, 3), placing(3, 0, 98), placing(98, 98, 0),
				setting(groupNode(3, 98)), setting(shapeNode(98, 0)), setting(shapeNode(40, 77)),
			} {
				got, code := change(s)
				if !right && code != impl.BadNode || impl.SceneOk(got) != right || code != 0 && !sameScene(got, s) {
					t.Errorf("a change of %v came to %v, %d", s, got, code)
				}
			}
		})
	}
}

// What is created can be dropped again, what is placed can be placed back, what is set can be set back.
func TestPromise16ChangesAreUndone(t *testing.T) {
	for _, s := range rightScenes() {
		if more, code := impl.CreateNode(s, shapeNode(60, 0)); code == 0 {
			if back, undone := impl.DropNode(more, 60); undone != 0 || !sameScene(back, s) {
				t.Errorf("a node was created in %v and dropped: %v, %d", s, back, undone)
			}
		}
		ahead := 0
		for _, x := range s.Nodes {
			placed, code := impl.PlaceNode(s, x.Id, 0, 0)
			if back, undone := impl.PlaceNode(placed, x.Id, x.Parent, ahead); code != 0 || undone != 0 || !sameScene(back, s) {
				t.Errorf("%d of %v was placed, %d, and placed back: %v, %d", x.Id, s, code, back, undone)
			}
			set, code := impl.SetNode(s, otherGroup(x.Id, 0))
			if back, undone := impl.SetNode(set, x); code != 0 || undone != 0 || !sameScene(back, s) {
				t.Errorf("%d of %v was set, %d, and set back: %v, %d", x.Id, s, code, back, undone)
			}
			ahead = x.Id
		}
	}
}
