package tests

import (
	"math"
	"slices"
	"testing"

	"loop.example/g00190/impl"
)

// Most outside 1..8; some wrap round to a right one in fewer bits.
var wrongMosts = []int{math.MinInt, math.MinInt + 1, -1 << 32, -9, -8, -1, 0, 9, 10, 16, 255, 1 << 32, 1<<32 + 1, 1<<32 + 8, math.MaxInt - 1, math.MaxInt}

var cacheIds = []int{1, 99, 2, 50, 98, 7, 33, 64}

// In the room behind a list of masks: found there, it would be a right one.
var spareKept = impl.Kept{Id: 97, Mask: impl.Mask{Box: boxAt(0, 0, 1, 1), Bits: []int{9}}}

// What a function of the chapter answers, with nothing for what it does not tell.
type fromCache struct {
	cache impl.Cache
	mask  impl.Mask
	found bool
}

type askingCache func(c impl.Cache) fromCache

func remembering(id int, m impl.Mask) askingCache {
	return func(c impl.Cache) fromCache { return fromCache{cache: impl.Remember(c, id, m)} }
}

func recalling(id int) askingCache {
	return func(c impl.Cache) fromCache {
		cache, mask, found := impl.Recall(c, id)
		return fromCache{cache, mask, found}
	}
}

func forgetting(ids ...int) askingCache {
	return func(c impl.Cache) fromCache { return fromCache{cache: impl.Forget(c, ids)} }
}

// Each Id has masks of its own, another one for each turn.
func maskInTurn(id int, turn int) impl.Mask {
	b := boxAt(mixed(id, 1, 90), turn-40, 1+mixed(id, 2, 3), 1+turn%2)
	return maskByRule(b, func(x int, y int) int { return mixed(x+60*y, id+turn, 16) })
}

func keptInTurn(turn int, ids ...int) []impl.Kept {
	list := []impl.Kept{}
	for _, id := range ids {
		list = append(list, impl.Kept{Id: id, Mask: maskInTurn(id, turn)})
	}
	return list
}

func cacheOf(most int, ids ...int) impl.Cache {
	return impl.Cache{Most: most, List: keptInTurn(0, ids...)}
}

// The same cache, one of its list has another mask.
func withKeptMask(c impl.Cache, place int, m impl.Mask) impl.Cache {
	list := slices.Clone(c.List)
	list[place].Mask = m
	return impl.Cache{Most: c.Most, List: list}
}

func idsInCache(c impl.Cache) []int {
	ids := []int{}
	for _, x := range c.List {
		ids = append(ids, x.Id)
	}
	return ids
}

func sameCache(a impl.Cache, b impl.Cache) bool {
	return a.Most == b.Most && slices.EqualFunc(a.List, b.List, func(x impl.Kept, y impl.Kept) bool { return x.Id == y.Id && sameMask(x.Mask, y.Mask) })
}

func sameFromCache(a fromCache, b fromCache) bool {
	return sameCache(a.cache, b.cache) && sameMask(a.mask, b.mask) && a.found == b.found
}

func othersThan(ids []int, id int) []int {
	return slices.DeleteFunc(slices.Clone(ids), func(other int) bool { return other == id })
}

func roomyCache(c impl.Cache) impl.Cache {
	list, _ := withRoom(c.List, spareKept)
	for i, x := range list {
		list[i].Mask.Bits, _ = withRoom(x.Mask.Bits, 11)
	}
	return impl.Cache{Most: c.Most, List: list}
}

// The same cache, each of its lists with all of its room.
func wholeCache(c impl.Cache) impl.Cache {
	whole := impl.Cache{Most: c.Most}
	for _, x := range c.List[:cap(c.List)] {
		bits := x.Mask.Bits
		whole.List = append(whole.List, impl.Kept{Id: x.Id, Mask: impl.Mask{Box: x.Mask.Box, Bits: bits[:cap(bits)]}})
	}
	return whole
}

func checkCacheLeft(t *testing.T, name string, handed impl.Cache, c impl.Cache) {
	t.Helper()
	if !sameCache(wholeCache(handed), wholeCache(roomyCache(c))) {
		t.Errorf("%s of %v wrote into its lists, or shares them: %v", name, c, wholeCache(handed))
	}
}

// Writes a mark of its own into each list of the answer, up to the end of its room, and then asks whether all are still there.
func checkOwnMasks(t *testing.T, name string, got fromCache) {
	t.Helper()
	lists := [][]int{got.mask.Bits}
	for _, x := range got.cache.List {
		lists = append(lists, x.Mask.Bits)
	}
	for i, list := range lists {
		overwrite(list, 1000+i)
	}
	for i, list := range lists {
		if slices.ContainsFunc(list[:cap(list)], func(bits int) bool { return bits != 1000+i }) {
			t.Errorf("%s: the bits %d of the answer share memory with others of it", name, i)
		}
	}
	overwrite(got.cache.List, spareKept)
}

// What is written into the answer must not come to what was handed in, nor into the next answer.
func checkFromCache(t *testing.T, name string, c impl.Cache, ask askingCache, want fromCache) {
	t.Helper()
	roomy := roomyCache(c)
	for range 2 {
		got := ask(roomy)
		if !sameFromCache(got, want) {
			t.Errorf("%s of %v = %v, want %v", name, c, got, want)
		}
		checkOwnMasks(t, name, got)
	}
	checkCacheLeft(t, name, roomy, c)
}

func checkCacheOk(t *testing.T, c impl.Cache, want bool) {
	t.Helper()
	roomy := roomyCache(c)
	if got := impl.CacheOk(roomy); got != want {
		t.Errorf("CacheOk(%v) = %v, want %v", c, got, want)
	}
	checkCacheLeft(t, "CacheOk", roomy, c)
}

func checkRemember(t *testing.T, c impl.Cache, id int, m impl.Mask, want impl.Cache) {
	t.Helper()
	bits, room := withRoom(m.Bits, 11)
	before := slices.Clone(room)
	checkFromCache(t, "Remember", c, remembering(id, impl.Mask{Box: m.Box, Bits: bits}), fromCache{cache: want})
	if !slices.Equal(room, before) {
		t.Errorf("Remember of %v with %d wrote into its mask, or shares it: %v", c, id, room)
	}
}

func checkRecall(t *testing.T, c impl.Cache, id int, want impl.Cache, mask impl.Mask) {
	t.Helper()
	checkFromCache(t, "Recall", c, recalling(id), fromCache{want, mask, true})
}

func checkNoRecall(t *testing.T, c impl.Cache, id int) {
	t.Helper()
	checkFromCache(t, "Recall", c, recalling(id), fromCache{cache: c})
}

// In the room behind the Ids are some that are there, but not asked for.
func checkForget(t *testing.T, c impl.Cache, ids []int, want impl.Cache) {
	t.Helper()
	for _, spare := range append(idsInCache(c), 1) {
		list, room := withRoom(ids, spare)
		before := slices.Clone(room)
		checkFromCache(t, "Forget", c, forgetting(list...), fromCache{cache: want})
		if !slices.Equal(room, before) {
			t.Errorf("Forget of %v with %v wrote into its list: %v", c, ids, room)
		}
	}
}

// The Ids from 1 on in each order, as many as there are places.
func ordersOf(count int, places int) [][]int {
	if places == 0 {
		return [][]int{{}}
	}
	orders := [][]int{}
	for _, order := range ordersOf(count, places-1) {
		for id := 1; id <= count; id++ {
			if !slices.Contains(order, id) {
				orders = append(orders, append(slices.Clone(order), id))
			}
		}
	}
	return orders
}

// Small right caches: up to four of the Ids 1 to 4 in each order, with room for others or not.
func smallCaches() []impl.Cache {
	caches := []impl.Cache{}
	for most := 1; most <= 4; most++ {
		for count := 0; count <= most; count++ {
			for _, ids := range ordersOf(4, count) {
				caches = append(caches, cacheOf(most, ids...))
			}
		}
	}
	return caches
}

func rightCaches() []impl.Cache {
	caches := smallCaches()
	for most := 1; most <= 8; most++ {
		caches = append(caches, cacheOf(most, cacheIds[:most]...), cacheOf(most, cacheIds[8-most:]...), cacheOf(most, cacheIds[:most/2]...))
	}
	masks := rightMasks()
	for i := 0; i+8 <= len(masks); i += 8 {
		c := cacheOf(8, cacheIds...)
		for place := range c.List {
			c.List[place].Mask = masks[i+place]
		}
		caches = append(caches, c)
	}
	return caches
}

// Of each kind of fault some.
func wrongCaches() []impl.Cache {
	caches := []impl.Cache{}
	for _, most := range wrongMosts {
		caches = append(caches, cacheOf(most), cacheOf(most, 1), cacheOf(most, 3, 1, 2), cacheOf(most, cacheIds...))
	}
	for most := 1; most <= 8; most++ {
		caches = append(caches, cacheOf(most, append([]int{3}, cacheIds[:most]...)...))
	}
	for _, id := range wrongIds {
		caches = append(caches, cacheOf(1, id), cacheOf(3, id, 1, 2), cacheOf(4, 1, id, 2), cacheOf(3, 1, 2, id))
	}
	caches = append(caches, cacheOf(2, 1, 1), cacheOf(3, 1, 1, 2), cacheOf(3, 2, 1, 1), cacheOf(8, 1, 2, 3, 1), cacheOf(3, 5, 1, 5))
	for i, m := range wrongMasks() {
		if i%7 == 0 {
			caches = append(caches, withKeptMask(cacheOf(3, 1, 2, 3), i/7%3, m))
		}
	}
	return caches
}

// By time: of each Id when it was asked for last. The place in the list does not come in.
type agedCache struct {
	most int
	now  int
	last map[int]int
	mask map[int]impl.Mask
}

func agedOf(c impl.Cache) *agedCache {
	aged := &agedCache{most: c.Most, last: map[int]int{}, mask: map[int]impl.Mask{}}
	for _, x := range slices.Backward(c.List) {
		aged.remember(x.Id, x.Mask)
	}
	return aged
}

func (aged *agedCache) ask(id int) {
	aged.now++
	aged.last[id] = aged.now
}

func (aged *agedCache) remember(id int, m impl.Mask) {
	if _, there := aged.last[id]; !there && len(aged.last) == aged.most {
		aged.forget(slices.MinFunc(aged.ids(), func(a int, b int) int { return aged.last[a] - aged.last[b] }))
	}
	aged.ask(id)
	aged.mask[id] = m
}

func (aged *agedCache) recall(id int) (impl.Mask, bool) {
	m, there := aged.mask[id]
	if there {
		aged.ask(id)
	}
	return m, there
}

func (aged *agedCache) forget(ids ...int) {
	for _, id := range ids {
		delete(aged.last, id)
		delete(aged.mask, id)
	}
}

func (aged *agedCache) ids() []int {
	ids := []int{}
	for id := range aged.last {
		ids = append(ids, id)
	}
	slices.SortFunc(ids, func(a int, b int) int { return aged.last[b] - aged.last[a] })
	return ids
}

func (aged *agedCache) cache() impl.Cache {
	c := impl.Cache{Most: aged.most}
	for _, id := range aged.ids() {
		c.List = append(c.List, impl.Kept{Id: id, Mask: aged.mask[id]})
	}
	return c
}

func TestCacheOkMost(t *testing.T) {
	for most := 1; most <= 8; most++ {
		for count := 0; count <= 8; count++ {
			checkCacheOk(t, cacheOf(most, cacheIds[:count]...), count <= most)
		}
		checkCacheOk(t, cacheOf(most, append([]int{3}, cacheIds...)...), false)
	}
	for _, most := range wrongMosts {
		for count := 0; count <= 8; count++ {
			checkCacheOk(t, cacheOf(most, cacheIds[:count]...), false)
		}
		checkCacheOk(t, cacheOf(most, append([]int{3}, cacheIds...)...), false)
	}
	checkCacheOk(t, impl.Cache{}, false)
	checkCacheOk(t, impl.Cache{Most: 1}, true)
	checkCacheOk(t, impl.Cache{Most: 8, List: []impl.Kept{}}, true)
}

func TestCacheOkIds(t *testing.T) {
	for id := -20; id <= 120; id++ {
		checkCacheOk(t, cacheOf(1, id), id >= 1 && id <= 99)
		checkCacheOk(t, cacheOf(8, id), id >= 1 && id <= 99)
	}
	for count := 1; count <= 8; count++ {
		for place := range count {
			for _, wrong := range wrongIds {
				ids := slices.Clone(cacheIds[:count])
				ids[place] = wrong
				checkCacheOk(t, cacheOf(8, ids...), false)
				checkCacheOk(t, cacheOf(count, ids...), false)
			}
		}
	}
}

// The same Id with the same mask and with another one, side by side and apart.
func TestCacheOkOneIdTwice(t *testing.T) {
	for count := 2; count <= 8; count++ {
		for second := range count {
			for first := range second {
				ids := slices.Clone(cacheIds[:count])
				ids[second] = ids[first]
				twice := cacheOf(8, ids...)
				checkCacheOk(t, twice, false)
				checkCacheOk(t, withKeptMask(twice, second, maskInTurn(3, 3)), false)
				checkCacheOk(t, withKeptMask(twice, first, impl.Mask{}), false)
			}
		}
	}
	checkCacheOk(t, cacheOf(3, 4, 4, 4), false)
}

// One mask in two of them is right: only the Ids are unlike.
func TestCacheOkSameMasks(t *testing.T) {
	c := cacheOf(8, cacheIds...)
	for i := range c.List {
		c.List[i].Mask = maskInTurn(1, 1)
	}
	checkCacheOk(t, c, true)
	for i := range c.List {
		c.List[i].Mask = impl.Mask{}
	}
	checkCacheOk(t, c, true)
}

func TestCacheOkMasks(t *testing.T) {
	for _, c := range rightCaches() {
		checkCacheOk(t, c, true)
	}
	for _, m := range rightMasks() {
		checkCacheOk(t, impl.Cache{Most: 1, List: []impl.Kept{{Id: 1, Mask: m}}}, true)
	}
	for _, c := range []impl.Cache{cacheOf(1, 5), cacheOf(2, 5, 6), cacheOf(8, 7, 8, 9), cacheOf(8, cacheIds...)} {
		for _, place := range threePlaces(c.List) {
			for _, m := range wrongMasks() {
				checkCacheOk(t, withKeptMask(c, place, m), false)
			}
		}
	}
	for _, c := range wrongCaches() {
		checkCacheOk(t, c, false)
	}
}

func TestRememberWrittenOut(t *testing.T) {
	a, b, e, f := maskFrom(0, 0, "5"), maskFrom(-3, 2, "f0", "0f"), maskFrom(7, 7, "9"), impl.Mask{}
	c := impl.Cache{Most: 3}
	for _, step := range []struct {
		id   int
		mask impl.Mask
		want []impl.Kept
	}{
		{4, a, []impl.Kept{{Id: 4, Mask: a}}},
		{99, b, []impl.Kept{{Id: 99, Mask: b}, {Id: 4, Mask: a}}},
		{1, e, []impl.Kept{{Id: 1, Mask: e}, {Id: 99, Mask: b}, {Id: 4, Mask: a}}},
		// It was the last one: nothing else is gone.
		{4, f, []impl.Kept{{Id: 4, Mask: f}, {Id: 1, Mask: e}, {Id: 99, Mask: b}}},
		{1, a, []impl.Kept{{Id: 1, Mask: a}, {Id: 4, Mask: f}, {Id: 99, Mask: b}}},
		{1, e, []impl.Kept{{Id: 1, Mask: e}, {Id: 4, Mask: f}, {Id: 99, Mask: b}}},
		{50, b, []impl.Kept{{Id: 50, Mask: b}, {Id: 1, Mask: e}, {Id: 4, Mask: f}}},
		{99, b, []impl.Kept{{Id: 99, Mask: b}, {Id: 50, Mask: b}, {Id: 1, Mask: e}}},
	} {
		checkRemember(t, c, step.id, step.mask, impl.Cache{Most: 3, List: step.want})
		c = impl.Remember(c, step.id, step.mask)
	}
}

func TestRememberWithMostOfOne(t *testing.T) {
	checkRemember(t, cacheOf(1), 7, maskInTurn(7, 1), impl.Cache{Most: 1, List: keptInTurn(1, 7)})
	checkRemember(t, cacheOf(1, 7), 7, maskInTurn(7, 1), impl.Cache{Most: 1, List: keptInTurn(1, 7)})
	checkRemember(t, cacheOf(1, 7), 8, maskInTurn(8, 1), impl.Cache{Most: 1, List: keptInTurn(1, 8)})
}

// An Id of each place, and a new one: the others keep their order, and one alone goes when they are too many.
func TestRememberAtEachPlace(t *testing.T) {
	for most := 1; most <= 8; most++ {
		for count := 0; count <= most; count++ {
			ids := cacheIds[:count]
			c := cacheOf(most, ids...)
			for _, id := range ids {
				want := impl.Cache{Most: most, List: slices.Concat(keptInTurn(5, id), keptInTurn(0, othersThan(ids, id)...))}
				checkRemember(t, c, id, maskInTurn(id, 5), want)
			}
			stay := ids[:min(count, most-1)]
			want := impl.Cache{Most: most, List: slices.Concat(keptInTurn(5, 13), keptInTurn(0, stay...))}
			checkRemember(t, c, 13, maskInTurn(13, 5), want)
		}
	}
}

func TestRememberInSmallCaches(t *testing.T) {
	for _, c := range smallCaches() {
		for id := 1; id <= 5; id++ {
			for _, turn := range []int{0, 6} {
				aged := agedOf(c)
				aged.remember(id, maskInTurn(id, turn))
				checkRemember(t, c, id, maskInTurn(id, turn), aged.cache())
			}
		}
	}
}

func TestRememberEachRightMaskAndId(t *testing.T) {
	for i, m := range rightMasks() {
		id := 1 + i%99
		checkRemember(t, cacheOf(1), id, m, impl.Cache{Most: 1, List: []impl.Kept{{Id: id, Mask: m}}})
	}
	for id := 1; id <= 99; id++ {
		checkRemember(t, cacheOf(8), id, impl.Mask{}, impl.Cache{Most: 8, List: []impl.Kept{{Id: id}}})
	}
}

func TestRememberNotRight(t *testing.T) {
	for _, c := range wrongCaches() {
		for _, id := range []int{1, 2, 3, 13} {
			checkRemember(t, c, id, maskInTurn(id, 5), c)
		}
	}
	for _, c := range []impl.Cache{cacheOf(1), cacheOf(4, 1, 99, 2), cacheOf(3, 1, 99, 2), cacheOf(8, cacheIds...)} {
		for _, id := range wrongIds {
			checkRemember(t, c, id, maskInTurn(7, 5), c)
		}
		for _, m := range wrongMasks() {
			checkRemember(t, c, 1, m, c)
			checkRemember(t, c, 13, m, c)
		}
	}
	// More than one is not right.
	checkRemember(t, cacheOf(0, 1), 100, impl.Mask{Bits: []int{1}}, cacheOf(0, 1))
	checkRemember(t, impl.Cache{}, 1, impl.Mask{}, impl.Cache{})
}

func TestRecallAtEachPlace(t *testing.T) {
	for most := 1; most <= 8; most++ {
		for count := 0; count <= most; count++ {
			ids := cacheIds[:count]
			c := cacheOf(most, ids...)
			for _, id := range ids {
				want := cacheOf(most, append([]int{id}, othersThan(ids, id)...)...)
				checkRecall(t, c, id, want, maskInTurn(id, 0))
				// Once more: it is the first one already.
				checkRecall(t, want, id, want, maskInTurn(id, 0))
			}
			for _, id := range append([]int{3, 13, 97}, cacheIds[count:]...) {
				checkNoRecall(t, c, id)
			}
			for _, id := range wrongIds {
				checkNoRecall(t, c, id)
			}
		}
	}
}

func TestRecallOneBehindTheOther(t *testing.T) {
	c := cacheOf(4, 1, 2, 3, 4)
	checkRecall(t, c, 3, cacheOf(4, 3, 1, 2, 4), maskInTurn(3, 0))
	c, _, _ = impl.Recall(c, 3)
	checkRecall(t, c, 4, cacheOf(4, 4, 3, 1, 2), maskInTurn(4, 0))
	c, _, _ = impl.Recall(c, 4)
	checkNoRecall(t, c, 5)
	checkRecall(t, c, 3, cacheOf(4, 3, 4, 1, 2), maskInTurn(3, 0))
}

func TestRecallInSmallCaches(t *testing.T) {
	for _, c := range smallCaches() {
		for id := 0; id <= 5; id++ {
			aged := agedOf(c)
			if mask, there := aged.recall(id); there {
				checkRecall(t, c, id, aged.cache(), mask)
			} else {
				checkNoRecall(t, c, id)
			}
		}
	}
}

func TestRecallOfEachRightMask(t *testing.T) {
	for _, c := range rightCaches() {
		for _, x := range c.List {
			aged := agedOf(c)
			mask, _ := aged.recall(x.Id)
			checkRecall(t, c, x.Id, aged.cache(), mask)
		}
	}
}

// Also where the mask that is asked for is a right one itself.
func TestRecallNotRight(t *testing.T) {
	for _, c := range wrongCaches() {
		for _, id := range append([]int{13, 97}, idsInCache(c)...) {
			checkNoRecall(t, c, id)
		}
	}
	checkNoRecall(t, impl.Cache{}, 0)
	checkNoRecall(t, impl.Cache{}, 1)
}

func TestForgetWrittenOut(t *testing.T) {
	c := cacheOf(6, 1, 99, 2, 50, 98)
	checkForget(t, c, nil, c)
	checkForget(t, c, []int{}, c)
	checkForget(t, c, []int{1}, cacheOf(6, 99, 2, 50, 98))
	checkForget(t, c, []int{2}, cacheOf(6, 1, 99, 50, 98))
	checkForget(t, c, []int{98}, cacheOf(6, 1, 99, 2, 50))
	checkForget(t, c, []int{98, 1}, cacheOf(6, 99, 2, 50))
	checkForget(t, c, []int{99, 99}, cacheOf(6, 1, 2, 50, 98))
	checkForget(t, c, []int{50, 3, 50, 99, 4}, cacheOf(6, 1, 2, 98))
	checkForget(t, c, []int{3, 97, 51}, c)
	checkForget(t, c, []int{98, 50, 2, 99, 1}, cacheOf(6))
	checkForget(t, c, []int{50, 1, 99, 98, 2}, impl.Cache{Most: 6})
	checkForget(t, c, wrongIds, c)
	checkForget(t, c, append(slices.Clone(wrongIds), 2, -2, 50, 0), cacheOf(6, 1, 99, 98))
	checkForget(t, impl.Cache{Most: 6}, []int{1, 2}, impl.Cache{Most: 6})
	checkForget(t, impl.Cache{Most: 6}, nil, impl.Cache{Most: 6})
}

func withoutByHand(c impl.Cache, ids []int) impl.Cache {
	rest := impl.Cache{Most: c.Most}
	for _, x := range c.List {
		if !slices.Contains(ids, x.Id) {
			rest.List = append(rest.List, x)
		}
	}
	return rest
}

func TestForgetInSmallCaches(t *testing.T) {
	for _, c := range smallCaches() {
		for count := range 4 {
			for _, ids := range ordersOf(5, count) {
				checkForget(t, c, ids, withoutByHand(c, ids))
			}
		}
	}
}

func TestForgetEachPartOfAFullCache(t *testing.T) {
	c := cacheOf(8, cacheIds...)
	for part := range 256 {
		ids := []int{}
		for i, id := range cacheIds {
			if part>>i&1 == 1 {
				ids = append(ids, id)
			}
		}
		for _, list := range [][]int{ids, backwards(ids), slices.Repeat(ids, 2), slices.Concat([]int{0, 3}, ids, []int{100, 13})} {
			checkForget(t, c, list, withoutByHand(c, ids))
		}
	}
}

// The words name no other answer for a cache that is not right: those with these Ids are gone, all else stays.
func TestForgetNotRight(t *testing.T) {
	for _, c := range wrongCaches() {
		checkForget(t, c, nil, c)
		checkForget(t, c, []int{13, 97}, c)
		checkForget(t, c, []int{1}, withoutByHand(c, []int{1}))
		checkForget(t, c, []int{3, 2}, withoutByHand(c, []int{3, 2}))
		checkForget(t, c, idsInCache(c), impl.Cache{Most: c.Most})
	}
	checkForget(t, cacheOf(3, 5, 1, 5), []int{5}, cacheOf(3, 1))
	checkForget(t, cacheOf(0, 4, 2), []int{4}, cacheOf(0, 2))
	checkForget(t, impl.Cache{}, []int{1}, impl.Cache{})
}

// One of the things that can be asked of a cache: each of them by its number.
func asked(c impl.Cache, aged *agedCache, id int, kind int, turn int) (fromCache, fromCache) {
	want := fromCache{}
	ask := remembering(id, maskInTurn(id, turn))
	switch kind {
	case 0:
		aged.remember(id, maskInTurn(id, turn))
	case 1:
		ask = recalling(id)
		want.mask, want.found = aged.recall(id)
	case 2:
		ask = forgetting(id)
		aged.forget(id)
	}
	want.cache = aged.cache()
	return ask(c), want
}

func checkAsked(t *testing.T, most int, seed int, count int, next func(turn int) (int, int)) {
	t.Helper()
	c := impl.Cache{Most: most}
	aged := agedOf(c)
	for turn := range count {
		id, kind := next(turn)
		got, want := asked(c, aged, id, kind, turn)
		if !sameFromCache(got, want) {
			t.Fatalf("Most %d, run %d: asked %d for %d after %v: %v, want %v", most, seed, kind, id, c, got, want)
		}
		if !impl.CacheOk(got.cache) {
			t.Fatalf("Most %d, run %d: %v is not right", most, seed, got.cache)
		}
		c = got.cache
	}
}

// P21: all short runs of asking for a few Ids, so that each of them comes again at each place.
func TestRememberedTillTooManyOrForgotten(t *testing.T) {
	const ids, length, all = 3, 5, 9 * 9 * 9 * 9 * 9
	for most := 1; most <= 3; most++ {
		for run := range all {
			rest := run
			checkAsked(t, most, run, length, func(int) (int, int) {
				one := rest % 9
				rest /= 9
				return 1 + one%ids, one / ids
			})
		}
	}
}

func TestRememberedInLongRuns(t *testing.T) {
	for most := 1; most <= 8; most++ {
		for run := range 40 {
			checkAsked(t, most, run, 400, func(turn int) (int, int) {
				n := turn + 1000*run
				kind := []int{0, 0, 0, 1, 1, 1, 1, 2}[mixed(n, 5, 8)]
				return 1 + mixed(n, 6, most+2+run%3), kind
			})
		}
	}
}

// P21 by its words alone: it is recalled as long as fewer than Most others were remembered since, and gone with the next one.
func TestRememberedTillTooMany(t *testing.T) {
	for most := 1; most <= 8; most++ {
		c := impl.Remember(cacheOf(most, cacheIds[:most]...), 40, maskInTurn(40, 1))
		for others := range most {
			_, mask, found := impl.Recall(c, 40)
			if !found || !sameMask(mask, maskInTurn(40, 1)) {
				t.Errorf("Most %d: after %d others Recall = %v, %v", most, others, mask, found)
			}
			// One that comes again does not count twice.
			c = impl.Remember(c, 41+others, maskInTurn(41+others, 1))
			c = impl.Remember(c, 41+others, maskInTurn(41+others, 2))
		}
		checkNoRecall(t, c, 40)
		if len(c.List) != most {
			t.Errorf("Most %d: %d are kept", most, len(c.List))
		}
	}
}

// What is recalled stays, however many others come between.
func TestRecalledStays(t *testing.T) {
	for most := 2; most <= 8; most++ {
		c := impl.Remember(impl.Cache{Most: most}, 40, maskInTurn(40, 1))
		for id := 41; id <= 99; id++ {
			found := false
			c, _, found = impl.Recall(impl.Remember(c, id, maskInTurn(id, 1)), 40)
			if !found {
				t.Fatalf("Most %d: 40 is gone when %d has come", most, id)
			}
		}
	}
}

func TestForgottenIsGone(t *testing.T) {
	for most := 1; most <= 8; most++ {
		for _, id := range cacheIds[:most] {
			c := impl.Forget(cacheOf(most, cacheIds[:most]...), []int{id})
			checkNoRecall(t, c, id)
			// There is room again: nothing else goes for a new one.
			c = impl.Remember(c, 13, maskInTurn(13, 1))
			for _, other := range othersThan(cacheIds[:most], id) {
				if _, mask, found := impl.Recall(c, other); !found || !sameMask(mask, maskInTurn(other, 0)) {
					t.Errorf("Most %d: %d is not recalled once %d was forgotten", most, other, id)
				}
			}
		}
	}
}

// A mask that changes after it was remembered, or after it was recalled, is not that of the cache.
func TestRememberedIsItsOwn(t *testing.T) {
	m := maskFrom(0, 0, "12", "34")
	c := impl.Remember(impl.Cache{Most: 2}, 5, m)
	m.Bits[0] = 9
	_, recalled, _ := impl.Recall(c, 5)
	recalled.Bits[1] = 9
	later := impl.Remember(c, 6, recalled)
	later.List[1].Mask.Bits[2] = 9
	if _, again, _ := impl.Recall(c, 5); !sameMask(again, maskFrom(0, 0, "12", "34")) {
		t.Errorf("the mask remembered is %v", again)
	}
}

func TestAskingKeepsNothing(t *testing.T) {
	c := cacheOf(3, 1, 2, 3)
	first := impl.Remember(c, 4, maskInTurn(4, 1))
	impl.Forget(c, []int{1, 2, 3})
	impl.Recall(first, 2)
	impl.Remember(impl.Cache{Most: 3}, 9, maskInTurn(9, 1))
	if again := impl.Remember(c, 4, maskInTurn(4, 1)); !sameCache(again, first) {
		t.Errorf("Remember came as %v, and then as %v", first, again)
	}
}

// Nothing bars a long list: far more than Most, and as many Ids to forget.
func TestGreatWrongCaches(t *testing.T) {
	const many = 100000
	great := impl.Cache{Most: 8}
	ids := []int{}
	for i := range many {
		great.List = append(great.List, impl.Kept{Id: 1 + i, Mask: impl.Mask{Bits: []int{i}}})
		ids = append(ids, many-i)
	}
	if impl.CacheOk(great) {
		t.Error("a cache of very many is right")
	}
	if got := impl.Remember(great, 1, impl.Mask{}); !sameCache(got, great) {
		t.Error("Remember of very many is not the cache as it is")
	}
	got, mask, found := impl.Recall(great, many)
	if !sameCache(got, great) || found || !sameMask(mask, impl.Mask{}) {
		t.Error("Recall of very many is not the cache as it is")
	}
	if got := impl.Forget(great, ids[1:]); !sameCache(got, impl.Cache{Most: 8, List: great.List[many-1:]}) {
		t.Errorf("Forget of very many leaves %d", len(got.List))
	}
}
