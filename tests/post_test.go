package tests

import (
	"fmt"
	"math"
	"math/rand"
	"slices"
	"testing"

	"loop.example/g00354/impl"
)

func cloneMsg(m impl.Msg) impl.Msg {
	m.Holding = cloneHolding(m.Holding)
	return m
}

func clonePost(list []impl.Msg) []impl.Msg {
	post := []impl.Msg{}
	for _, m := range list {
		post = append(post, cloneMsg(m))
	}
	return post
}

func samePost(a, b []impl.Msg) bool { return slices.EqualFunc(a, b, sameMsg) }

func noMsg(m impl.Msg) bool { return sameMsg(m, impl.Msg{}) }

// numbered is a right Msg that no other number has; two of three have a Holding.
func numbered(k int) impl.Msg {
	n := int64(k)
	m := impl.Msg{To: n % 2, Kind: 1 + n%8, Try: n, At: n % 8, Turn: 100 + n, Value: n % 10000, Epoch: (7 * n) % 100001}
	switch k % 3 {
	case 1:
		m.Holding = held(2, 1, n, 5, 7, 0, n%10000)
	case 2:
		m.Holding = held(0, -1, n, 0, n%10000, 0, 0)
	}
	return m
}

// postOf is a post of so many, with the numbers from one on.
func postOf(n, from int) []impl.Msg {
	post := []impl.Msg{}
	for k := range n {
		post = append(post, numbered(from+k))
	}
	return post
}

// withMsg has another Msg at a place.
func withMsg(list []impl.Msg, at int, m impl.Msg) []impl.Msg {
	list = clonePost(list)
	list[at] = cloneMsg(m)
	return list
}

func postOkByHand(list []impl.Msg) bool {
	right := 0
	for _, m := range list {
		if msgOkByHand(m) {
			right++
		}
	}
	return right == len(list) && right <= 40
}

func postedByHand(list, more []impl.Msg) ([]impl.Msg, bool) {
	both := clonePost(slices.Concat(list, more))
	switch {
	case !postOkByHand(list):
		return nil, false
	case !postOkByHand(both):
		return clonePost(list), false
	}
	return both, true
}

func takenByHand(list []impl.Msg, at int64) ([]impl.Msg, impl.Msg, bool) {
	switch {
	case !postOkByHand(list):
		return nil, impl.Msg{}, false
	case at < 0 || at >= int64(len(list)):
		return clonePost(list), impl.Msg{}, false
	}
	return slices.Delete(clonePost(list), int(at), int(at)+1), cloneMsg(list[at]), true
}

func twiceByHand(list []impl.Msg, at int64) ([]impl.Msg, bool) {
	_, m, is := takenByHand(list, at)
	if !is {
		left, _ := postedByHand(list, nil)
		return left, false
	}
	return postedByHand(list, oneMsg(m))
}

func wantPosted(t *testing.T, list, more, want []impl.Msg, done bool) {
	t.Helper()
	got, is := impl.Posted(list, more)
	if !samePost(got, want) || is != done {
		t.Fatalf("%d Msgs Posted to %d: %v, %v, not %v, %v", len(more), len(list), got, is, want, done)
	}
}

func wantTaken(t *testing.T, list []impl.Msg, at int64, want []impl.Msg, it impl.Msg, done bool) {
	t.Helper()
	got, m, is := impl.Taken(list, at)
	if !samePost(got, want) || !sameMsg(m, it) || is != done {
		t.Fatalf("Taken at %d of %d: %v, %v, %v, not %v, %v, %v", at, len(list), got, m, is, want, it, done)
	}
}

func wantTwice(t *testing.T, list []impl.Msg, at int64, want []impl.Msg, done bool) {
	t.Helper()
	got, is := impl.Twice(list, at)
	if !samePost(got, want) || is != done {
		t.Fatalf("Twice at %d of %d: %v, %v, not %v, %v", at, len(list), got, is, want, done)
	}
}

func wantPostByHand(t *testing.T, list, more []impl.Msg, at int64) {
	t.Helper()
	if got := impl.PostOk(list); got != postOkByHand(list) {
		t.Fatalf("PostOk(%v) = %v", list, got)
	}
	both, done := postedByHand(list, more)
	wantPosted(t, list, more, both, done)
	left, m, done := takenByHand(list, at)
	wantTaken(t, list, at, left, m, done)
	longer, done := twiceByHand(list, at)
	wantTwice(t, list, at, longer, done)
}

// wantNoPost wants of what is no post nothing, whatever else is given.
func wantNoPost(t *testing.T, list []impl.Msg) {
	t.Helper()
	if impl.PostOk(list) {
		t.Fatalf("PostOk(%v) = true", list)
	}
	for _, more := range [][]impl.Msg{nil, {}, postOf(1, 70), postOf(2, 70), postOf(41, 70), {{}}, list} {
		wantPosted(t, list, more, nil, false)
	}
	for _, at := range []int64{math.MinInt64, -1, 0, 1, int64(len(list)) - 1, int64(len(list)), 39, 40, math.MaxInt64} {
		wantTaken(t, list, at, nil, impl.Msg{}, false)
		wantTwice(t, list, at, nil, false)
	}
}

// noPlaces are places where a post of so many has none.
func noPlaces(n int) []int64 {
	list := []int64{-1, -2, -40, -1 << 32, math.MinInt64, math.MinInt64 + 1, 40, 41, 1 << 31, 1 << 32, 1<<32 + 1, math.MaxInt64 - 1, math.MaxInt64}
	for _, over := range []int{0, 1, 2, 40} {
		list = append(list, int64(n+over))
	}
	return list
}

// wrongMsgs are those that are not right for one thing about them.
func wrongMsgs() []impl.Msg {
	list := []impl.Msg{{}}
	for _, m := range append(msgBreaches(numbered(1)), msgBreaches(numbered(3))...) {
		if !msgOkByHand(m) {
			list = append(list, m)
		}
	}
	return list
}

func TestMaxPost(t *testing.T) {
	if impl.MaxPost != 40 {
		t.Errorf("MaxPost = %d", impl.MaxPost)
	}
}

func TestPostOkOfSoMany(t *testing.T) {
	if !impl.PostOk(nil) || !impl.PostOk([]impl.Msg{}) {
		t.Error("no Msg is no post")
	}
	for n := range 41 {
		if !impl.PostOk(postOf(n, 0)) {
			t.Errorf("%d Msgs are no post", n)
		}
	}
	for _, n := range []int{41, 42, 64, 80, 256, 296} {
		wantNoPost(t, postOf(n, 0))
	}
}

// A msgField is a number of a Msg, with the least and the greatest that are right.
type msgField struct {
	name        string
	least, most int64
	set         func(m *impl.Msg, n int64)
}

func msgFields() []msgField {
	return []msgField{
		{"To", 0, 1, func(m *impl.Msg, n int64) { m.To = n }},
		{"Kind", 1, 8, func(m *impl.Msg, n int64) { m.Kind = n }},
		{"Try", 0, 100000, func(m *impl.Msg, n int64) { m.Try = n }},
		{"At", 0, 7, func(m *impl.Msg, n int64) { m.At = n }},
		{"Turn", 0, 1000000000, func(m *impl.Msg, n int64) { m.Turn = n }},
		{"Value", 0, 9999, func(m *impl.Msg, n int64) { m.Value = n }},
		{"Epoch", 0, 100000, func(m *impl.Msg, n int64) { m.Epoch = n }},
	}
}

func TestPostOkOfEachField(t *testing.T) {
	for _, f := range msgFields() {
		for k := range 6 {
			m := numbered(k)
			for _, n := range []int64{f.least, f.least + 1, (f.least + f.most) / 2, f.most - 1, f.most} {
				f.set(&m, n)
				if list := []impl.Msg{numbered(9), m, numbered(10)}; !impl.PostOk(oneMsg(m)) || !impl.PostOk(list) {
					t.Errorf("%s %d is not right", f.name, n)
				}
				wantPosted(t, postOf(2, 0), oneMsg(m), append(postOf(2, 0), m), true)
			}
			far := []int64{f.least - 1, f.most + 1, f.least - 2, f.most + 2, -f.most, f.most + 1<<32, f.least - 1<<32, 1 << 32, math.MaxInt64, math.MinInt64}
			for _, n := range far {
				if n >= f.least && n <= f.most {
					continue
				}
				f.set(&m, n)
				if list := []impl.Msg{numbered(9), m, numbered(10)}; impl.PostOk(oneMsg(m)) || impl.PostOk(list) {
					t.Errorf("%s %d is right", f.name, n)
				}
				wantPosted(t, postOf(2, 0), oneMsg(m), postOf(2, 0), false)
			}
		}
	}
}

func TestPostOkOfEachHolding(t *testing.T) {
	for kind := int64(1); kind <= 8; kind++ {
		eachHolding(func(h impl.Holding, _ [4]bool, _ [4]bool) {
			for _, turn := range rightTurns {
				h.Turn = turn
				if m := (impl.Msg{Kind: kind, Holding: h}); !impl.PostOk(oneMsg(m)) {
					t.Fatalf("%v is not right", m)
				}
			}
		})
		for _, zero := range []impl.Holding{{}, {Keys: []int64{}}, {Keys: make([]int64, 4)[:0]}} {
			if m := (impl.Msg{Kind: kind, Holding: zero}); !impl.PostOk(oneMsg(m)) {
				t.Errorf("%v is not right", m)
			}
		}
		neither := []impl.Holding{
			{Holder: -1}, {Turn: 1}, {Kind: 1}, {Kind: 5, Holder: -1}, {Holder: 1},
			{Keys: make([]int64, 4)}, {Keys: []int64{0}}, {Keys: make([]int64, 3), Holder: -1}, {Keys: make([]int64, 5), Holder: -1},
		}
		for _, h := range neither {
			wantNoPost(t, oneMsg(impl.Msg{Kind: kind, Holding: h}))
		}
	}
	for k, b := range breaches() {
		m := impl.Msg{Kind: 1 + int64(k)%8, Holding: b.broken}
		if zero := sameHolding(b.broken, impl.Holding{}); impl.PostOk(oneMsg(m)) != zero {
			t.Errorf("%s: PostOk of %v is %v", b.what, m, !zero)
		}
	}
}

// One Msg that is not right makes a list no post, wherever it stands.
func TestPostOkWhereOneIsNotRight(t *testing.T) {
	wrong := wrongMsgs()
	for n := 1; n <= 40; n++ {
		for at := range n {
			wantNoPost(t, withMsg(postOf(n, 0), at, wrong[(n+at)%len(wrong)]))
		}
	}
	for _, m := range wrong {
		for _, list := range [][]impl.Msg{{m}, {m, m}, append(postOf(39, 0), m), append(postOf(40, 0), m)} {
			wantNoPost(t, list)
		}
	}
}

func TestPostedWrittenOut(t *testing.T) {
	begin := impl.Msg{To: 1, Kind: impl.MsBegin, Try: 1}
	ready := impl.Msg{Kind: impl.MsReady, Try: 1}
	hand := impl.Msg{To: 1, Kind: impl.MsHand, Try: 1, Epoch: 1, Holding: held(2, 1, 3, 0, 5, 0, 0)}
	for _, one := range []struct{ list, more, want []impl.Msg }{
		{nil, nil, nil},
		{nil, []impl.Msg{begin}, []impl.Msg{begin}},
		{nil, []impl.Msg{begin, ready}, []impl.Msg{begin, ready}},
		{[]impl.Msg{hand}, nil, []impl.Msg{hand}},
		{[]impl.Msg{hand}, []impl.Msg{begin}, []impl.Msg{hand, begin}},
		{[]impl.Msg{begin}, []impl.Msg{hand}, []impl.Msg{begin, hand}},
		{[]impl.Msg{begin}, []impl.Msg{begin}, []impl.Msg{begin, begin}},
		{[]impl.Msg{ready, hand}, []impl.Msg{hand, begin, hand}, []impl.Msg{ready, hand, hand, begin, hand}},
	} {
		wantPosted(t, one.list, one.more, one.want, true)
	}
}

// All of more is Posted where there is room for just all; where there is room for all but one, none is.
func TestPostedAsThereIsRoom(t *testing.T) {
	for n := range 41 {
		list := postOf(n, 0)
		for some := range 41 - n {
			more := postOf(some, n)
			wantPosted(t, list, more, postOf(n+some, 0), true)
		}
		for _, over := range []int{1, 2, 3, 40, 41, 256 - 40, 256, 300} {
			wantPosted(t, list, postOf(40-n+over, n), list, false)
		}
	}
}

func TestPostedWhereOneIsNotRight(t *testing.T) {
	wrong := wrongMsgs()
	for _, m := range wrong {
		for _, n := range []int{0, 1, 3, 39, 40} {
			wantPosted(t, postOf(n, 0), oneMsg(m), postOf(n, 0), false)
		}
	}
	for n := range 41 {
		for some := 1; some <= 42-n; some++ {
			for _, at := range []int{0, some / 2, some - 1} {
				more := withMsg(postOf(some, 50), at, wrong[(n+some)%len(wrong)])
				wantPosted(t, postOf(n, 0), more, postOf(n, 0), false)
			}
		}
	}
}

func TestTakenAndTwiceWrittenOut(t *testing.T) {
	a := impl.Msg{Kind: impl.MsReady, Try: 1}
	b := impl.Msg{To: 1, Kind: impl.MsHand, Try: 2, Epoch: 1, Holding: held(2, 1, 3, 0, 5, 0, 0)}
	c := impl.Msg{To: 1, Kind: impl.MsCopy, Try: 2, At: 7, Turn: 4, Value: 9}
	abc := []impl.Msg{a, b, c}
	wantTaken(t, abc, 0, []impl.Msg{b, c}, a, true)
	wantTaken(t, abc, 1, []impl.Msg{a, c}, b, true)
	wantTaken(t, abc, 2, []impl.Msg{a, b}, c, true)
	wantTaken(t, abc, 3, abc, impl.Msg{}, false)
	wantTaken(t, abc, -1, abc, impl.Msg{}, false)
	wantTaken(t, []impl.Msg{b}, 0, nil, b, true)
	wantTaken(t, []impl.Msg{b, b}, 1, []impl.Msg{b}, b, true)
	wantTaken(t, nil, 0, nil, impl.Msg{}, false)
	wantTwice(t, abc, 0, []impl.Msg{a, b, c, a}, true)
	wantTwice(t, abc, 1, []impl.Msg{a, b, c, b}, true)
	wantTwice(t, abc, 2, []impl.Msg{a, b, c, c}, true)
	wantTwice(t, abc, 3, abc, false)
	wantTwice(t, abc, -1, abc, false)
	wantTwice(t, []impl.Msg{b}, 0, []impl.Msg{b, b}, true)
	wantTwice(t, nil, 0, nil, false)
}

func TestTakenAtEachPlace(t *testing.T) {
	for n := range 41 {
		for at := range n {
			want := append(postOf(at, 0), postOf(n-at-1, at+1)...)
			wantTaken(t, postOf(n, 0), int64(at), want, numbered(at), true)
		}
		for _, at := range noPlaces(n) {
			wantTaken(t, postOf(n, 0), at, postOf(n, 0), impl.Msg{}, false)
		}
	}
}

func TestTwiceAtEachPlace(t *testing.T) {
	for n := range 40 {
		for at := range n {
			wantTwice(t, postOf(n, 0), int64(at), append(postOf(n, 0), numbered(at)), true)
		}
		for _, at := range noPlaces(n) {
			wantTwice(t, postOf(n, 0), at, postOf(n, 0), false)
		}
	}
}

func TestTwiceOfAFullPost(t *testing.T) {
	full := postOf(40, 0)
	for at := range 40 {
		wantTwice(t, full, int64(at), full, false)
	}
	for _, at := range noPlaces(40) {
		wantTwice(t, full, at, full, false)
	}
}

// Msgs that are alike are told apart by where they stand.
func TestAlikeMsgsInAPost(t *testing.T) {
	for n := 2; n <= 40; n++ {
		alike := []impl.Msg{}
		for range n {
			alike = append(alike, numbered(1))
		}
		for at := range n {
			wantTaken(t, alike, int64(at), alike[1:], numbered(1), true)
			marked := withMsg(alike, at, numbered(2))
			wantTaken(t, marked, int64(at), alike[1:], numbered(2), true)
			wantTaken(t, marked, int64(n-1-at), takenAway(marked, n-1-at), marked[n-1-at], true)
		}
	}
}

func takenAway(list []impl.Msg, at int) []impl.Msg {
	return slices.Delete(clonePost(list), at, at+1)
}

// thrownPostMsg is right nine times of ten, if it may be wrong at all.
func thrownPostMsg(source *rand.Rand, mayBeWrong bool) impl.Msg {
	for {
		m := impl.Msg{
			To: source.Int63n(2), Kind: 1 + source.Int63n(8), Try: source.Int63n(100001), At: source.Int63n(8),
			Turn: source.Int63n(1000000001), Value: source.Int63n(10000), Epoch: source.Int63n(100001),
		}
		if source.Intn(3) == 0 {
			m.Holding = thrownHolding(source)
		}
		fields := msgFields()
		if f := fields[source.Intn(len(fields))]; source.Intn(4) == 0 {
			f.set(&m, thrownNear(source, f.least, f.most))
		}
		if msgOkByHand(m) || mayBeWrong && source.Intn(5) == 0 {
			return m
		}
	}
}

func thrownPost(source *rand.Rand, n int, mayBeWrong bool) []impl.Msg {
	post := []impl.Msg{}
	for range n {
		post = append(post, thrownPostMsg(source, mayBeWrong))
	}
	return post
}

func TestPostsThrown(t *testing.T) {
	source := rand.New(rand.NewSource(23))
	right, wrong := 0, 0
	for range 4000 {
		list := thrownPost(source, source.Intn(43), source.Intn(3) == 0)
		more := thrownPost(source, source.Intn(1+max(3, 42-len(list))), source.Intn(3) == 0)
		if postOkByHand(list) {
			right++
		} else {
			wrong++
		}
		wantPostByHand(t, list, more, thrownNear(source, 0, int64(len(list)), int64(len(list))/2, 40))
	}
	if right < 1000 || wrong < 500 {
		t.Errorf("%d were posts, %d were none", right, wrong)
	}
}

// A postRow is a post with all that should lie in it, by the number under which each was Posted: those numbers are the Tries.
type postRow struct {
	post   []impl.Msg
	lies   []int64
	posted []impl.Msg
	did    map[string]int
	sizes  map[int]int
}

// newMsg is as thrown as it may be, but for its Try.
func (r *postRow) newMsg(source *rand.Rand, k int) impl.Msg {
	m := thrownPostMsg(source, false)
	m.Try = int64(len(r.posted) + k)
	return m
}

func (r *postRow) count(what string, done bool) { r.did[fmt.Sprint(what, " ", done)]++ }

// wantLies wants each Msg as it was Posted, all in their order.
func (r *postRow) wantLies(t *testing.T, what string) {
	t.Helper()
	r.sizes[len(r.post)]++
	if !impl.PostOk(r.post) || len(r.post) > 40 {
		t.Fatalf("%s: %v is no post", what, r.post)
	}
	if len(r.post) != len(r.lies) {
		t.Fatalf("%s: %d Msgs, not %d", what, len(r.post), len(r.lies))
	}
	for k, number := range r.lies {
		if !sameMsg(r.post[k], r.posted[number]) {
			t.Fatalf("%s: at %d lies %v, not %v", what, k, r.post[k], r.posted[number])
		}
	}
}

func (r *postRow) doPost(t *testing.T, more []impl.Msg, right bool) {
	t.Helper()
	fits := right && len(r.lies)+len(more) <= 40
	after, is := impl.Posted(r.post, more)
	if is != fits {
		t.Fatalf("%d Posted to %d: %v", len(more), len(r.lies), is)
	}
	if fits {
		for _, m := range more {
			r.lies = append(r.lies, int64(len(r.posted)))
			r.posted = append(r.posted, cloneMsg(m))
		}
	}
	r.post = after
	r.count("Posted", is)
	r.wantLies(t, "Posted")
}

func (r *postRow) doTake(t *testing.T, at int64) {
	t.Helper()
	there := at >= 0 && at < int64(len(r.lies))
	after, m, is := impl.Taken(r.post, at)
	if is != there || !there && !noMsg(m) {
		t.Fatalf("Taken at %d of %d: %v, %v", at, len(r.lies), m, is)
	}
	if there {
		if !sameMsg(m, r.posted[r.lies[at]]) {
			t.Fatalf("Taken at %d: %v, which was Posted as %v", at, m, r.posted[r.lies[at]])
		}
		r.lies = slices.Delete(slices.Clone(r.lies), int(at), int(at)+1)
	}
	r.post = after
	r.count("Taken", is)
	r.wantLies(t, "Taken")
}

func (r *postRow) doTwice(t *testing.T, at int64) {
	t.Helper()
	there := at >= 0 && at < int64(len(r.lies)) && len(r.lies) < 40
	after, is := impl.Twice(r.post, at)
	if is != there {
		t.Fatalf("Twice at %d of %d: %v", at, len(r.lies), is)
	}
	if there {
		if !sameMsg(after[at], after[len(after)-1]) {
			t.Fatalf("Twice at %d: %v, and %v once more", at, after[at], after[len(after)-1])
		}
		r.lies = append(slices.Clone(r.lies), r.lies[at])
	}
	r.post = after
	r.count("Twice", is)
	r.wantLies(t, "Twice")
}

func (r *postRow) thrownPlace(source *rand.Rand) int64 {
	n := int64(len(r.lies))
	if source.Intn(3) == 0 || n == 0 {
		return thrownNear(source, 0, n, 40)
	}
	return source.Int63n(n)
}

// step fills the post as a rule where it is to be filled, and else empties it.
func (r *postRow) step(t *testing.T, source *rand.Rand, fills bool) {
	t.Helper()
	kind := source.Intn(10)
	if fills {
		kind = 9 - kind
	}
	switch {
	case kind < 6:
		r.doTake(t, r.thrownPlace(source))
	case kind < 8:
		r.doTwice(t, r.thrownPlace(source))
	default:
		more, right := []impl.Msg{}, true
		for k := range source.Intn(4) {
			more = append(more, r.newMsg(source, k))
		}
		if len(more) > 0 && source.Intn(6) == 0 {
			more[source.Intn(len(more))].Kind = []int64{0, 9}[source.Intn(2)]
			right = false
		}
		if source.Intn(9) == 0 {
			for len(more) < 40-len(r.lies)+source.Intn(2) {
				more = append(more, r.newMsg(source, len(more)))
			}
		}
		r.doPost(t, more, right)
	}
}

// Promise 16, over long rows: what was Posted is Taken as it was, all else stays in its order, what comes twice is alike.
func TestWhatIsPostedIsTaken(t *testing.T) {
	source := rand.New(rand.NewSource(24))
	did, sizes := map[string]int{}, map[int]int{}
	for range 40 {
		r := postRow{did: did, sizes: sizes}
		for phase := range 20 {
			for range 30 {
				r.step(t, source, phase%2 == 0)
			}
		}
		for len(r.lies) > 0 {
			r.doTake(t, 0)
		}
		r.doTake(t, 0)
	}
	for _, what := range []string{"Posted", "Taken", "Twice"} {
		for _, done := range eachFlag {
			if n := did[fmt.Sprint(what, " ", done)]; n < 300 {
				t.Errorf("%s was %v %d times", what, done, n)
			}
		}
	}
	for n := range 41 {
		if sizes[n] < 20 {
			t.Errorf("a post had %d Msgs %d times", n, sizes[n])
		}
	}
}

// A postStep is one thing done to a post, told by what it is given.
type postStep struct {
	what string
	at   int64
}

// after goes on from a row with another one, and leaves the first as it was.
func (s postStep) after(t *testing.T, r postRow) postRow {
	t.Helper()
	r.lies, r.posted = slices.Clone(r.lies), slices.Clone(r.posted)
	at := s.at
	if at > 1 {
		at += int64(len(r.lies)) - 3
	}
	switch s.what {
	case "Posted":
		r.doPost(t, postOf(int(s.at), len(r.posted)), true)
	case "Taken":
		r.doTake(t, at)
	case "Twice":
		r.doTwice(t, at)
	}
	return r
}

// Promise 16, over all short rows from posts that are empty, nearly so, nearly full and full.
func TestWhatIsPostedIsTakenInEachShortRow(t *testing.T) {
	steps := []postStep{{"Posted", 0}, {"Posted", 1}, {"Posted", 3}}
	for at := int64(-1); at <= 3; at++ {
		steps = append(steps, postStep{"Taken", at}, postStep{"Twice", at})
	}
	var from func(r postRow, left int)
	from = func(r postRow, left int) {
		if left == 0 {
			return
		}
		for _, s := range steps {
			from(s.after(t, r), left-1)
		}
	}
	for _, one := range []struct{ n, steps int }{{0, 4}, {1, 4}, {3, 3}, {37, 3}, {39, 3}, {40, 3}} {
		r := postRow{did: map[string]int{}, sizes: map[int]int{}}
		r.doPost(t, postOf(one.n, 0), true)
		from(r, one.steps)
	}
}

// One that is Posted, and then Taken from where it went, leaves the post as it was; so does what comes twice.
func TestTakenUndoesPostedAndTwice(t *testing.T) {
	for n := range 40 {
		list, last := postOf(n, 0), int64(n)
		for k := range 6 {
			more, _ := impl.Posted(list, postOf(1, 60+k))
			wantTaken(t, more, last, list, numbered(60+k), true)
		}
		for at := range n {
			more, _ := impl.Twice(list, int64(at))
			wantTaken(t, more, last, list, numbered(at), true)
			wantTaken(t, more, int64(at), append(takenAway(list, at), numbered(at)), numbered(at), true)
		}
	}
}

// A postCall is a call with its place given; what has no Msg to answer answers the zero one.
type postCall struct {
	name string
	call func(list, more []impl.Msg) ([]impl.Msg, impl.Msg)
}

func postCalls() []postCall {
	calls := []postCall{
		{"PostOk", func(list, _ []impl.Msg) ([]impl.Msg, impl.Msg) { impl.PostOk(list); return nil, impl.Msg{} }},
		{"Posted", func(list, more []impl.Msg) ([]impl.Msg, impl.Msg) {
			got, _ := impl.Posted(list, more)
			return got, impl.Msg{}
		}},
	}
	for _, at := range []int64{math.MinInt64, -1, 0, 1, 2, 5, 38, 39, 40, math.MaxInt64} {
		calls = append(calls,
			postCall{fmt.Sprint("Taken at ", at), func(list, _ []impl.Msg) ([]impl.Msg, impl.Msg) {
				got, m, _ := impl.Taken(list, at)
				return got, m
			}},
			postCall{fmt.Sprint("Twice at ", at), func(list, _ []impl.Msg) ([]impl.Msg, impl.Msg) {
				got, _ := impl.Twice(list, at)
				return got, impl.Msg{}
			}})
	}
	return calls
}

type twoPosts struct{ list, more []impl.Msg }

// postsToLeaveAlone are those that are done, those that stay as they are, and those that are none.
func postsToLeaveAlone() []twoPosts {
	list := []twoPosts{{nil, nil}, {[]impl.Msg{}, []impl.Msg{}}, {oneMsg(numbered(1)), oneMsg(numbered(1))}}
	for _, n := range []int{0, 1, 2, 3, 6, 38, 39, 40, 41} {
		for _, some := range []int{0, 1, 2, 3, 40, 41} {
			list = append(list, twoPosts{postOf(n, 1), postOf(some, 70)})
		}
	}
	for k, m := range wrongMsgs() {
		if k%5 == 0 {
			m.Holding.Keys = append(slices.Clone(m.Holding.Keys), 3)
			list = append(list, twoPosts{postOf(3, 1), append(postOf(2, 70), m)}, twoPosts{append(postOf(2, 1), m), postOf(3, 70)})
		}
	}
	return list
}

// roomy is a copy with Msgs in the spare room behind it, and with spare room behind all Keys; and all of that room.
func roomy(list []impl.Msg) (given, whole []impl.Msg) {
	whole = append(clonePost(list), postOf(6, 900)...)
	for k := range whole {
		keys := whole[k].Holding.Keys
		whole[k].Holding.Keys = append(slices.Clone(keys), ramp(4, 7000)...)[:len(keys)]
	}
	return whole[:len(list)], whole
}

func (p twoPosts) wantLeft(t *testing.T, name string, wholes ...[]impl.Msg) {
	t.Helper()
	for k, list := range [][]impl.Msg{p.list, p.more} {
		whole := wholes[k]
		if !samePost(whole, append(clonePost(list), postOf(6, 900)...)) {
			t.Fatalf("%s: argument %d of %v is %v now", name, k, list, whole)
		}
		for _, m := range whole {
			if keys := m.Holding.Keys; !slices.Equal(keys[len(keys):len(keys)+4], ramp(4, 7000)) {
				t.Fatalf("%s: argument %d: behind the Keys of %v lies %v now", name, k, m, keys[:len(keys)+4])
			}
		}
	}
}

// spoilPost writes over all the memory of an answer, its spare room too.
func spoilPost(list []impl.Msg) {
	list = list[:cap(list)]
	for k := range list {
		spoil(list[k].Holding.Keys)
		list[k] = impl.Msg{To: -77, Kind: -77, Try: -77, Holding: impl.Holding{Turn: -77}}
	}
}

// Promise 21: nothing is written into an argument or behind it, and none of it is handed out.
func TestPostLeavesItsArguments(t *testing.T) {
	for _, p := range postsToLeaveAlone() {
		for _, one := range postCalls() {
			list, wholeList := roomy(p.list)
			more, wholeMore := roomy(p.more)
			got, m := one.call(list, more)
			p.wantLeft(t, one.name, wholeList, wholeMore)
			spoilPost(got)
			spoil(m.Holding.Keys)
			p.wantLeft(t, one.name+", written over", wholeList, wholeMore)
		}
	}
}

// An answer that was written over does not come back with the next one.
func TestPostAnswersAreNewMemory(t *testing.T) {
	for _, p := range postsToLeaveAlone() {
		for _, one := range postCalls() {
			first, m := one.call(p.list, p.more)
			want, it := clonePost(first), cloneMsg(m)
			second, again := one.call(p.list, p.more)
			spoilPost(first)
			spoil(m.Holding.Keys)
			third, last := one.call(p.list, p.more)
			if !samePost(second, want) || !sameMsg(again, it) || !samePost(third, want) || !sameMsg(last, it) {
				t.Fatalf("%s of %v: an answer is changed as another one is written over", one.name, p)
			}
		}
	}
}

// keysOfAnswer are all lists of one answer that hold something.
func keysOfAnswer(post []impl.Msg, m impl.Msg) [][]int64 {
	lists := [][]int64{}
	for _, one := range append(slices.Clone(post), m) {
		if len(one.Holding.Keys) > 0 {
			lists = append(lists, one.Holding.Keys)
		}
	}
	return lists
}

// wantApart writes over one list after the other, with the room behind it, and wants those still to come as they were.
func wantApart(t *testing.T, name string, lists [][]int64) {
	t.Helper()
	before := [][]int64{}
	for _, list := range lists {
		before = append(before, slices.Clone(list))
	}
	for k, list := range lists {
		if !slices.Equal(list, before[k]) {
			t.Fatalf("%s: list %d shares memory with one ahead of it", name, k)
		}
		spoil(list)
	}
}

// No two lists of one answer share any, also where all Msgs that are given share their Keys, and where one Msg stands twice.
func TestListsOfAPostAreApart(t *testing.T) {
	shared := numbered(1)
	for _, n := range []int{1, 2, 3, 38, 39, 40} {
		alike := slices.Repeat(oneMsg(shared), n)
		for _, p := range []twoPosts{{alike, nil}, {alike, oneMsg(shared)}, {alike, slices.Repeat(oneMsg(shared), 3)}, {alike, alike}, {postOf(n, 1), postOf(2, 1)}, {nil, alike}} {
			for _, one := range postCalls() {
				post, m := one.call(p.list, p.more)
				wantApart(t, one.name, keysOfAnswer(post, m))
				post, m = one.call(p.list, p.more)
				lists := keysOfAnswer(post, m)
				slices.Reverse(lists)
				wantApart(t, one.name+", the last one first", lists)
			}
		}
		if !sameMsg(shared, numbered(1)) {
			t.Fatalf("the Keys that all share are %v now", shared)
		}
	}
}

// What is given twice, or lies in the spare room of the other, is Posted as what lies apart is.
func TestPostedOfListsThatOverlap(t *testing.T) {
	for n := range 21 {
		whole := postOf(20, 0)
		wantPosted(t, whole[:n], whole[:n], append(postOf(n, 0), postOf(n, 0)...), true)
		for some := range 21 - n {
			wantPosted(t, whole[:n], whole[n:n+some], postOf(n+some, 0), true)
			wantPosted(t, whole[n:n+some], whole[:n], append(postOf(some, n), postOf(n, 0)...), true)
			wantPosted(t, whole[:n], whole[some:], append(postOf(n, 0), postOf(20-some, some)...), true)
		}
		if !samePost(whole, postOf(20, 0)) {
			t.Fatalf("what was given is %v now", whole)
		}
	}
}

// The spare room behind a list tells nothing: what lies there is not in it, and what is wrong there does no harm.
func TestPostWithRoomBehindIt(t *testing.T) {
	for n := range 41 {
		whole := append(postOf(n, 0), slices.Repeat([]impl.Msg{{}}, 8)...)
		for _, at := range []int64{-1, 0, int64(n) - 1, int64(n), int64(n) + 1, int64(n) + 7, int64(n) + 8} {
			wantPostByHand(t, whole[:n], postOf(2, 70), at)
		}
	}
}

// Promise 21: each answers at every argument, with numbers from one end of their range to the other.
func TestPostAnswersAtEveryArgument(t *testing.T) {
	ends := []int64{math.MinInt64, math.MinInt64 + 1, -1 << 32, -1, 0, 1, 2, 7, 8, 9, 39, 40, 41, 9999, 10000, 100000, 100001, 1000000000, 1000000001, 1 << 32, math.MaxInt64 - 1, math.MaxInt64}
	for _, f := range msgFields() {
		for _, n := range ends {
			m := numbered(1)
			f.set(&m, n)
			for _, at := range ends {
				wantPostByHand(t, oneMsg(m), postOf(2, 3), at)
				wantPostByHand(t, postOf(2, 3), oneMsg(m), at)
			}
		}
	}
	for _, h := range []impl.Holding{{}, {Keys: ends}, {Keys: ends[:4]}, {Keys: ends[4:8], Kind: ends[0], Holder: ends[0], Turn: ends[0]}, {Keys: ends[4:8], Kind: ends[20], Holder: ends[20], Turn: ends[20]}} {
		for _, at := range ends {
			m := impl.Msg{Kind: 1, Holding: h}
			wantPostByHand(t, oneMsg(m), postOf(2, 3), at)
			wantPostByHand(t, postOf(2, 3), oneMsg(m), at)
		}
	}
	long := postOf(5000, 0)
	for _, at := range ends {
		wantPostByHand(t, long, nil, at)
		wantPostByHand(t, long[:40], long, at)
		wantPostByHand(t, nil, long, at)
	}
}
