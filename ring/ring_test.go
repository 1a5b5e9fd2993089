package ring_test

import (
	"fmt"
	"math"
	"slices"
	"strings"
	"testing"

	"tiller/api"
	"tiller/ring"
)

const modulus = 16777213

// whole is a point by whole numbers.
type whole struct{ re, im int64 }

// pointOf goes through a text as the chapter tells it, without a complex number.
func pointOf(text string) whole {
	p := whole{1, 0}
	for _, b := range []byte(text + "\x00\x00\x00") {
		re := (3*p.re - 2*p.im + int64(b)) % modulus
		im := (2*p.re + 3*p.im + 1) % modulus
		p = whole{(re + modulus) % modulus, (im + modulus) % modulus}
	}
	return p
}

func (p whole) number() complex128 { return complex(float64(p.re), float64(p.im)) }

func (p whole) ahead(q whole) bool { return p.re < q.re || p.re == q.re && p.im < q.im }

// mark is a point of a host.
type mark struct {
	at   whole
	host int
}

// marksOf are all points of hosts, rising, found by putting each in its place.
func marksOf(hosts []int, points int) []mark {
	var all []mark
	for _, host := range hosts {
		for k := range points {
			m := mark{pointOf(fmt.Sprintf("host/%d/%d", host, k)), host}
			place := 0
			for place < len(all) && (all[place].at.ahead(m.at) || all[place].at == m.at && all[place].host < host) {
				place++
			}
			all = slices.Insert(all, place, m)
		}
	}
	return all
}

// hostOf is a shard's host among marks.
func hostOf(marks []mark, shard int) int {
	at := pointOf(fmt.Sprintf("shard/%d", shard))
	for _, m := range marks {
		if !m.at.ahead(at) {
			return m.host
		}
	}
	return marks[0].host
}

// rings are hosts in many orders.
func rings() [][]int {
	all := []int{7, 0, 15, 3, 12, 1, 9, 14, 2, 11, 4, 8, 13, 5, 10, 6}
	lists := [][]int{{0}, {15}, {3, 1}, {1, 3}, {0, 1, 2, 3, 4}, {15, 14, 9, 2}, {2, 9, 14, 15}, {8, 0, 15}}
	for n := 5; n <= len(all); n++ {
		lists = append(lists, all[:n:n])
	}
	return lists
}

func pointCounts() []int { return []int{1, 2, 3, 7, 63, api.MaxPoints} }

// strangeShards are numbers below 0, and far above MaxShards.
func strangeShards() []int {
	return []int{math.MinInt, -1000000, -17, -1, api.MaxShards, api.MaxShards + 1, 1 << 32, math.MaxInt}
}

// alike is a shard that lies at a host's first point.
type alike struct{ shard, host int }

func alikes() []alike {
	return []alike{
		{6368505548018949481, 4}, {7709480635062877397, 8}, {3346842474229758940, 12}, {4087828682360479707, 9}, {6740878447393147179, 7},
		{3267401980513216141, 11}, {4803269925540289247, 3}, {4209758895599321835, 14}, {6468821493964253994, 15},
	}
}

// someShards are the first ones, strange ones, and (as the first ones lie side by side, far from most hosts) such as lie among the points of many hosts.
func someShards() []int {
	list := strangeShards()
	for shard := range 40 {
		list = append(list, shard)
	}
	for _, x := range alikes() {
		for near := -10; near <= 10; near++ {
			list = append(list, x.shard+near)
		}
	}
	return list
}

func made(t *testing.T, hosts []int, points int) *ring.Ring {
	t.Helper()
	r, e := ring.New(hosts, points)
	if r == nil || e != api.OK {
		t.Fatalf("New(%v, %d) is %v, %d", hosts, points, r, e)
	}
	return r
}

// owners are the hosts of shards.
func owners(t *testing.T, r *ring.Ring, shards []int) []int {
	t.Helper()
	var hosts []int
	for _, shard := range shards {
		host, ok := r.Host(shard)
		if !ok {
			t.Fatalf("Host(%d) is false", shard)
		}
		hosts = append(hosts, host)
	}
	return hosts
}

// told is all that a ring tells.
func told(r *ring.Ring) string {
	var out strings.Builder
	for z, host := range r.All() {
		fmt.Fprint(&out, z, host, " ")
	}
	for host := range api.MaxHosts {
		fmt.Fprint(&out, r.Shards(host, api.MaxShards))
	}
	for _, shard := range someShards() {
		host, ok := r.Host(shard)
		fmt.Fprint(&out, host, ok, " ")
	}
	return fmt.Sprint(out.String(), r.Hosts())
}

// spoil changes a list with its spare room.
func spoil(list []int) {
	list = list[:cap(list)]
	for i := range list {
		list[i] = 5 - i
	}
}

// sameBits: alike to the bit, so that a nought below 0 is another one.
func sameBits(a, b complex128) bool {
	return math.Float64bits(real(a)) == math.Float64bits(real(b)) && math.Float64bits(imag(a)) == math.Float64bits(imag(b))
}

// P6.1

func wantPoint(t *testing.T, text string) {
	t.Helper()
	if got, want := ring.Point(text), pointOf(text).number(); !sameBits(got, want) {
		t.Fatalf("Point(%.40q) is %v, want %v", text, got, want)
	}
}

func TestPointOfTheEmptyText(t *testing.T) {
	if got := ring.Point(""); got != 16777190+55i {
		t.Fatal(got)
	}
	wantPoint(t, "")
}

// The byte 1 makes 4 + 3i of 1, then come 6 + 18i, -18 + 67i (16777195 + 67i) and -188 + 166i.
func TestPointByHand(t *testing.T) {
	if got := ring.Point("\x01"); got != 16777025+166i {
		t.Fatal(got)
	}
}

func TestPointOfEachByte(t *testing.T) {
	for b := range 256 {
		one := string([]byte{byte(b)})
		for _, n := range []int{1, 2, 3, 17, 100} {
			wantPoint(t, strings.Repeat(one, n))
			wantPoint(t, "\x00"+strings.Repeat(one, n))
			wantPoint(t, "\xff"+strings.Repeat(one, n)+"\x00\xff")
		}
	}
}

func TestPointOfManyTexts(t *testing.T) {
	for i := range 5000 {
		wantPoint(t, fmt.Sprint("host/", i%16, "/", i/16))
		wantPoint(t, fmt.Sprint("shard/", i-100))
		wantPoint(t, fmt.Sprint("flow ", i*7919, " é\xff\x00"))
	}
}

func TestPointOfLongTexts(t *testing.T) {
	for _, n := range []int{api.MaxText, 4095, 65536, 1<<20 + 1} {
		for _, one := range []string{"\x00", "\xff", "a", "\xff\x00"} {
			wantPoint(t, strings.Repeat(one, n))
		}
	}
}

// Parts at both ends of what they may be. The last step to the real part 0 comes from below 0, from 0 and from above it.
func TestPointAtTheEdges(t *testing.T) {
	for _, x := range []struct {
		text string
		want complex128
	}{
		{"ycvpgfuxeokxec", 4400359i},
		{"ugpadddxdxvokh", 1920260i},
		{"gcmuvyopjfptdb", 13151533i},
		{"krahswketqebqa", 9735684i},
		{"sprbfpeyqtgghe", 3726338},
		{"epjqlusqlgxlif", 16777212 + 3844477i},
		{"amdqkvxqpcbgpd", 16777212 + 14827567i},
		{"zfoullrhopznzc", 3908619 + 16777212i},
		{"airruwqmjzmxxc", 3981221 + 16777212i},
	} {
		wantPoint(t, x.text)
		if got := ring.Point(x.text); got != x.want {
			t.Fatalf("Point(%q) is %v, want %v", x.text, got, x.want)
		}
	}
}

func TestPartsAreWithinBounds(t *testing.T) {
	for i := range 20000 {
		z := ring.Point(fmt.Sprint(i * i))
		for _, part := range []float64{real(z), imag(z)} {
			if part < 0 || part >= modulus || part != math.Trunc(part) || math.Signbit(part) {
				t.Fatal(i, z)
			}
		}
	}
}

func TestBefore(t *testing.T) {
	rising := []complex128{-3 + 9i, -3 + 10i, -2i, 0, 55i, 1 + 9i, 2, 2 + 1i, 2 + 2i, 2 + 16777212i, 16777212, 16777212 + 1i, 16777212 + 16777212i}
	for i, a := range rising {
		for j, b := range rising {
			if got := ring.Before(a, b); got != (i < j) {
				t.Fatalf("Before(%v, %v) is %v", a, b, got)
			}
		}
	}
}

func TestBeforeOfPoints(t *testing.T) {
	var texts []string
	for k := range 40 {
		texts = append(texts, fmt.Sprint("host/1/", k), fmt.Sprint("host/0/", k), fmt.Sprint("x", k*k))
	}
	for _, a := range texts {
		for _, b := range texts {
			if got := ring.Before(ring.Point(a), ring.Point(b)); got != pointOf(a).ahead(pointOf(b)) {
				t.Fatalf("Before of %q and %q is %v", a, b, got)
			}
		}
	}
}

func TestTurn(t *testing.T) {
	for _, x := range []struct{ z, want complex128 }{
		{3 + 4i, -4 + 3i}, {-4 + 3i, -3 - 4i}, {-3 - 4i, 4 - 3i}, {4 - 3i, 3 + 4i},
		{0, 0}, {1, 1i}, {1i, -1}, {-1, -1i}, {-1i, 1},
		{16777212 + 16777211i, -16777211 + 16777212i}, {1<<53 - 1 - 1<<52*1i, 1<<52 + (1<<53-1)*1i},
	} {
		if got := ring.Turn(x.z); got != x.want {
			t.Fatalf("Turn(%v) is %v, want %v", x.z, got, x.want)
		}
	}
	for i := range 500 {
		z := ring.Point(fmt.Sprint(i))
		if ring.Turn(z) != complex(-imag(z), real(z)) || ring.Turn(ring.Turn(ring.Turn(ring.Turn(z)))) != z {
			t.Fatal(z)
		}
	}
}

// R1: numbers that are no points.
func TestStrangeNumbers(t *testing.T) {
	parts := []float64{math.NaN(), math.Inf(1), math.Inf(-1), math.MaxFloat64, 0.5, math.Copysign(0, -1)}
	for _, re := range parts {
		for _, im := range parts {
			z := complex(re, im)
			ring.Turn(z)
			if ring.Before(z, z) {
				t.Fatal(z)
			}
		}
	}
}

// P6.2

func TestNewRefuses(t *testing.T) {
	right := []int{1, 0}
	for _, x := range []struct {
		hosts  []int
		points int
	}{
		{right, 0}, {right, -1}, {right, math.MinInt}, {right, api.MaxPoints + 1}, {right, math.MaxInt},
		{nil, 0}, {nil, api.MaxPoints + 1}, {[]int{}, -1},
		{[]int{-1}, 4}, {[]int{api.MaxHosts}, 4}, {[]int{math.MinInt}, 4}, {[]int{math.MaxInt}, 4},
		{[]int{0, 1, -1}, 4}, {[]int{api.MaxHosts, 0, 1}, 4}, {[]int{0, 1 << 32}, 4},
		{[]int{0, 0}, 4}, {[]int{3, 1, 3}, 1}, {[]int{15, 2, 7, 15}, api.MaxPoints}, {[]int{5, 5, 5}, 1},
		{[]int{0, 0}, 0}, {[]int{16}, 65},
		{make([]int, 100000), 64},
	} {
		if r, e := ring.New(x.hosts, x.points); r != nil || e != api.ErrArg {
			t.Fatalf("New(%v, %d) is %v, %d", x.hosts[:min(len(x.hosts), 5)], x.points, r, e)
		}
	}
}

func TestNewTakesTheEdges(t *testing.T) {
	for _, points := range []int{1, api.MaxPoints} {
		for _, host := range []int{0, api.MaxHosts - 1} {
			made(t, []int{host}, points)
		}
		made(t, []int{15, 0, 14, 1, 13, 2, 12, 3, 11, 4, 10, 5, 9, 6, 8, 7}, points)
	}
}

func TestRingWithoutHosts(t *testing.T) {
	for _, hosts := range [][]int{nil, {}} {
		r := made(t, hosts, 3)
		for _, shard := range someShards() {
			if host, ok := r.Host(shard); host != 0 || ok {
				t.Fatalf("Host(%d) is %d, %v", shard, host, ok)
			}
		}
		for host := range api.MaxHosts {
			if list := r.Shards(host, api.MaxShards); len(list) != 0 {
				t.Fatalf("Shards(%d) are %v", host, list)
			}
		}
		if len(r.Hosts()) != 0 {
			t.Fatal(r.Hosts())
		}
		for z, host := range r.All() {
			t.Fatal(z, host)
		}
	}
}

func TestHost(t *testing.T) {
	for _, points := range pointCounts() {
		for _, hosts := range rings() {
			r, marks := made(t, hosts, points), marksOf(hosts, points)
			for _, shard := range someShards() {
				if host, ok := r.Host(shard); !ok || host != hostOf(marks, shard) {
					t.Fatalf("%v, %d points: Host(%d) is %d, %v, want %d", hosts, points, shard, host, ok, hostOf(marks, shard))
				}
			}
		}
	}
}

// A shard at the very point of a host belongs to it, whoever comes behind it.
func TestHostOfAnAlikePoint(t *testing.T) {
	for _, x := range alikes() {
		shard, host := x.shard, x.host
		if pointOf(fmt.Sprintf("shard/%d", shard)) != pointOf(fmt.Sprintf("host/%d/0", host)) {
			t.Fatalf("shard %d is not at a point of host %d", shard, host)
		}
		for other := range api.MaxHosts {
			if other == host {
				continue
			}
			for _, points := range []int{1, 5, api.MaxPoints} {
				if got, ok := made(t, []int{other, host}, points).Host(shard); got != host || !ok {
					t.Fatalf("Host(%d) beside %d is %d, %v, want %d", shard, other, got, ok, host)
				}
			}
		}
	}
}

// Shards behind the last point are the first one's.
func TestHostBehindTheLastPoint(t *testing.T) {
	seen := 0
	for _, hosts := range [][]int{{10, 15}, {15, 10, 13}, {0, 1}, {9, 3, 6}} {
		marks := marksOf(hosts, 1)
		r := made(t, hosts, 1)
		for shard := range 3000 {
			if !marks[len(marks)-1].at.ahead(pointOf(fmt.Sprintf("shard/%d", shard))) {
				continue
			}
			seen++
			if host, ok := r.Host(shard); host != marks[0].host || !ok {
				t.Fatalf("%v: Host(%d) is %d, %v, want %d", hosts, shard, host, ok, marks[0].host)
			}
		}
	}
	if seen < 100 {
		t.Fatalf("%d shards lie behind the last point", seen)
	}
}

func TestShardsOfOneHost(t *testing.T) {
	r := made(t, []int{0}, 4)
	if got := r.Shards(0, 4); !slices.Equal(got, []int{0, 1, 2, 3}) {
		t.Fatal(got)
	}
	for shards, want := range map[int]int{math.MinInt: 0, -1: 0, 0: 0, 1: 1, 15: 15, 16: 16, 17: 16, 1 << 40: 16, math.MaxInt: 16} {
		if got := r.Shards(0, shards); len(got) != want {
			t.Fatalf("Shards(0, %d) are %v", shards, got)
		}
	}
}

func TestShards(t *testing.T) {
	for _, points := range pointCounts() {
		for _, hosts := range rings() {
			r, marks := made(t, hosts, points), marksOf(hosts, points)
			for _, shards := range []int{-1, 0, 1, 2, 9, api.MaxShards - 1, api.MaxShards, api.MaxShards + 1, math.MaxInt} {
				var want [api.MaxHosts][]int
				for shard := range min(shards, api.MaxShards) {
					host := hostOf(marks, shard)
					want[host] = append(want[host], shard)
				}
				for host := range want {
					if got := r.Shards(host, shards); !slices.Equal(got, want[host]) {
						t.Fatalf("%v, %d points: Shards(%d, %d) are %v, want %v", hosts, points, host, shards, got, want[host])
					}
				}
			}
		}
	}
}

func TestShardsOfStrangers(t *testing.T) {
	r := made(t, []int{3, 5}, 8)
	for _, host := range []int{math.MinInt, -1, 0, 2, 4, 6, 15, 16, math.MaxInt} {
		if got := r.Shards(host, api.MaxShards); len(got) != 0 {
			t.Fatalf("Shards(%d) are %v", host, got)
		}
	}
}

func TestHosts(t *testing.T) {
	for _, points := range pointCounts() {
		for _, hosts := range rings() {
			want := slices.Sorted(slices.Values(hosts))
			if got := made(t, hosts, points).Hosts(); !slices.Equal(got, want) {
				t.Fatalf("Hosts are %v, want %v", got, want)
			}
		}
	}
}

func TestAll(t *testing.T) {
	for _, points := range pointCounts() {
		for _, hosts := range rings() {
			marks := marksOf(hosts, points)
			all := made(t, hosts, points).All()
			for range 2 {
				next := 0
				for z, host := range all {
					if next == len(marks) || !sameBits(z, marks[next].at.number()) || host != marks[next].host {
						t.Fatalf("%v, %d points: All tells %v %d at place %d", hosts, points, z, host, next)
					}
					next++
				}
				if next != len(marks) {
					t.Fatalf("%v, %d points: All tells %d", hosts, points, next)
				}
			}
		}
	}
}

func TestAllStoppedAnywhere(t *testing.T) {
	r := made(t, []int{6, 2, 11}, 5)
	all, marks := r.All(), marksOf([]int{6, 2, 11}, 5)
	for stop := range marks {
		next := 0
		for z, host := range all {
			if z != marks[next].at.number() || host != marks[next].host {
				t.Fatal(stop, next, z, host)
			}
			if next == stop {
				break
			}
			next++
		}
		if next != stop {
			t.Fatalf("stopped at %d, want %d", next, stop)
		}
	}
}

func TestAllWithinAll(t *testing.T) {
	r := made(t, []int{4, 9}, 3)
	all, seen := r.All(), 0
	for range all {
		for range all {
			seen++
		}
		for range r.All() {
			break
		}
	}
	if seen != 36 {
		t.Fatal(seen)
	}
}

// A ring of one host has just its points (the chapter's example 2).
func TestAllOfOneHost(t *testing.T) {
	var want []complex128
	for k := range 9 {
		want = append(want, ring.Point(fmt.Sprint("host/13/", k)))
	}
	seen := 0
	for z, host := range made(t, []int{13}, 9).All() {
		if !slices.Contains(want, z) || host != 13 {
			t.Fatal(z, host)
		}
		seen++
	}
	if seen != 9 {
		t.Fatal(seen)
	}
}

func TestOrderOfHostsDoesNotCount(t *testing.T) {
	want := told(made(t, []int{0, 2, 5, 9}, 6))
	for _, hosts := range [][]int{{9, 5, 2, 0}, {2, 0, 9, 5}, {5, 9, 0, 2}} {
		if told(made(t, hosts, 6)) != want {
			t.Fatal(hosts)
		}
	}
}

// R2

func TestNewKeepsNothing(t *testing.T) {
	room := []int{9, 3, 12, 7, 7, 99}
	was := slices.Clone(room)
	hosts := room[:3]
	r := made(t, hosts, 4)
	if !slices.Equal(room, was) {
		t.Fatalf("changed to %v", room)
	}
	want := told(r)
	spoil(hosts)
	if told(r) != want {
		t.Fatal("the ring kept the list")
	}
}

func TestNewChangesNothingWhenItRefuses(t *testing.T) {
	for _, room := range [][]int{{9, 3, 9, 1}, {9, 3, -1, 0}, {16, 2, 1, 0}} {
		was := slices.Clone(room)
		if _, e := ring.New(room[:3], 4); e != api.ErrArg || !slices.Equal(room, was) {
			t.Fatal(e, room, was)
		}
	}
}

func TestAnswersAreNewMemory(t *testing.T) {
	r := made(t, []int{8, 3, 12}, 4)
	want := told(r)
	for range 2 {
		spoil(r.Hosts())
		for _, host := range []int{8, 3, 12} {
			spoil(r.Shards(host, api.MaxShards))
		}
		if told(r) != want {
			t.Fatal("an answer was the ring's own")
		}
	}
	a, b := r.Hosts(), r.Hosts()
	spoil(a)
	if !slices.Equal(b, []int{3, 8, 12}) {
		t.Fatal(b)
	}
}

// R4
func TestRingsKnowNothingOfEachOther(t *testing.T) {
	r := made(t, []int{1, 2}, 4)
	want := told(r)
	made(t, []int{3}, 9)
	ring.New([]int{1, 1}, 4)
	if told(r) != want || slices.Contains(r.Hosts(), 3) {
		t.Fatal("another ring changed this one")
	}
}

// P6.3

func TestShard(t *testing.T) {
	flows := []string{"", "x", "\x00", "\xff", "é", strings.Repeat("n", api.MaxName), strings.Repeat("\xff", 70000)}
	for i := range 500 {
		flows = append(flows, fmt.Sprint("flow", i*31, "/x"))
	}
	for _, flow := range flows {
		p := pointOf(flow)
		for _, shards := range []int{1, 2, 3, 7, 15, 16, 17, 1000, modulus - 1, modulus, modulus + 1, 1 << 25, 1 << 40, math.MaxInt} {
			if got, want := ring.Shard(flow, shards), int((p.re+p.im)%int64(shards)); got != want {
				t.Fatalf("Shard(%.40q, %d) is %d, want %d", flow, shards, got, want)
			}
		}
		for _, shards := range []int{0, -1, -16, math.MinInt} {
			if got := ring.Shard(flow, shards); got != 0 {
				t.Fatalf("Shard(%.40q, %d) is %d", flow, shards, got)
			}
		}
	}
}

// The empty text lies at 16777190 + 55i, together 16777245.
func TestShardByHand(t *testing.T) {
	for shards, want := range map[int]int{1: 0, 2: 1, 10: 5, 16: 13, 1000: 245, 16777244: 1, 16777245: 0, 16777246: 16777245} {
		if got := ring.Shard("", shards); got != want {
			t.Fatalf("Shard of %d is %d, want %d", shards, got, want)
		}
	}
}

// P6.4

func TestRight(t *testing.T) {
	all := []int{0, 1, 2, 3, 4, 5, 6, 7, 8, 9, 10, 11, 12, 13, 14, 15}
	for _, x := range []struct {
		version int
		hosts   []int
		want    bool
	}{
		{0, nil, true}, {0, []int{}, true}, {1, []int{0}, true}, {7, []int{15}, true}, {7, all, true}, {7, []int{0, 15}, true},
		{api.MaxNumber, []int{2, 3, 9}, true}, {api.MaxNumber - 1, nil, true},
		{-1, nil, false}, {math.MinInt, nil, false}, {api.MaxNumber + 1, nil, false}, {math.MaxInt, []int{1}, false}, {-1, []int{1, 2}, false},
		{3, []int{-1}, false}, {3, []int{16}, false}, {3, []int{math.MinInt}, false}, {3, []int{math.MaxInt}, false},
		{3, []int{-1, 0}, false}, {3, []int{-2, -1}, false}, {3, []int{0, 16}, false}, {3, []int{14, 15, 16}, false},
		{3, []int{2, 1}, false}, {3, []int{1, 1}, false}, {3, []int{0, 0}, false}, {3, []int{0, 4, 3, 9}, false}, {3, []int{0, 4, 4, 9}, false}, {3, []int{5, 9, 0}, false},
		{3, append(slices.Clone(all), 15), false}, {3, append(slices.Clone(all), 16), false},
	} {
		was := slices.Clone(x.hosts)
		if got := ring.Right(api.View{Version: x.version, Hosts: x.hosts}); got != x.want || !slices.Equal(x.hosts, was) {
			t.Fatalf("Right of %d %v is %v", x.version, was, got)
		}
	}
}

func TestNewer(t *testing.T) {
	for _, x := range []struct {
		first, second int
		want          string
	}{
		{2, 2, "first"}, {2, 3, "second"}, {3, 2, "first"}, {0, 0, "first"}, {0, 1, "second"},
		{api.MaxNumber, api.MaxNumber, "first"}, {api.MaxNumber - 1, api.MaxNumber, "second"},
		{-1, -2, "first"}, {-2, -1, "second"}, {math.MinInt, math.MaxInt, "second"}, {math.MaxInt, math.MinInt, "first"},
	} {
		a, b := api.View{Version: x.first, Hosts: []int{4, 1}}, api.View{Version: x.second, Hosts: []int{2, 3, 99}}
		want := a
		if x.want == "second" {
			want = b
		}
		if got := ring.Newer(a, b); got.Version != want.Version || !slices.Equal(got.Hosts, want.Hosts) {
			t.Fatalf("Newer of %d and %d is %v, want %v", x.first, x.second, got, want)
		}
	}
}

func TestNewerOfViewsWithoutHosts(t *testing.T) {
	full := api.View{Version: 4, Hosts: []int{1}}
	for _, none := range [][]int{nil, {}} {
		if got := ring.Newer(full, api.View{Version: 5, Hosts: none}); got.Version != 5 || len(got.Hosts) != 0 {
			t.Fatal(got)
		}
		if got := ring.Newer(api.View{Version: 4, Hosts: none}, full); got.Version != 4 || len(got.Hosts) != 0 {
			t.Fatal(got)
		}
	}
}

func TestNewerIsNewMemory(t *testing.T) {
	for _, version := range []int{1, 2, 3} {
		rooms := [][]int{{4, 1, 7, 8}, {2, 3, 9, 9}}
		a, b := api.View{Version: 2, Hosts: rooms[0][:2]}, api.View{Version: version, Hosts: rooms[1][:2]}
		got := ring.Newer(a, b)
		was := slices.Clone(got.Hosts)
		other := ring.Newer(a, b)
		spoil(other.Hosts)
		if fmt.Sprint(rooms) != "[[4 1 7 8] [2 3 9 9]]" || !slices.Equal(got.Hosts, was) {
			t.Fatal("what was answered is what was handed in", rooms, got)
		}
		spoil(a.Hosts)
		spoil(b.Hosts)
		if !slices.Equal(got.Hosts, was) {
			t.Fatal("what was handed in is what was answered", got)
		}
	}
}

// P6.5

// hostSets are all sets of six hosts, none left out but that without any, and some of many.
func hostSets() [][]int {
	var sets [][]int
	for bits := 1; bits < 64; bits++ {
		var set []int
		for i, host := range []int{0, 3, 7, 10, 12, 15} {
			if bits>>i&1 == 1 {
				set = append(set, host)
			}
		}
		sets = append(sets, set)
	}
	return append(sets, []int{0, 1, 2, 3, 4, 5, 6, 7, 8, 9, 10, 11, 12, 13, 14, 15}, []int{1, 2, 4, 5, 6, 8, 9, 11, 13, 14})
}

func TestEveryShardHasOneHost(t *testing.T) {
	for _, hosts := range hostSets() {
		for _, points := range []int{1, 2, 9, api.MaxPoints} {
			r := made(t, hosts, points)
			var seen []int
			for _, host := range hosts {
				seen = append(seen, r.Shards(host, api.MaxShards)...)
			}
			slices.Sort(seen)
			if !slices.Equal(seen, []int{0, 1, 2, 3, 4, 5, 6, 7, 8, 9, 10, 11, 12, 13, 14, 15}) {
				t.Fatalf("%v, %d points: the hosts have %v", hosts, points, seen)
			}
			for _, host := range owners(t, r, someShards()) {
				if !slices.Contains(hosts, host) {
					t.Fatalf("%v: %d has a shard", hosts, host)
				}
			}
		}
	}
}

// A ring with a host and one without it: read one way the host goes, read the other way it comes.
func TestOnlyTheShardsOfAHostMove(t *testing.T) {
	moved := 0
	for _, hosts := range hostSets() {
		for _, points := range []int{1, 2, 9, api.MaxPoints} {
			with := owners(t, made(t, hosts, points), someShards())
			for _, gone := range hosts {
				if len(hosts) == 1 {
					continue
				}
				rest := slices.DeleteFunc(slices.Clone(hosts), func(host int) bool { return host == gone })
				for i, host := range owners(t, made(t, rest, points), someShards()) {
					if host == gone || host != with[i] && with[i] != gone {
						t.Fatalf("%v without %d, %d points: shard %d was %d's and is %d's", hosts, gone, points, someShards()[i], with[i], host)
					}
					if host != with[i] {
						moved++
					}
				}
			}
		}
	}
	if moved == 0 {
		t.Fatal("no shard moved")
	}
}
