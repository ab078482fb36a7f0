package impl

import (
	"cmp"
	"math/bits"
	"slices"
	"strconv"
	"strings"
)

const (
	MaxBits = 16
	MaxList = 300
)

type Prefix struct {
	Net int
	Len int
}

// addrRange is the range of the addresses from..to, which is never empty.
type addrRange struct {
	from int
	to   int
}

// How much of a prefix lies in a range of addresses.
const (
	partNone = iota
	partSome
	partAll
)

// compare orders prefixes, even invalid ones, by Net and then by Len.
func (p Prefix) compare(q Prefix) int {
	return cmp.Or(cmp.Compare(p.Net, q.Net), cmp.Compare(p.Len, q.Len))
}

func addrOk(a int) bool {
	return a >= 0 && a < 1<<MaxBits
}

// size, last, has and halves expect a valid prefix; halves also one with Len below MaxBits.

func (p Prefix) size() int {
	return 1 << (MaxBits - p.Len)
}

func (p Prefix) last() int {
	return p.Net + p.size() - 1
}

func (p Prefix) has(a int) bool {
	return p.Net <= a && a <= p.last()
}

func (p Prefix) halves() (Prefix, Prefix) {
	low := Prefix{Net: p.Net, Len: p.Len + 1}
	return low, Prefix{Net: p.Net + low.size(), Len: low.Len}
}

func (r addrRange) size() int {
	return r.to - r.from + 1
}

func (r addrRange) partOf(p Prefix) int {
	switch {
	case p.last() < r.from || r.to < p.Net:
		return partNone
	case r.from <= p.Net && p.last() <= r.to:
		return partAll
	default:
		return partSome
	}
}

// prefixes returns the shortest list of prefixes that makes up the range, in ascending order.
func (r addrRange) prefixes() []Prefix {
	var found []Prefix
	var collect func(p Prefix)
	collect = func(p Prefix) {
		switch r.partOf(p) {
		case partAll:
			found = append(found, p)
		case partSome:
			// A prefix of one address is never partly in the range, so p has halves.
			low, high := p.halves()
			collect(low)
			collect(high)
		}
	}
	collect(Prefix{})
	return found
}

func prefixesOk(list []Prefix) bool {
	return len(list) <= MaxList && !slices.ContainsFunc(list, func(p Prefix) bool { return !PrefixOk(p) })
}

// rangesOf returns the addresses of valid prefixes as ranges, in ascending order and with a gap
// between any two of them. No prefix reaches across a gap, so each range can be covered by itself.
func rangesOf(list []Prefix) []addrRange {
	sorted := slices.Clone(list)
	slices.SortFunc(sorted, func(a, b Prefix) int { return cmp.Compare(a.Net, b.Net) })
	var ranges []addrRange
	for _, p := range sorted {
		end := len(ranges) - 1
		if end >= 0 && p.Net <= ranges[end].to+1 {
			ranges[end].to = max(ranges[end].to, p.last())
		} else {
			ranges = append(ranges, addrRange{from: p.Net, to: p.last()})
		}
	}
	return ranges
}

func PrefixOk(p Prefix) bool {
	return p.Len >= 0 && p.Len <= MaxBits && addrOk(p.Net) && p.Net%p.size() == 0
}

func HasAddr(p Prefix, a int) bool {
	return PrefixOk(p) && p.has(a)
}

func CoversPrefix(a Prefix, b Prefix) bool {
	return PrefixOk(a) && PrefixOk(b) && a.Len <= b.Len && a.has(b.Net)
}

func PrefixText(p Prefix) string {
	if !PrefixOk(p) {
		return ""
	}
	return strconv.Itoa(p.Net/256) + "." + strconv.Itoa(p.Net%256) + "/" + strconv.Itoa(p.Len)
}

func ParsePrefix(text string) (Prefix, bool) {
	net, length, _ := strings.Cut(text, "/")
	high, low, _ := strings.Cut(net, ".")
	h, _ := strconv.Atoi(high)
	l, _ := strconv.Atoi(low)
	n, _ := strconv.Atoi(length)
	p := Prefix{Net: h*256 + l, Len: n}
	// Whatever was read loosely above (signs, leading zeros, great numbers) gives another text here.
	if !PrefixOk(p) || PrefixText(p) != text {
		return Prefix{}, false
	}
	return p, true
}

func Halves(p Prefix) (Prefix, Prefix, bool) {
	if !PrefixOk(p) || p.Len == MaxBits {
		return Prefix{}, Prefix{}, false
	}
	low, high := p.halves()
	return low, high, true
}

func Sibling(p Prefix) (Prefix, bool) {
	if !PrefixOk(p) || p.Len == 0 {
		return Prefix{}, false
	}
	return Prefix{Net: p.Net ^ p.size(), Len: p.Len}, true
}

func Aggregate(list []Prefix) ([]Prefix, bool) {
	if !prefixesOk(list) {
		return nil, false
	}
	var merged []Prefix
	for _, r := range rangesOf(list) {
		merged = append(merged, r.prefixes()...)
	}
	return merged, true
}

func CountAddrs(list []Prefix) int {
	if !prefixesOk(list) {
		return -1
	}
	count := 0
	for _, r := range rangesOf(list) {
		count += r.size()
	}
	return count
}

func Cover(from int, to int) ([]Prefix, bool) {
	if !addrOk(from) || !addrOk(to) || to < from {
		return nil, false
	}
	return addrRange{from: from, to: to}.prefixes(), true
}

func CommonPrefix(a int, b int) (Prefix, bool) {
	if !addrOk(a) || !addrOk(b) {
		return Prefix{}, false
	}
	p := Prefix{Len: MaxBits - bits.Len(uint(a^b))}
	p.Net = a - a%p.size()
	return p, true
}
