package impl

import "strings"

const MaxPath = 60

const (
	herePart = "."
	upPart   = ".."
)

// route is a path taken apart: whether it begins with a slash, and the parts that stay.
type route struct {
	rooted bool
	parts  []string
}

// partRule holds what becomes of the parts that are no plain names.
type partRule struct {
	fits func(part string) bool
	take func(r route) route
}

func CleanPath(s string) (string, bool) {
	if !isPath(s) {
		return "", false
	}
	return routeText(routeOf(s)), true
}

func IsClean(s string) (bool, bool) {
	clean, ok := CleanPath(s)
	return ok && clean == s, ok
}

func JoinPath(a string, b string) (string, bool) {
	if !isPath(a) || !isPath(b) {
		return "", false
	}
	return shortEnough(routeText(routeOf(withSlash(a, b))))
}

func DirOf(s string) (string, bool) {
	if !isPath(s) {
		return "", false
	}
	r := routeOf(s)
	if len(r.parts) > 0 {
		r.parts = r.parts[:len(r.parts)-1]
	}
	return routeText(r), true
}

func BaseOf(s string) (string, bool) {
	if !isPath(s) {
		return "", false
	}
	r := routeOf(s)
	if len(r.parts) > 0 {
		r = route{parts: r.parts[len(r.parts)-1:]}
	}
	return routeText(r), true
}

func IsWithin(s string, dir string) (bool, bool) {
	if !isPath(s) || !isPath(dir) {
		return false, false
	}
	inner, outer := routeOf(s), routeOf(dir)
	if inner.rooted != outer.rooted {
		return false, true
	}
	if len(outer.parts) == 0 {
		return !leadsUp(inner), true
	}
	return partsAlike(inner, outer) == len(outer.parts), true
}

func RelPath(from string, to string) (string, bool) {
	if !isPath(from) || !isPath(to) {
		return "", false
	}
	a, b := routeOf(from), routeOf(to)
	if a.rooted != b.rooted || leadsUp(a) || leadsUp(b) {
		return "", false
	}
	return shortEnough(routeText(wayBetween(a, b)))
}

func isPath(s string) bool {
	if len(s) > MaxPath {
		return false
	}
	for _, r := range s {
		if !isPathRune(r) {
			return false
		}
	}
	return true
}

// All that is allowed is plain ASCII, so bytes that are no whole rune are refused as well.
func isPathRune(r rune) bool {
	switch {
	case 'a' <= r && r <= 'z', '0' <= r && r <= '9':
		return true
	}
	return r == '.' || r == '_' || r == '-' || r == '/'
}

// A slash behind an empty a would make a root of a path that is none.
func withSlash(a string, b string) string {
	switch {
	case a == "":
		return b
	case b == "":
		return a
	}
	return a + "/" + b
}

func routeOf(s string) route {
	r := route{rooted: strings.HasPrefix(s, "/")}
	rules := partRules()
	for _, part := range strings.Split(s, "/") {
		r = takePart(rules, r, part)
	}
	return r
}

func partRules() []partRule {
	return []partRule{
		{fits: saysNothing, take: staysThere},
		{fits: saysUp, take: goesUp},
	}
}

func takePart(rules []partRule, r route, part string) route {
	for _, rule := range rules {
		if rule.fits(part) {
			return rule.take(r)
		}
	}
	r.parts = append(r.parts, part)
	return r
}

func saysNothing(part string) bool {
	return part == "" || part == herePart
}

func saysUp(part string) bool {
	return part == upPart
}

func staysThere(r route) route {
	return r
}

// A root has nothing above it, so there a way up is left out.
func goesUp(r route) route {
	last := len(r.parts) - 1
	if last >= 0 && r.parts[last] != upPart {
		r.parts = r.parts[:last]
	} else if !r.rooted {
		r.parts = append(r.parts, upPart)
	}
	return r
}

// Written byte by byte: strings.Join of one part would hand out a piece of the argument.
func routeText(r route) string {
	if !r.rooted && len(r.parts) == 0 {
		return herePart
	}
	var text strings.Builder
	if r.rooted {
		text.WriteByte('/')
	}
	for i, part := range r.parts {
		if i > 0 {
			text.WriteByte('/')
		}
		text.WriteString(part)
	}
	return text.String()
}

func shortEnough(text string) (string, bool) {
	if len(text) > MaxPath {
		return "", false
	}
	return text, true
}

// Ways up that stay are ahead of all names, so the first part tells.
func leadsUp(r route) bool {
	return len(r.parts) > 0 && r.parts[0] == upPart
}

func partsAlike(a route, b route) int {
	n := 0
	for n < len(a.parts) && n < len(b.parts) && a.parts[n] == b.parts[n] {
		n++
	}
	return n
}

func wayBetween(a route, b route) route {
	alike := partsAlike(a, b)
	var way route
	for range a.parts[alike:] {
		way.parts = append(way.parts, upPart)
	}
	way.parts = append(way.parts, b.parts[alike:]...)
	return way
}
