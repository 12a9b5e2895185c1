package unify

import "cognate/api"

// meta is a meta. Of those that stand for one another, one is the root; the fields after up are those of the root.
type meta struct {
	up     int  // one that is nearer to the root; the root itself if this is the root
	size   int  // how many of them there are
	least  int  // the smallest of them
	inside bool // whether one of them occurs in the type of a root
	bound  bool // whether they stand for a type, t
	t      api.Type
}

// meta returns the meta n.
func (s *Store) meta(n int) meta {
	if m, ok := s.metas[n]; ok {
		return m
	}
	return meta{up: n, size: 1, least: n}
}

// root returns the root of the metas that n stands for, or that stand for n.
func (s *Store) root(n int) int {
	for {
		m, ok := s.metas[n]
		if !ok || m.up == n {
			return n
		}
		n = m.up
	}
}
