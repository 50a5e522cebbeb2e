package redo

import (
	"cmp"
	"iter"
	"maps"
	"slices"

	"gazetteer/api"
)

// rising tells what stands in a map, the keys rising.
func rising[K cmp.Ordered, V any](m map[K]V) iter.Seq2[K, V] {
	return func(yield func(K, V) bool) {
		for _, k := range slices.Sorted(maps.Keys(m)) {
			if !yield(k, m[k]) {
				return
			}
		}
	}
}

// openIn is the transactions that are open in a row. Those that are over go behind all records, as one of theirs may stand behind their end.
func openIn(l []api.Record) map[uint64]api.Open {
	open := map[uint64]api.Open{}
	for _, r := range l {
		open[r.Txn] = behind(r)
	}
	for _, r := range l {
		switch r.Kind {
		case api.RecCommit, api.RecEnd:
			delete(open, r.Txn)
		}
	}
	return open
}

// behind is where a transaction stands whose last record is r.
func behind(r api.Record) api.Open {
	switch r.Kind {
	case api.RecUndo:
		return api.Open{Txn: r.Txn, Last: r.Lsn, Next: r.Next}
	default:
		return api.Open{Txn: r.Txn, Last: r.Lsn, Next: r.Lsn}
	}
}

// commitsIn is how many RecCommits there are of each transaction that has one.
func commitsIn(l []api.Record) map[uint64]int {
	commits := map[uint64]int{}
	for _, r := range l {
		if r.Kind == api.RecCommit {
			commits[r.Txn]++
		}
	}
	return commits
}

// opened is a list of open transactions by their Txns; false, if it may not be one of this row's.
func opened(l []api.Record, list []api.Open) (map[uint64]api.Open, bool) {
	open := map[uint64]api.Open{}
	ahead := uint64(0)
	for _, o := range list {
		if o.Txn <= ahead || o.Next > o.Last || find(l, o.Txn, o.Last).Kind == 0 {
			return nil, false
		}
		open[o.Txn], ahead = o, o.Txn
	}
	return open, true
}

// find is the record with that Lsn, if it is of that transaction; else one of no Kind.
func find(l []api.Record, txn, lsn uint64) api.Record {
	for _, r := range l {
		if r.Txn == txn && r.Lsn == lsn {
			return r
		}
	}
	return api.Record{}
}
