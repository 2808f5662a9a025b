package tests

import (
	"math/big"
	"slices"

	"loop.example/g00072/impl"
)

// Chapter 7 of the document, written again over plain lists and numbers without bound, to hold the program's answers against.

func ak(nonce, to, at, tries int) impl.Ask {
	return impl.Ask{Nonce: nonce, To: to, At: at, Tries: tries}
}

func tableOf(epoch, used int, asks ...impl.Ask) impl.Table {
	return impl.Table{Epoch: epoch, Used: used, Asks: asks}
}

type partsAnswer struct {
	epoch int
	k     int
	ok    bool
}

type issueAnswer struct {
	table impl.Table
	nonce int
	code  int
}

type useAnswer struct {
	table impl.Table
	a     impl.Ask
	code  int
}

type expireAnswer struct {
	table impl.Table
	gone  []impl.Ask
}

type againAnswer struct {
	table impl.Table
	came  []impl.Ask
	left  []impl.Ask
}

type rebootAnswer struct {
	table impl.Table
	code  int
}

func sameTable(a, b impl.Table) bool {
	return a.Epoch == b.Epoch && a.Used == b.Used && slices.Equal(a.Asks, b.Asks)
}

func wantNonceOf(epoch, k int) numAnswer {
	if !inRange(bigOf(epoch), 0, impl.MaxEpoch) || !inRange(bigOf(k), 0, impl.NoncesEach-1) {
		return numAnswer{}
	}
	n := plus(times(bigOf(epoch), bigOf(impl.NoncesEach)), bigOf(k))
	return numAnswer{int(n.Int64()), true}
}

func wantNonceParts(n int) partsAnswer {
	k := new(big.Int)
	epoch, _ := new(big.Int).DivMod(bigOf(n), bigOf(impl.NoncesEach), k)
	if !inRange(epoch, 0, impl.MaxEpoch) {
		return partsAnswer{}
	}
	return partsAnswer{int(epoch.Int64()), int(k.Int64()), true}
}

func wantAskOk(a impl.Ask, epoch, used int) bool {
	parts := wantNonceParts(a.Nonce)
	fits := parts.ok && parts.epoch == epoch && parts.k < used
	return fits && wantNode(a.To) && inRange(bigOf(a.At), 0, far) && inRange(bigOf(a.Tries), 1, impl.MaxTries)
}

func wantTableOk(t impl.Table) bool {
	if !inRange(bigOf(t.Epoch), 0, impl.MaxEpoch) || !inRange(bigOf(t.Used), 0, impl.NoncesEach) || len(t.Asks) > impl.MaxAsks {
		return false
	}
	for i, a := range t.Asks {
		if !wantAskOk(a, t.Epoch, t.Used) || i > 0 && t.Asks[i-1].Nonce >= a.Nonce {
			return false
		}
	}
	return true
}

// The table with one more ask at its end, as the chapter says of Issue and Again alike.
func wantAsked(t impl.Table, to, at, tries int) (impl.Table, impl.Ask) {
	a := ak(t.Epoch*impl.NoncesEach+t.Used, to, at, tries)
	return tableOf(t.Epoch, t.Used+1, append(slices.Clone(t.Asks), a)...), a
}

func wantIssue(t impl.Table, to, at int) issueAnswer {
	if !wantTableOk(t) || !wantNode(to) || !inRange(bigOf(at), 0, far) {
		return issueAnswer{code: impl.AskBad}
	}
	if t.Used == impl.NoncesEach {
		return issueAnswer{table: t, code: impl.AskSpent}
	}
	if len(t.Asks) == impl.MaxAsks {
		return issueAnswer{table: t, code: impl.AskFull}
	}
	more, a := wantAsked(t, to, at, 1)
	return issueAnswer{more, a.Nonce, impl.AskDone}
}

func wantUse(t impl.Table, nonce, from int) useAnswer {
	if !wantTableOk(t) {
		return useAnswer{code: impl.AskBad}
	}
	for i, a := range t.Asks {
		if a.Nonce != nonce {
			continue
		}
		if a.To != from {
			return useAnswer{table: t, code: impl.AskOther}
		}
		return useAnswer{tableOf(t.Epoch, t.Used, slices.Delete(slices.Clone(t.Asks), i, i+1)...), a, impl.AskDone}
	}
	return useAnswer{table: t, code: impl.AskNone}
}

func wantExpire(t impl.Table, at, patience int) expireAnswer {
	if !wantTableOk(t) || !inRange(bigOf(at), 0, far) || !inRange(bigOf(patience), 0, far) {
		return expireAnswer{}
	}
	answer := expireAnswer{table: tableOf(t.Epoch, t.Used)}
	for _, a := range t.Asks {
		if less(bigOf(at), bigOf(a.At)).Cmp(bigOf(patience)) > 0 {
			answer.gone = append(answer.gone, a)
		} else {
			answer.table.Asks = append(answer.table.Asks, a)
		}
	}
	return answer
}

func wantAgain(t impl.Table, at, patience int) againAnswer {
	without := wantExpire(t, at, patience)
	answer := againAnswer{table: without.table}
	for _, a := range without.gone {
		if a.Tries == impl.MaxTries || answer.table.Used == impl.NoncesEach {
			answer.left = append(answer.left, a)
			continue
		}
		more, next := wantAsked(answer.table, a.To, at, a.Tries+1)
		answer.table = more
		answer.came = append(answer.came, next)
	}
	return answer
}

func wantReboot(t impl.Table, epoch int) rebootAnswer {
	if !wantTableOk(t) || !inRange(bigOf(epoch), 1, impl.MaxEpoch) || epoch <= t.Epoch {
		return rebootAnswer{code: impl.AskBad}
	}
	return rebootAnswer{table: tableOf(epoch, 0), code: impl.AskDone}
}

func wantWaits(t impl.Table, to int) int {
	waits := 0
	for _, a := range t.Asks {
		if wantTableOk(t) && a.To == to {
			waits++
		}
	}
	return waits
}

// A table of so many asks, no two with all fields alike but the Nonce, and with nonces between them that are gone.
func tableWith(epoch, asks int) impl.Table {
	t := tableOf(epoch, 3*asks)
	for i := range asks {
		t.Asks = append(t.Asks, ak(epoch*impl.NoncesEach+3*i, i*3%impl.MaxNodes, 100+7*(i*5%11), 1+i*3%impl.MaxTries))
	}
	return t
}
