package budget

import (
	"slices"

	"fluxmast/api"
)

const (
	// maxAmount is the greatest amount of an entry, and the greatest absolute value of carbon in a run.
	maxAmount = 1 << 40
	// maxBalance is the greatest absolute value of what an account opens or closes with.
	maxBalance = 1 << 50
)

// Totals returns what came to each account, and what left it.
func Totals(accounts int, l []Entry) (in, out []int, e api.Errno) {
	if e := entriesError(accounts, l); e != api.OK {
		return nil, nil, e
	}
	in = sums(accounts, l, func(x Entry) int { return x.To })
	out = sums(accounts, l, func(x Entry) int { return x.From })
	return in, out, api.OK
}

// Differences returns what is missing in each account.
func Differences(opening, closing []int, l []Entry) ([]int, api.Errno) {
	in, out, e := Totals(len(opening), l)
	switch {
	case e != api.OK:
		return nil, e
	case len(closing) != len(opening):
		return nil, api.ErrSize
	case !allSmall(maxBalance, opening...) || !allSmall(maxBalance, closing...):
		return nil, api.ErrArg
	}
	differences := make([]int, len(opening))
	for i := range differences {
		differences[i] = closing[i] - (opening[i] + in[i] - out[i])
	}
	return differences, api.OK
}

// Closes reports whether a book closes.
func Closes(opening, closing []int, l []Entry) (bool, api.Errno) {
	differences, e := Differences(opening, closing, l)
	if e != api.OK {
		return false, e
	}
	return !slices.ContainsFunc(differences, func(n int) bool { return n != 0 }), api.OK
}

// Carbon returns what respiration and uptake differ from the exchange, run by run, and together.
func Carbon(respiration, uptake, exchange []int) ([]int, int, api.Errno) {
	runs := len(respiration)
	switch {
	case runs > api.MaxRuns || len(uptake) != runs || len(exchange) != runs:
		return nil, 0, api.ErrSize
	case !allSmall(maxAmount, slices.Concat(respiration, uptake, exchange)...):
		return nil, 0, api.ErrArg
	}
	differences, sum := make([]int, runs), 0
	for i := range differences {
		differences[i] = respiration[i] - uptake[i] - exchange[i]
		sum += differences[i]
	}
	return differences, sum, api.OK
}

// entriesError returns the error of entries.
func entriesError(accounts int, l []Entry) api.Errno {
	if !between(accounts, 1, api.MaxAccounts) || len(l) > api.MaxEntries {
		return api.ErrSize
	}
	for _, x := range l {
		switch {
		case !between(x.From, 0, accounts-1) || !between(x.To, 0, accounts-1) || !between(x.Amount, 0, maxAmount):
			return api.ErrArg
		case x.From == x.To:
			return api.ErrTwice
		}
	}
	return api.OK
}

// sums returns, for each account, the sum of the amounts of the entries that belong to it.
func sums(accounts int, l []Entry, account func(Entry) int) []int {
	all := make([]int, accounts)
	for _, x := range l {
		all[account(x)] += x.Amount
	}
	return all
}
