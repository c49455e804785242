package soft

import "plumbline/api"

// pair is the classes of two numbers.
type pair [2]api.Class

// outcome tells what two numbers come to.
type outcome int

const (
	reckoned       outcome = iota // by their exact numbers: what no table names
	undefined                     // a NaN
	theFirst                      // the first one
	theSecond                     // the second one
	twoZeros                      // their sum
	twoInfinities                 // their sum
	signedZero                    // with the sign of a product
	signedInfinity                // likewise
)

// combined answers what the table tells of both classes, or, where it tells nothing, what reckon makes of the exact numbers.
func combined(a, b number, table map[pair]outcome, reckon func(a, b api.Dyad) number) number {
	unlike := a.neg != b.neg
	switch told := table[pair{a.class, b.class}]; {
	case told == undefined, told == twoInfinities && unlike:
		return number{class: nan}
	case told == theFirst, told == twoInfinities:
		return a
	case told == theSecond:
		return b
	case told == twoZeros:
		return number{class: zero, neg: a.neg && b.neg}
	case told == signedZero:
		return number{class: zero, neg: unlike}
	case told == signedInfinity:
		return number{class: infinity, neg: unlike}
	}
	return reckon(a.exact, b.exact)
}

func sums() map[pair]outcome {
	return withNaNs(map[pair]outcome{
		{zero, zero}:         twoZeros,
		{zero, infinity}:     theSecond,
		{nonzero, infinity}:  theSecond,
		{infinity, zero}:     theFirst,
		{infinity, nonzero}:  theFirst,
		{infinity, infinity}: twoInfinities,
	})
}

func products() map[pair]outcome {
	return withNaNs(map[pair]outcome{
		{zero, zero}:         signedZero,
		{zero, nonzero}:      signedZero,
		{zero, infinity}:     undefined,
		{nonzero, zero}:      signedZero,
		{nonzero, infinity}:  signedInfinity,
		{infinity, zero}:     undefined,
		{infinity, nonzero}:  signedInfinity,
		{infinity, infinity}: signedInfinity,
	})
}

func quotients() map[pair]outcome {
	return withNaNs(map[pair]outcome{
		{zero, zero}:         undefined,
		{zero, nonzero}:      signedZero,
		{zero, infinity}:     signedZero,
		{nonzero, zero}:      signedInfinity,
		{nonzero, infinity}:  signedZero,
		{infinity, zero}:     signedInfinity,
		{infinity, nonzero}:  signedInfinity,
		{infinity, infinity}: undefined,
	})
}

// withNaNs adds all pairs with a NaN to the table: whatever one goes into is one.
func withNaNs(table map[pair]outcome) map[pair]outcome {
	for class := zero; class <= nan; class++ {
		table[pair{class, nan}] = undefined
		table[pair{nan, class}] = undefined
	}
	return table
}
