package stock

import "nosale/api"

// kind is a kind of moves: its word, and what a stock becomes by so many.
type kind struct {
	word    string
	becomes func(stock, many int) int
}

// kinds returns all kinds of moves.
func kinds() [5]kind {
	return [5]kind{
		api.StockCame:  {"came", more},
		api.StockSold:  {"sold", less},
		api.StockLost:  {"lost", less},
		api.StockGiven: {"given", less},
		api.StockBack:  {"back", more},
	}
}

func more(stock, many int) int { return stock + many }
func less(stock, many int) int { return stock - many }
