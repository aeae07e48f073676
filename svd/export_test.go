package svd

// What is not to be seen outside is tested under these names.
var (
	UprightWithin = upright
	TurnOf        = turnOf
)
