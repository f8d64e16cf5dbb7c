package trace

// ToRest is told to the tests, too: the order in which cores look after a change is not to be seen in what the steps come to.
var ToRest = toRest
