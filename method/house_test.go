package method_test

import "tollgate/house"

var home house.House
