/- All that the walk names. -/
import Derived.Test.YtkpipnccjiahjaaEntL
import Derived.Test.YtkpipnccjiahjaaSamI
import Derived.Test.YtkpipnccjiahjaaSamS
