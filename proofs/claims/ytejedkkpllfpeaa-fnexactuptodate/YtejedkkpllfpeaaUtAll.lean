/- All that the walk names. -/
import Derived.Test.YtejedkkpllfpeaaNdL
import Derived.Test.YtejedkkpllfpeaaUtI
import Derived.Test.YtejedkkpllfpeaaUtS
