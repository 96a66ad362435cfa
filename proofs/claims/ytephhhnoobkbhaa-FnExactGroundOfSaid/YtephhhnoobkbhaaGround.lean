/- Ground types, beside the program's walks. -/
import Derived.Test.YtephhhnoobkbhaaGrd
import Derived.Test.YtephhhnoobkbhaaImplT
import Derived.Test.YtephhhnoobkbhaaMark
