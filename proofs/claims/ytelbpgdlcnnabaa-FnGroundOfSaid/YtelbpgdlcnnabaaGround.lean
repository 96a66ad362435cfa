/- Ground types, beside the program's walks. -/
import Derived.Test.YtelbpgdlcnnabaaGrd
import Derived.Test.YtelbpgdlcnnabaaImplT
import Derived.Test.YtelbpgdlcnnabaaPkA
