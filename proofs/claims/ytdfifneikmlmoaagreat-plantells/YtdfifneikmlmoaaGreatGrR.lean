/-
  (What stood here lies in SmA since round 16.)
-/
import Derived.Test.YtdfifneikmlmoaaGreatGrQ
import Derived.Test.YtdfifneikmlmoaaGreatSmA
