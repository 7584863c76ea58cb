/-
  (What stood here lies in SmA since round 16.)
-/
import Derived.Test.YtdfifneikmlmoaaGrQ
import Derived.Test.YtdfifneikmlmoaaSmA
