/-
  None of the library's contracts is wanted here.
-/
import Derived.Test.YtlikjbklagolmaaDoorProg
