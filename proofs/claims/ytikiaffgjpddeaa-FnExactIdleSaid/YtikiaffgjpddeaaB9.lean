/- What chapter 9 stands on: chapter 6's small functions. -/
import Derived.Test.YtikiaffgjpddeaaI6
