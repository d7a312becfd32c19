/- The types of stage 9 lie in N10o from stage 10 on. -/
import Derived.Test.YtikiaffgjpddeaaN10o
