/- A region that draws its order, by an invariant (text InvK), beside what the elder texts bring. -/
import Derived.Test.YtbmmjbklfheghaaVInvK
import Derived.Test.YtbmmjbklfheghaaVQuiet
