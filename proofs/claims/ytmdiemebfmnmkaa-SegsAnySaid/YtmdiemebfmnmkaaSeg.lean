/- The contracts of package segs, together. No statement of the seat is proved here. -/
import Derived.Test.YtmdiemebfmnmkaaSegE
