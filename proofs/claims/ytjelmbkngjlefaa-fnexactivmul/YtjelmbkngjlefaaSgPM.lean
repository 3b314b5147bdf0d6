/- In a seat where SgPlus lies (times stripped or not), SgPM is it. -/
import Derived.Test.YtjelmbkngjlefaaSgPlus
