/- CheckCert, both sides. -/
import Derived.Test.YtemjfhgjdiijkaaDoorCheckSpec
import Derived.Test.YtemjfhgjdiijkaaDoorCheckImpl
