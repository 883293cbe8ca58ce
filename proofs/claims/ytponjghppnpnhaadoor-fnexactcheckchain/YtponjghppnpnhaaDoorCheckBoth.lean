/- CheckCert, both sides. -/
import Derived.Test.YtponjghppnpnhaaDoorCheckSpec
import Derived.Test.YtponjghppnpnhaaDoorCheckImpl
