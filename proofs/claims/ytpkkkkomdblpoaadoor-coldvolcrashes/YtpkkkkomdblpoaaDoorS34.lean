/-  -/
import Derived.Test.YtpkkkkomdblpoaaDoorS33

