/-  -/
import Derived.Test.YtpkkkkomdblpoaaDoorS35

