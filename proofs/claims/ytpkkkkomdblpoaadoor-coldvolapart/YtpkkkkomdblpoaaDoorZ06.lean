/-  -/
import Derived.Test.YtpkkkkomdblpoaaDoorZ05





