/-  -/
import Derived.Test.YtpkkkkomdblpoaaDoorQ05





