/-  -/
import Derived.Test.YtpkkkkomdblpoaaDoorY05





