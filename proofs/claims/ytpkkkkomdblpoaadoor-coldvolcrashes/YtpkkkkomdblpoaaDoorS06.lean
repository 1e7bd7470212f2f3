/-  -/
import Derived.Test.YtpkkkkomdblpoaaDoorS05





