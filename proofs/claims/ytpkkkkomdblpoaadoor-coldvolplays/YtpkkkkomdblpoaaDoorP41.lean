/-  -/
import Derived.Test.YtpkkkkomdblpoaaDoorP35

