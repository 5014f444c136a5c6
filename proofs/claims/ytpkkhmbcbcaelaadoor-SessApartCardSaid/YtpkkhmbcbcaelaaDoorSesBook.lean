/- The contracts of a desk, as the laws ask them: sd_new, sd_new_bad, sd_in, sd_in_bad, sd_out, sd_on, sd_next, sd_late, sd_live. -/
import Derived.Test.YtpkkhmbcbcaelaaDoorSesLat
