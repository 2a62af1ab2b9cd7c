/- grid: memory and plain numbers together. -/
import Derived.Test.YtpibkjldmmecpaaMem
import Derived.Test.YtpibkjldmmecpaaGrP
