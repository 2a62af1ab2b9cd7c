/- fees: memory, and plain numbers. -/
import Derived.Test.YtghpafbgjbhohaaMem
import Derived.Test.YtghpafbgjbhohaaFeP
