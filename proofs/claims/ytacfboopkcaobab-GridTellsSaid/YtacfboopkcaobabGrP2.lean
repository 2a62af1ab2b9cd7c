/- grid: memory and plain numbers together. -/
import Derived.Test.YtacfboopkcaobabMem
import Derived.Test.YtacfboopkcaobabGrP
