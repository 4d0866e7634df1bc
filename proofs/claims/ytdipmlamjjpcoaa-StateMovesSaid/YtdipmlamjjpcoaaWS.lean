/- (In this seat nothing counts bits: no contract of the library is wanted.) -/
import Derived.Test.YtdipmlamjjpcoaaProg
