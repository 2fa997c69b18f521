/- A stub. -/
import Derived.Test.YtclobmmdlhianaaGreatDoorShelf
