/- A stub. -/
import Derived.Test.YtnllgbcakmddkaaGreatDoorShelf
