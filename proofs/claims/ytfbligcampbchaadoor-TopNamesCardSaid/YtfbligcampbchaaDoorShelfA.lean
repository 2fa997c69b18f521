/- A stub. -/
import Derived.Test.YtfbligcampbchaaDoorShelf
