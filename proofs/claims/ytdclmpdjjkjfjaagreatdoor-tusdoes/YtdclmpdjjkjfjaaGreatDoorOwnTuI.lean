/- What the card of a law of uploads in pieces stands on. -/
import Derived.Test.YtdclmpdjjkjfjaaGreatDoorTuLawD
import Derived.Test.YtdclmpdjjkjfjaaGreatDoorTuBg
import Derived.Test.YtdclmpdjjkjfjaaGreatDoorTsM
import Derived.Test.YtdclmpdjjkjfjaaGreatDoorPk28
