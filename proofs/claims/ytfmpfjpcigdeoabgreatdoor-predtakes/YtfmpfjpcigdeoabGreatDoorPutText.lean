/- octet.Text: a text behind its length. -/
import Derived.Test.YtfmpfjpcigdeoabGreatDoorTexts
