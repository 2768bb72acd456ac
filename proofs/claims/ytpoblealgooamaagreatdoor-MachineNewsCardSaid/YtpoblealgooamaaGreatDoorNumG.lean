/- The contracts of num, under the name by which gc's texts import them. Conditions: none. -/
import Derived.Test.YtpoblealgooamaaGreatDoorNumC
