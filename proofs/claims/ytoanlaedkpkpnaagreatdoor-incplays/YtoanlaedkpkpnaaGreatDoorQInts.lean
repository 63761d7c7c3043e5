/-
  Lists of numbers in memory.
-/
import Derived.Test.YtoanlaedkpkpnaaGreatDoorTInts

