/- The program's chapter 13: LinksAt, SameLinks, ChangesOf, PiecesOf, NeighborsIn; the model's. -/
import Derived.Test.YtfnhfpahdgbfgaaPieces
import Derived.Test.YtfnhfpahdgbfgaaGraphM3
