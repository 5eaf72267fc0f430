/- What is asked, whole: the program's counts, second part. -/
import Derived.Test.YthdlkpgialmlfaaGreatDoorU
import Derived.Deep.DeepCutAuto
namespace Go.Proofs.YthdlkpgialmlfaaGreatDoor
open Go.RowKit

def podsOf (c : Cf) : Int := if cfgOk c then sumMax c.works else 0
def nodesOf (c : Cf) : Int := if cfgOk c then sumMaxG c.groups else 0
def mostOfC (c : Cf) : Int := if cfgOk c then mostC c.works else 0
def mostOfM (c : Cf) : Int := if cfgOk c then mostM c.works else 0

end Go.Proofs.YthdlkpgialmlfaaGreatDoor
