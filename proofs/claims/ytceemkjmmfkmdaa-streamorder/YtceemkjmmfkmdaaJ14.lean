/- The program's joiner is such as is asked. -/
import Derived.Test.YtceemkjmmfkmdaaJ11
import Derived.Test.YtceemkjmmfkmdaaJ12
import Derived.Test.YtceemkjmmfkmdaaJ13
namespace Go.Proofs.Ytceemkjmmfkmdaa.St
open Go.RowKit
set_option maxRecDepth 100000

def jnP (w : World) (g : Nat) (F : Nat → Prop) (l : List Chk) (e : Nat) (st : Sts) : Prop := ∃ gp ps, Jm w g gp ps F l e st
def theJ : JI where
  jn := jnP
  len := fun ⟨_, _, h⟩ => h.len
  keep := fun ⟨gp, ps, h⟩ hb => ⟨gp, ps, h.keep hb⟩
  lt := fun ⟨_, _, h⟩ hF => h.lt _ hF
  new0 := fun n c a l e w ha hn hg => (new_good n c e a l w ha hn hg).mono fun _ _ ⟨g, gp, ps, F, hr, hj, hF, hb⟩ => ⟨g, F, hr, ⟨gp, ps, hj⟩, hF, hb⟩
  add := fun w g F l e st k m c a xs ⟨gp, ps, h⟩ hx hq => (add_good w g gp ps F l e st k m c a xs h hx hq).mono fun _ _ ⟨F', gp', ps', hr, hj, hk, hF⟩ => ⟨F', hr, ⟨gp', ps', hj⟩, hk, hF⟩
  all1 := fun w g F l e st ⟨gp, ps, h⟩ h0 => all_good w g gp ps F l e st h h0
end Go.Proofs.Ytceemkjmmfkmdaa.St
