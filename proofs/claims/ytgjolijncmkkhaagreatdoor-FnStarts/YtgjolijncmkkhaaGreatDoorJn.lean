/- Own texts joined: PlM. -/
import Derived.Test.YtgjolijncmkkhaaGreatDoorJa
namespace Go.Proofs.YtgjolijncmkkhaaGreatDoor
structure PlV where
 idN:Int
 idR:Int
 parN:Int
 parR:Int
 key:Xg
 kind:Int
 name:Xg
 text:Xg
 attrs:List (Xg×Xg)
open Go.RowKit
def Glo (w:Xk):Prop:=w.cell? ⟨0,0,none⟩=some (.int .i64 0)∧w.cell? ⟨0,1,none⟩=some (.int .i64 0)∧w.cell? ⟨1,0,none⟩=some (.int .i64 0)∧w.cell? ⟨1,1,none⟩=some (.int .i64 1)
theorem Glo.frm {w w':Xk} {S:Xh} (h:Glo w) (f:Frm w w' S) (hS:∀q∈S,2<=q):Glo w':=by
 have hc:∀b j v,b<2->w.cell? ⟨b,j,none⟩=some v->w'.cell? ⟨b,j,none⟩=some v:=fun b j v hb hv=>(World.cell?_of_block (f.block b (zbs hv) (fun e=>by have:=hS b e;omega))).trans hv
 exact⟨hc 0 0 _ (by omega) h.1,hc 0 1 _ (by omega) h.2.1,hc 1 0 _ (by omega) h.2.2.1,hc 1 1 _ (by omega) h.2.2.2⟩
theorem Glo.keep {w w':Xk} (h:Glo w) (hb:Below w.heap.size w w'):Glo w':=h.frm (Frm.ofBelow hb []) (fun q hq=>by cases hq)
end Go.Proofs.YtgjolijncmkkhaaGreatDoor
