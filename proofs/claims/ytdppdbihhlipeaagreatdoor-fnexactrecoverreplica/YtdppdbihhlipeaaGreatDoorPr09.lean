/- Contracts. -/
import Derived.Test.YtdppdbihhlipeaaGreatDoorRows
import Derived.OpenVars
import Derived.Stop.LaidErr
import Derived.LaidLaws
import Derived.Test.YtdppdbihhlipeaaGreatDoorPr05
namespace Go.Proofs.YtdppdbihhlipeaaGreatDoor
set_option maxRecDepth 100000
set_option maxHeartbeats 8000000
open Go.RowKit
set_option linter.unusedVariables false
set_option linter.unusedSimpArgs false

section
open Go.ChangeShapes Go.WideShapes Go.RowKit
def qG2 (g:Nat) (w:World):Prop:=∃ a:Addr,w.cell? ⟨g,0,none⟩=some (.iface 338 (.pointer (some a)))
theorem qG2.below {g:Nat} {w w':World} (h:qG2 g w) (hb:Below w.heap.size w w'):qG2 g w':=by
 obtain ⟨a,h⟩:=h;exact ⟨a,(hb.cell (p:=⟨g,0,none⟩) (zL w ⟨g,0,none⟩ h)).trans h⟩
theorem Tryz.cellsES:Tryz.prog.cellsOf 361=1:=by kernel_rfl
theorem Tryz.cellsStr:Tryz.prog.cellsOf 9=1:=by kernel_rfl
theorem qJb : "*" ++ "errors.errorString" = "*errors.errorString" := by decide
theorem Tryz.rowES (u:TypeId) (h:Tryz.prog.typeName? 3 u=some "*errors.errorString"):u=338 :=
 typeName_ptr_named (nm := "errors.errorString") (by rw [qJb];kernel_rfl) (by kernel_rfl) (by decide) u (by rw [qJb];exact h)
theorem Tryz.gU:Tryz.prog.globalNamed "loop.example/g00338/impl.errUnreadable" = some 0:=by kernel_rfl
theorem Tryz.gUT:(Tryz.prog.globals[0]?).map (·.type)=some 238:=by kernel_rfl
theorem qLB {text:List UInt8} {r:List (String × DataW Unit)} {W:World} (h:laidMet Tryz.prog (("loop.example/g00338/impl.errUnreadable", .iface "*errors.errorString" (.ptr (.agg [.lit (.string text)])))::r) W):qG2 0 W:=by
 obtain ⟨a,s,hv,_⟩:=laid_sentinel h Tryz.gU Tryz.gUT Tryz.underlying238 Tryz.rowES Tryz.underlying338 Tryz.underlying361 rfl rfl Tryz.underlying9 Tryz.cellsES Tryz.cellsStr;exact ⟨a,by simpa using World.var?_cell Tryz.gU hv 0⟩
theorem qHw {H:Type} {enc:TypeId × Value->H} {P:Program} {w:World} {sp:Nat->Bool} {n:String} {gs:List (DataW H)} {ps:List MemPlace} (h:DataW.TrodVars enc P w sp [n] gs ps):∃ g,gs=[g]:=by
 rcases gs with _ | ⟨g,_ | ⟨g2,r⟩⟩
 ·exact h.elim
 ·exact ⟨g,rfl⟩
 ·obtain ⟨_,_,_,_,_,_,_,_,_,_,hs,_⟩:=h;exact hs.elim
end

theorem qJA {w w':World} {g:Nat} {k ho hn wh oo on tw tn:Int} (h:w.cell? ⟨g,0,none⟩=some (.int .i64 k)/\w.cell? ⟨g,1,none⟩=some (.int .i64 ho)/\w.cell? ⟨g,2,none⟩=some (.int .i64 hn)/\w.cell? ⟨g,3,none⟩=some (.int .i64 wh)/\w.cell? ⟨g,4,none⟩=some (.int .i64 oo)/\w.cell? ⟨g,5,none⟩=some (.int .i64 on)/\w.cell? ⟨g,6,none⟩=some (.int .i64 tw)/\w.cell? ⟨g,7,none⟩=some (.int .i64 tn)) (hb:Below w.heap.size w w'):w'.cell? ⟨g,0,none⟩=some (.int .i64 k)/\w'.cell? ⟨g,1,none⟩=some (.int .i64 ho)/\w'.cell? ⟨g,2,none⟩=some (.int .i64 hn)/\w'.cell? ⟨g,3,none⟩=some (.int .i64 wh)/\w'.cell? ⟨g,4,none⟩=some (.int .i64 oo)/\w'.cell? ⟨g,5,none⟩=some (.int .i64 on)/\w'.cell? ⟨g,6,none⟩=some (.int .i64 tw)/\w'.cell? ⟨g,7,none⟩=some (.int .i64 tn):=by
 have key:∀ (o:Nat) (v:Value),w.cell? ⟨g,o,none⟩=some v->w'.cell? ⟨g,o,none⟩=some v:=fun o v e=>(hb.cell (p:=⟨g,o,none⟩) (zL w ⟨g,o,none⟩ e)).trans e
 obtain ⟨h0,h1,h2,h3,h4,h5,h6,h7⟩:=h;exact ⟨key _ _ h0,key _ _ h1,key _ _ h2,key _ _ h3,key _ _ h4,key _ _ h5,key _ _ h6,key _ _ h7⟩
theorem qY1 (ho hn wh oo on tw tn:Int) (g:Nat) (w:World) (hS:w.cell? ⟨g,0,none⟩=some (.int .i64 1)/\w.cell? ⟨g,1,none⟩=some (.int .i64 ho)/\w.cell? ⟨g,2,none⟩=some (.int .i64 hn)/\w.cell? ⟨g,3,none⟩=some (.int .i64 wh)/\w.cell? ⟨g,4,none⟩=some (.int .i64 oo)/\w.cell? ⟨g,5,none⟩=some (.int .i64 on)/\w.cell? ⟨g,6,none⟩=some (.int .i64 tw)/\w.cell? ⟨g,7,none⟩=some (.int .i64 tn)) :
  Calls Tryz.prog 218 #[.agg #[.int .i64 1,.int .i64 ho,.int .i64 hn,.int .i64 wh,.int .i64 oo,.int .i64 on,.int .i64 tw,.int .i64 tn]] w fun e w' =>
   e = .returned (.agg #[.int .i64 1,.int .i64 ho,.int .i64 hn,.int .i64 0,.int .i64 oo,.int .i64 on,.int .i64 tw,.int .i64 tn])/\(w'.cell? ⟨g,0,none⟩=some (.int .i64 1)/\w'.cell? ⟨g,1,none⟩=some (.int .i64 ho)/\w'.cell? ⟨g,2,none⟩=some (.int .i64 hn)/\w'.cell? ⟨g,3,none⟩=some (.int .i64 wh)/\w'.cell? ⟨g,4,none⟩=some (.int .i64 oo)/\w'.cell? ⟨g,5,none⟩=some (.int .i64 on)/\w'.cell? ⟨g,6,none⟩=some (.int .i64 tw)/\w'.cell? ⟨g,7,none⟩=some (.int .i64 tn))/\Below w.heap.size w w':=by
 have hS':Hid (w.cell? ⟨g,0,none⟩=some (.int .i64 1)/\w.cell? ⟨g,1,none⟩=some (.int .i64 ho)/\w.cell? ⟨g,2,none⟩=some (.int .i64 hn)/\w.cell? ⟨g,3,none⟩=some (.int .i64 wh)/\w.cell? ⟨g,4,none⟩=some (.int .i64 oo)/\w.cell? ⟨g,5,none⟩=some (.int .i64 on)/\w.cell? ⟨g,6,none⟩=some (.int .i64 tw)/\w.cell? ⟨g,7,none⟩=some (.int .i64 tn)):=hS;have hg:g < w.heap.size:=zL w ⟨g,0,none⟩ hS.1;clear hS;go_enter Tryz.func218,Tryz.ntmps218;go_wp2;go_returns
 exact ⟨rfl,qJA hS'.out (by go_grown),by go_grown⟩
theorem QC2 (ho hn wh oo on tw tn:Int) (g:Nat) (w:World) (hS:w.cell? ⟨g,0,none⟩=some (.int .i64 2)/\w.cell? ⟨g,1,none⟩=some (.int .i64 ho)/\w.cell? ⟨g,2,none⟩=some (.int .i64 hn)/\w.cell? ⟨g,3,none⟩=some (.int .i64 wh)/\w.cell? ⟨g,4,none⟩=some (.int .i64 oo)/\w.cell? ⟨g,5,none⟩=some (.int .i64 on)/\w.cell? ⟨g,6,none⟩=some (.int .i64 tw)/\w.cell? ⟨g,7,none⟩=some (.int .i64 tn)) :
  Calls Tryz.prog 218 #[.agg #[.int .i64 2,.int .i64 ho,.int .i64 hn,.int .i64 wh,.int .i64 oo,.int .i64 on,.int .i64 tw,.int .i64 tn]] w fun e w' =>
   e = .returned (.agg #[.int .i64 2,.int .i64 ho,.int .i64 hn,.int .i64 wh,.int .i64 0,.int .i64 0,.int .i64 tw,.int .i64 tn])/\(w'.cell? ⟨g,0,none⟩=some (.int .i64 2)/\w'.cell? ⟨g,1,none⟩=some (.int .i64 ho)/\w'.cell? ⟨g,2,none⟩=some (.int .i64 hn)/\w'.cell? ⟨g,3,none⟩=some (.int .i64 wh)/\w'.cell? ⟨g,4,none⟩=some (.int .i64 oo)/\w'.cell? ⟨g,5,none⟩=some (.int .i64 on)/\w'.cell? ⟨g,6,none⟩=some (.int .i64 tw)/\w'.cell? ⟨g,7,none⟩=some (.int .i64 tn))/\Below w.heap.size w w':=by
 have hS':Hid (w.cell? ⟨g,0,none⟩=some (.int .i64 2)/\w.cell? ⟨g,1,none⟩=some (.int .i64 ho)/\w.cell? ⟨g,2,none⟩=some (.int .i64 hn)/\w.cell? ⟨g,3,none⟩=some (.int .i64 wh)/\w.cell? ⟨g,4,none⟩=some (.int .i64 oo)/\w.cell? ⟨g,5,none⟩=some (.int .i64 on)/\w.cell? ⟨g,6,none⟩=some (.int .i64 tw)/\w.cell? ⟨g,7,none⟩=some (.int .i64 tn)):=hS;have hg:g < w.heap.size:=zL w ⟨g,0,none⟩ hS.1;clear hS;go_enter Tryz.func218,Tryz.ntmps218;go_wp2;go_returns
 exact ⟨rfl,qJA hS'.out (by go_grown),by go_grown⟩
theorem QK1 (ho hn wh oo on tw tn:Int) (g:Nat) (w:World) (hS:w.cell? ⟨g,0,none⟩=some (.int .i64 3)/\w.cell? ⟨g,1,none⟩=some (.int .i64 ho)/\w.cell? ⟨g,2,none⟩=some (.int .i64 hn)/\w.cell? ⟨g,3,none⟩=some (.int .i64 wh)/\w.cell? ⟨g,4,none⟩=some (.int .i64 oo)/\w.cell? ⟨g,5,none⟩=some (.int .i64 on)/\w.cell? ⟨g,6,none⟩=some (.int .i64 tw)/\w.cell? ⟨g,7,none⟩=some (.int .i64 tn)) :
  Calls Tryz.prog 218 #[.agg #[.int .i64 3,.int .i64 ho,.int .i64 hn,.int .i64 wh,.int .i64 oo,.int .i64 on,.int .i64 tw,.int .i64 tn]] w fun e w' =>
   e = .returned (.agg #[.int .i64 3,.int .i64 ho,.int .i64 hn,.int .i64 wh,.int .i64 0,.int .i64 0,.int .i64 tw,.int .i64 0])/\(w'.cell? ⟨g,0,none⟩=some (.int .i64 3)/\w'.cell? ⟨g,1,none⟩=some (.int .i64 ho)/\w'.cell? ⟨g,2,none⟩=some (.int .i64 hn)/\w'.cell? ⟨g,3,none⟩=some (.int .i64 wh)/\w'.cell? ⟨g,4,none⟩=some (.int .i64 oo)/\w'.cell? ⟨g,5,none⟩=some (.int .i64 on)/\w'.cell? ⟨g,6,none⟩=some (.int .i64 tw)/\w'.cell? ⟨g,7,none⟩=some (.int .i64 tn))/\Below w.heap.size w w':=by
 have hS':Hid (w.cell? ⟨g,0,none⟩=some (.int .i64 3)/\w.cell? ⟨g,1,none⟩=some (.int .i64 ho)/\w.cell? ⟨g,2,none⟩=some (.int .i64 hn)/\w.cell? ⟨g,3,none⟩=some (.int .i64 wh)/\w.cell? ⟨g,4,none⟩=some (.int .i64 oo)/\w.cell? ⟨g,5,none⟩=some (.int .i64 on)/\w.cell? ⟨g,6,none⟩=some (.int .i64 tw)/\w.cell? ⟨g,7,none⟩=some (.int .i64 tn)):=hS;have hg:g < w.heap.size:=zL w ⟨g,0,none⟩ hS.1;clear hS;go_enter Tryz.func218,Tryz.ntmps218;go_wp2;go_returns
 exact ⟨rfl,qJA hS'.out (by go_grown),by go_grown⟩
theorem QZ7 (ho hn wh oo on tw tn:Int) (g:Nat) (w:World) (hS:w.cell? ⟨g,0,none⟩=some (.int .i64 4)/\w.cell? ⟨g,1,none⟩=some (.int .i64 ho)/\w.cell? ⟨g,2,none⟩=some (.int .i64 hn)/\w.cell? ⟨g,3,none⟩=some (.int .i64 wh)/\w.cell? ⟨g,4,none⟩=some (.int .i64 oo)/\w.cell? ⟨g,5,none⟩=some (.int .i64 on)/\w.cell? ⟨g,6,none⟩=some (.int .i64 tw)/\w.cell? ⟨g,7,none⟩=some (.int .i64 tn)) :
  Calls Tryz.prog 218 #[.agg #[.int .i64 4,.int .i64 ho,.int .i64 hn,.int .i64 wh,.int .i64 oo,.int .i64 on,.int .i64 tw,.int .i64 tn]] w fun e w' =>
   e = .returned (.agg #[.int .i64 4,.int .i64 ho,.int .i64 hn,.int .i64 wh,.int .i64 0,.int .i64 0,.int .i64 0,.int .i64 0])/\(w'.cell? ⟨g,0,none⟩=some (.int .i64 4)/\w'.cell? ⟨g,1,none⟩=some (.int .i64 ho)/\w'.cell? ⟨g,2,none⟩=some (.int .i64 hn)/\w'.cell? ⟨g,3,none⟩=some (.int .i64 wh)/\w'.cell? ⟨g,4,none⟩=some (.int .i64 oo)/\w'.cell? ⟨g,5,none⟩=some (.int .i64 on)/\w'.cell? ⟨g,6,none⟩=some (.int .i64 tw)/\w'.cell? ⟨g,7,none⟩=some (.int .i64 tn))/\Below w.heap.size w w':=by
 have hS':Hid (w.cell? ⟨g,0,none⟩=some (.int .i64 4)/\w.cell? ⟨g,1,none⟩=some (.int .i64 ho)/\w.cell? ⟨g,2,none⟩=some (.int .i64 hn)/\w.cell? ⟨g,3,none⟩=some (.int .i64 wh)/\w.cell? ⟨g,4,none⟩=some (.int .i64 oo)/\w.cell? ⟨g,5,none⟩=some (.int .i64 on)/\w.cell? ⟨g,6,none⟩=some (.int .i64 tw)/\w.cell? ⟨g,7,none⟩=some (.int .i64 tn)):=hS;have hg:g < w.heap.size:=zL w ⟨g,0,none⟩ hS.1;clear hS;go_enter Tryz.func218,Tryz.ntmps218;go_wp2;go_returns
 exact ⟨rfl,qJA hS'.out (by go_grown),by go_grown⟩
theorem qG5 {w w1:World} {o:Obj} (h:Below (w.alloc o).drew.heap.size (w.alloc o).drew w1):Below w.heap.size w w1:=((zN).drew).trans (h.mono (by simp))
theorem qKL (ho hn wh oo on tw tn:Int) (w:World) :
  Calls Tryz.prog 198 #[.agg #[.int .i64 1,.int .i64 ho,.int .i64 hn,.int .i64 wh,.int .i64 oo,.int .i64 on,.int .i64 tw,.int .i64 tn]] w fun e w'=>e = .returned (.bool (!(oo==0&&on==0&&tw==0&&tn==0)))/\Below w.heap.size w w':=by
 cases e1:(oo==0)
 ·skip
  go_enter Tryz.func198,Tryz.ntmps198;go_wp2;go_region_held3 (fun w'=>w'.cell? ⟨w.heap.size,0,none⟩=some (.int .i64 1)/\w'.cell? ⟨w.heap.size,1,none⟩=some (.int .i64 ho)/\w'.cell? ⟨w.heap.size,2,none⟩=some (.int .i64 hn)/\w'.cell? ⟨w.heap.size,3,none⟩=some (.int .i64 wh)/\w'.cell? ⟨w.heap.size,4,none⟩=some (.int .i64 oo)/\w'.cell? ⟨w.heap.size,5,none⟩=some (.int .i64 on)/\w'.cell? ⟨w.heap.size,6,none⟩=some (.int .i64 tw)/\w'.cell? ⟨w.heap.size,7,none⟩=some (.int .i64 tn)) (first | go_keep | exact hS) (first | (go_at_call 218;refine (qY1 ho hn wh oo on tw tn w.heap.size _ ?_).mono ?_;(first | assumption | simp [*]);rintro e w1 ⟨rfl,hS,hb⟩))
  go_wp2;go_ret;exact ⟨by simp,qG5 hb⟩
 ·skip
  cases e2:(on==0)
  ·skip
   go_enter Tryz.func198,Tryz.ntmps198;go_wp2;go_region_held3 (fun w'=>w'.cell? ⟨w.heap.size,0,none⟩=some (.int .i64 1)/\w'.cell? ⟨w.heap.size,1,none⟩=some (.int .i64 ho)/\w'.cell? ⟨w.heap.size,2,none⟩=some (.int .i64 hn)/\w'.cell? ⟨w.heap.size,3,none⟩=some (.int .i64 wh)/\w'.cell? ⟨w.heap.size,4,none⟩=some (.int .i64 oo)/\w'.cell? ⟨w.heap.size,5,none⟩=some (.int .i64 on)/\w'.cell? ⟨w.heap.size,6,none⟩=some (.int .i64 tw)/\w'.cell? ⟨w.heap.size,7,none⟩=some (.int .i64 tn)) (first | go_keep | exact hS) (first | (go_at_call 218;refine (qY1 ho hn wh oo on tw tn w.heap.size _ ?_).mono ?_;(first | assumption | simp [*]);rintro e w1 ⟨rfl,hS,hb⟩))
   go_wp2;go_ret;exact ⟨by simp,qG5 hb⟩
  ·skip
   cases e3:(tw==0)
   ·skip
    go_enter Tryz.func198,Tryz.ntmps198;go_wp2;go_region_held3 (fun w'=>w'.cell? ⟨w.heap.size,0,none⟩=some (.int .i64 1)/\w'.cell? ⟨w.heap.size,1,none⟩=some (.int .i64 ho)/\w'.cell? ⟨w.heap.size,2,none⟩=some (.int .i64 hn)/\w'.cell? ⟨w.heap.size,3,none⟩=some (.int .i64 wh)/\w'.cell? ⟨w.heap.size,4,none⟩=some (.int .i64 oo)/\w'.cell? ⟨w.heap.size,5,none⟩=some (.int .i64 on)/\w'.cell? ⟨w.heap.size,6,none⟩=some (.int .i64 tw)/\w'.cell? ⟨w.heap.size,7,none⟩=some (.int .i64 tn)) (first | go_keep | exact hS) (first | (go_at_call 218;refine (qY1 ho hn wh oo on tw tn w.heap.size _ ?_).mono ?_;(first | assumption | simp [*]);rintro e w1 ⟨rfl,hS,hb⟩))
    go_wp2;go_ret;exact ⟨by simp,qG5 hb⟩
   ·skip
    cases e4:(tn==0)
    ·skip
     go_enter Tryz.func198,Tryz.ntmps198;go_wp2;go_region_held3 (fun w'=>w'.cell? ⟨w.heap.size,0,none⟩=some (.int .i64 1)/\w'.cell? ⟨w.heap.size,1,none⟩=some (.int .i64 ho)/\w'.cell? ⟨w.heap.size,2,none⟩=some (.int .i64 hn)/\w'.cell? ⟨w.heap.size,3,none⟩=some (.int .i64 wh)/\w'.cell? ⟨w.heap.size,4,none⟩=some (.int .i64 oo)/\w'.cell? ⟨w.heap.size,5,none⟩=some (.int .i64 on)/\w'.cell? ⟨w.heap.size,6,none⟩=some (.int .i64 tw)/\w'.cell? ⟨w.heap.size,7,none⟩=some (.int .i64 tn)) (first | go_keep | exact hS) (first | (go_at_call 218;refine (qY1 ho hn wh oo on tw tn w.heap.size _ ?_).mono ?_;(first | assumption | simp [*]);rintro e w1 ⟨rfl,hS,hb⟩))
     go_wp2;go_ret;exact ⟨by simp,qG5 hb⟩
    ·skip
     go_enter Tryz.func198,Tryz.ntmps198;go_wp2;go_region_held3 (fun w'=>w'.cell? ⟨w.heap.size,0,none⟩=some (.int .i64 1)/\w'.cell? ⟨w.heap.size,1,none⟩=some (.int .i64 ho)/\w'.cell? ⟨w.heap.size,2,none⟩=some (.int .i64 hn)/\w'.cell? ⟨w.heap.size,3,none⟩=some (.int .i64 wh)/\w'.cell? ⟨w.heap.size,4,none⟩=some (.int .i64 oo)/\w'.cell? ⟨w.heap.size,5,none⟩=some (.int .i64 on)/\w'.cell? ⟨w.heap.size,6,none⟩=some (.int .i64 tw)/\w'.cell? ⟨w.heap.size,7,none⟩=some (.int .i64 tn)) (first | go_keep | exact hS) (first | (go_at_call 218;refine (qY1 ho hn wh oo on tw tn w.heap.size _ ?_).mono ?_;(first | assumption | simp [*]);rintro e w1 ⟨rfl,hS,hb⟩))
     go_wp2;go_ret;exact ⟨by simp,qG5 hb⟩
theorem qKK (ho hn wh oo on tw tn:Int) (w:World) :
  Calls Tryz.prog 198 #[.agg #[.int .i64 2,.int .i64 ho,.int .i64 hn,.int .i64 wh,.int .i64 oo,.int .i64 on,.int .i64 tw,.int .i64 tn]] w fun e w'=>e = .returned (.bool (!(wh==0&&tw==0&&tn==0)))/\Below w.heap.size w w':=by
 cases e1:(wh==0)
 ·skip
  go_enter Tryz.func198,Tryz.ntmps198;go_wp2;go_region_held3 (fun w'=>w'.cell? ⟨w.heap.size,0,none⟩=some (.int .i64 2)/\w'.cell? ⟨w.heap.size,1,none⟩=some (.int .i64 ho)/\w'.cell? ⟨w.heap.size,2,none⟩=some (.int .i64 hn)/\w'.cell? ⟨w.heap.size,3,none⟩=some (.int .i64 wh)/\w'.cell? ⟨w.heap.size,4,none⟩=some (.int .i64 oo)/\w'.cell? ⟨w.heap.size,5,none⟩=some (.int .i64 on)/\w'.cell? ⟨w.heap.size,6,none⟩=some (.int .i64 tw)/\w'.cell? ⟨w.heap.size,7,none⟩=some (.int .i64 tn)) (first | go_keep | exact hS) (first | (go_at_call 218;refine (QC2 ho hn wh oo on tw tn w.heap.size _ ?_).mono ?_;(first | assumption | simp [*]);rintro e w1 ⟨rfl,hS,hb⟩))
  go_wp2;go_ret;exact ⟨by simp,qG5 hb⟩
 ·skip
  cases e2:(tw==0)
  ·skip
   go_enter Tryz.func198,Tryz.ntmps198;go_wp2;go_region_held3 (fun w'=>w'.cell? ⟨w.heap.size,0,none⟩=some (.int .i64 2)/\w'.cell? ⟨w.heap.size,1,none⟩=some (.int .i64 ho)/\w'.cell? ⟨w.heap.size,2,none⟩=some (.int .i64 hn)/\w'.cell? ⟨w.heap.size,3,none⟩=some (.int .i64 wh)/\w'.cell? ⟨w.heap.size,4,none⟩=some (.int .i64 oo)/\w'.cell? ⟨w.heap.size,5,none⟩=some (.int .i64 on)/\w'.cell? ⟨w.heap.size,6,none⟩=some (.int .i64 tw)/\w'.cell? ⟨w.heap.size,7,none⟩=some (.int .i64 tn)) (first | go_keep | exact hS) (first | (go_at_call 218;refine (QC2 ho hn wh oo on tw tn w.heap.size _ ?_).mono ?_;(first | assumption | simp [*]);rintro e w1 ⟨rfl,hS,hb⟩))
   go_wp2;go_ret;exact ⟨by simp,qG5 hb⟩
  ·skip
   cases e3:(tn==0)
   ·skip
    go_enter Tryz.func198,Tryz.ntmps198;go_wp2;go_region_held3 (fun w'=>w'.cell? ⟨w.heap.size,0,none⟩=some (.int .i64 2)/\w'.cell? ⟨w.heap.size,1,none⟩=some (.int .i64 ho)/\w'.cell? ⟨w.heap.size,2,none⟩=some (.int .i64 hn)/\w'.cell? ⟨w.heap.size,3,none⟩=some (.int .i64 wh)/\w'.cell? ⟨w.heap.size,4,none⟩=some (.int .i64 oo)/\w'.cell? ⟨w.heap.size,5,none⟩=some (.int .i64 on)/\w'.cell? ⟨w.heap.size,6,none⟩=some (.int .i64 tw)/\w'.cell? ⟨w.heap.size,7,none⟩=some (.int .i64 tn)) (first | go_keep | exact hS) (first | (go_at_call 218;refine (QC2 ho hn wh oo on tw tn w.heap.size _ ?_).mono ?_;(first | assumption | simp [*]);rintro e w1 ⟨rfl,hS,hb⟩))
    go_wp2;go_ret;exact ⟨by simp,qG5 hb⟩
   ·skip
    go_enter Tryz.func198,Tryz.ntmps198;go_wp2;go_region_held3 (fun w'=>w'.cell? ⟨w.heap.size,0,none⟩=some (.int .i64 2)/\w'.cell? ⟨w.heap.size,1,none⟩=some (.int .i64 ho)/\w'.cell? ⟨w.heap.size,2,none⟩=some (.int .i64 hn)/\w'.cell? ⟨w.heap.size,3,none⟩=some (.int .i64 wh)/\w'.cell? ⟨w.heap.size,4,none⟩=some (.int .i64 oo)/\w'.cell? ⟨w.heap.size,5,none⟩=some (.int .i64 on)/\w'.cell? ⟨w.heap.size,6,none⟩=some (.int .i64 tw)/\w'.cell? ⟨w.heap.size,7,none⟩=some (.int .i64 tn)) (first | go_keep | exact hS) (first | (go_at_call 218;refine (QC2 ho hn wh oo on tw tn w.heap.size _ ?_).mono ?_;(first | assumption | simp [*]);rintro e w1 ⟨rfl,hS,hb⟩))
    go_wp2;go_ret;exact ⟨by simp,qG5 hb⟩
theorem qKJ (ho hn wh oo on tw tn:Int) (w:World) :
  Calls Tryz.prog 198 #[.agg #[.int .i64 3,.int .i64 ho,.int .i64 hn,.int .i64 wh,.int .i64 oo,.int .i64 on,.int .i64 tw,.int .i64 tn]] w fun e w'=>e = .returned (.bool (!(wh==0&&tw==0)))/\Below w.heap.size w w':=by
 cases e1:(wh==0)
 ·skip
  go_enter Tryz.func198,Tryz.ntmps198;go_wp2;go_region_held3 (fun w'=>w'.cell? ⟨w.heap.size,0,none⟩=some (.int .i64 3)/\w'.cell? ⟨w.heap.size,1,none⟩=some (.int .i64 ho)/\w'.cell? ⟨w.heap.size,2,none⟩=some (.int .i64 hn)/\w'.cell? ⟨w.heap.size,3,none⟩=some (.int .i64 wh)/\w'.cell? ⟨w.heap.size,4,none⟩=some (.int .i64 oo)/\w'.cell? ⟨w.heap.size,5,none⟩=some (.int .i64 on)/\w'.cell? ⟨w.heap.size,6,none⟩=some (.int .i64 tw)/\w'.cell? ⟨w.heap.size,7,none⟩=some (.int .i64 tn)) (first | go_keep | exact hS) (first | (go_at_call 218;refine (QK1 ho hn wh oo on tw tn w.heap.size _ ?_).mono ?_;(first | assumption | simp [*]);rintro e w1 ⟨rfl,hS,hb⟩))
  go_wp2;go_ret;exact ⟨by simp,qG5 hb⟩
 ·skip
  cases e2:(tw==0)
  ·skip
   go_enter Tryz.func198,Tryz.ntmps198;go_wp2;go_region_held3 (fun w'=>w'.cell? ⟨w.heap.size,0,none⟩=some (.int .i64 3)/\w'.cell? ⟨w.heap.size,1,none⟩=some (.int .i64 ho)/\w'.cell? ⟨w.heap.size,2,none⟩=some (.int .i64 hn)/\w'.cell? ⟨w.heap.size,3,none⟩=some (.int .i64 wh)/\w'.cell? ⟨w.heap.size,4,none⟩=some (.int .i64 oo)/\w'.cell? ⟨w.heap.size,5,none⟩=some (.int .i64 on)/\w'.cell? ⟨w.heap.size,6,none⟩=some (.int .i64 tw)/\w'.cell? ⟨w.heap.size,7,none⟩=some (.int .i64 tn)) (first | go_keep | exact hS) (first | (go_at_call 218;refine (QK1 ho hn wh oo on tw tn w.heap.size _ ?_).mono ?_;(first | assumption | simp [*]);rintro e w1 ⟨rfl,hS,hb⟩))
   go_wp2;go_ret;exact ⟨by simp,qG5 hb⟩
  ·skip
   go_enter Tryz.func198,Tryz.ntmps198;go_wp2;go_region_held3 (fun w'=>w'.cell? ⟨w.heap.size,0,none⟩=some (.int .i64 3)/\w'.cell? ⟨w.heap.size,1,none⟩=some (.int .i64 ho)/\w'.cell? ⟨w.heap.size,2,none⟩=some (.int .i64 hn)/\w'.cell? ⟨w.heap.size,3,none⟩=some (.int .i64 wh)/\w'.cell? ⟨w.heap.size,4,none⟩=some (.int .i64 oo)/\w'.cell? ⟨w.heap.size,5,none⟩=some (.int .i64 on)/\w'.cell? ⟨w.heap.size,6,none⟩=some (.int .i64 tw)/\w'.cell? ⟨w.heap.size,7,none⟩=some (.int .i64 tn)) (first | go_keep | exact hS) (first | (go_at_call 218;refine (QK1 ho hn wh oo on tw tn w.heap.size _ ?_).mono ?_;(first | assumption | simp [*]);rintro e w1 ⟨rfl,hS,hb⟩))
   go_wp2;go_ret;exact ⟨by simp,qG5 hb⟩
theorem qKI (ho hn wh oo on tw tn:Int) (w:World) :
  Calls Tryz.prog 198 #[.agg #[.int .i64 4,.int .i64 ho,.int .i64 hn,.int .i64 wh,.int .i64 oo,.int .i64 on,.int .i64 tw,.int .i64 tn]] w fun e w'=>e = .returned (.bool (!(wh==0)))/\Below w.heap.size w w':=by
 cases e1:(wh==0)
 ·skip
  go_enter Tryz.func198,Tryz.ntmps198;go_wp2;go_region_held3 (fun w'=>w'.cell? ⟨w.heap.size,0,none⟩=some (.int .i64 4)/\w'.cell? ⟨w.heap.size,1,none⟩=some (.int .i64 ho)/\w'.cell? ⟨w.heap.size,2,none⟩=some (.int .i64 hn)/\w'.cell? ⟨w.heap.size,3,none⟩=some (.int .i64 wh)/\w'.cell? ⟨w.heap.size,4,none⟩=some (.int .i64 oo)/\w'.cell? ⟨w.heap.size,5,none⟩=some (.int .i64 on)/\w'.cell? ⟨w.heap.size,6,none⟩=some (.int .i64 tw)/\w'.cell? ⟨w.heap.size,7,none⟩=some (.int .i64 tn)) (first | go_keep | exact hS) (first | (go_at_call 218;refine (QZ7 ho hn wh oo on tw tn w.heap.size _ ?_).mono ?_;(first | assumption | simp [*]);rintro e w1 ⟨rfl,hS,hb⟩))
  go_wp2;go_ret;exact ⟨by simp,qG5 hb⟩
 ·skip
  go_enter Tryz.func198,Tryz.ntmps198;go_wp2;go_region_held3 (fun w'=>w'.cell? ⟨w.heap.size,0,none⟩=some (.int .i64 4)/\w'.cell? ⟨w.heap.size,1,none⟩=some (.int .i64 ho)/\w'.cell? ⟨w.heap.size,2,none⟩=some (.int .i64 hn)/\w'.cell? ⟨w.heap.size,3,none⟩=some (.int .i64 wh)/\w'.cell? ⟨w.heap.size,4,none⟩=some (.int .i64 oo)/\w'.cell? ⟨w.heap.size,5,none⟩=some (.int .i64 on)/\w'.cell? ⟨w.heap.size,6,none⟩=some (.int .i64 tw)/\w'.cell? ⟨w.heap.size,7,none⟩=some (.int .i64 tn)) (first | go_keep | exact hS) (first | (go_at_call 218;refine (QZ7 ho hn wh oo on tw tn w.heap.size _ ?_).mono ?_;(first | assumption | simp [*]);rintro e w1 ⟨rfl,hS,hb⟩))
  go_wp2;go_ret;exact ⟨by simp,qG5 hb⟩
theorem QT7 (r:qA2) (hk:1<=r.k/\r.k<=4) (w:World) :
  Calls Tryz.prog 198 #[.agg #[.int .i64 r.k,.int .i64 r.ho,.int .i64 r.hn,.int .i64 r.w,.int .i64 r.oo,.int .i64 r.on,.int .i64 r.to,.int .i64 r.tn]] w fun e w' =>
   e = .returned (.bool (!QP5 r))/\Below w.heap.size w w':=by
 obtain ⟨k,ho,hn,wh,oo,on,tw,tn⟩:=r;simp only at hk ⊢
 have hk':k=1\/k=2\/k=3\/k=4:=by omega
 rcases hk' with rfl | rfl | rfl | rfl
 ·exact qKL ho hn wh oo on tw tn w
 ·exact qKK ho hn wh oo on tw tn w
 ·exact qKJ ho hn wh oo on tw tn w
 ·exact qKI ho hn wh oo on tw tn w
