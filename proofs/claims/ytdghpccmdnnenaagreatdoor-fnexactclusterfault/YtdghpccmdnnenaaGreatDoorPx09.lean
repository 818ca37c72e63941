/- Contracts. -/
import Derived.Test.YtdghpccmdnnenaaGreatDoorPx01
namespace Go.Proofs.YtdghpccmdnnenaaGreatDoor
set_option maxRecDepth 100000
set_option maxHeartbeats 8000000
open Go.RowKit Go.Proofs.Tryz
set_option linter.unusedVariables false
set_option linter.unusedSimpArgs false
theorem qKZ{w w':World}{g:Nat}{k ho hn wh oo on tw tn:Int}(h:w.cell? ⟨g,0,none⟩=some (iv k)/\w.cell? ⟨g,1,none⟩=some (iv ho)/\w.cell? ⟨g,2,none⟩=some (iv hn)/\w.cell? ⟨g,3,none⟩=some (iv wh)/\w.cell? ⟨g,4,none⟩=some (iv oo)/\w.cell? ⟨g,5,none⟩=some (iv on)/\w.cell? ⟨g,6,none⟩=some (iv tw)/\w.cell? ⟨g,7,none⟩=some (iv tn))(hb:Below w.heap.size w w'):w'.cell? ⟨g,0,none⟩=some (iv k)/\w'.cell? ⟨g,1,none⟩=some (iv ho)/\w'.cell? ⟨g,2,none⟩=some (iv hn)/\w'.cell? ⟨g,3,none⟩=some (iv wh)/\w'.cell? ⟨g,4,none⟩=some (iv oo)/\w'.cell? ⟨g,5,none⟩=some (iv on)/\w'.cell? ⟨g,6,none⟩=some (iv tw)/\w'.cell? ⟨g,7,none⟩=some (iv tn):=by
 have key:∀(o:Nat) (v:Value),w.cell? ⟨g,o,none⟩=some v->w'.cell? ⟨g,o,none⟩=some v:=fun o v e=>(hb.cell (p:=⟨g,o,none⟩) (zL w ⟨g,o,none⟩ e)).trans e
 obtain⟨h0,h1,h2,h3,h4,h5,h6,h7⟩:=h;exact⟨key _ _ h0,key _ _ h1,key _ _ h2,key _ _ h3,key _ _ h4,key _ _ h5,key _ _ h6,key _ _ h7⟩
theorem QA2(ho hn wh oo on tw tn:Int)(g:Nat)(w:World)(hS:w.cell? ⟨g,0,none⟩=some (iv 1)/\w.cell? ⟨g,1,none⟩=some (iv ho)/\w.cell? ⟨g,2,none⟩=some (iv hn)/\w.cell? ⟨g,3,none⟩=some (iv wh)/\w.cell? ⟨g,4,none⟩=some (iv oo)/\w.cell? ⟨g,5,none⟩=some (iv on)/\w.cell? ⟨g,6,none⟩=some (iv tw)/\w.cell? ⟨g,7,none⟩=some (iv tn)):
  CP 274 #[.agg #[iv 1,iv ho,iv hn,iv wh,iv oo,iv on,iv tw,iv tn]] w fun e w' =>
   e=.returned (.agg #[iv 1,iv ho,iv hn,iv 0,iv oo,iv on,iv tw,iv tn])/\(w'.cell? ⟨g,0,none⟩=some (iv 1)/\w'.cell? ⟨g,1,none⟩=some (iv ho)/\w'.cell? ⟨g,2,none⟩=some (iv hn)/\w'.cell? ⟨g,3,none⟩=some (iv wh)/\w'.cell? ⟨g,4,none⟩=some (iv oo)/\w'.cell? ⟨g,5,none⟩=some (iv on)/\w'.cell? ⟨g,6,none⟩=some (iv tw)/\w'.cell? ⟨g,7,none⟩=some (iv tn))/\Below w.heap.size w w':=by
 have hS':=hJJ hS;have hg:g<w.heap.size:=zL w ⟨g,0,none⟩ hS.1;clear hS;go_enter func274,ntmps274;go_wp2;go_returns
 exact⟨rfl,qKZ hS'.out (by go_grown),by go_grown⟩
theorem QF4(ho hn wh oo on tw tn:Int)(g:Nat)(w:World)(hS:w.cell? ⟨g,0,none⟩=some (iv 2)/\w.cell? ⟨g,1,none⟩=some (iv ho)/\w.cell? ⟨g,2,none⟩=some (iv hn)/\w.cell? ⟨g,3,none⟩=some (iv wh)/\w.cell? ⟨g,4,none⟩=some (iv oo)/\w.cell? ⟨g,5,none⟩=some (iv on)/\w.cell? ⟨g,6,none⟩=some (iv tw)/\w.cell? ⟨g,7,none⟩=some (iv tn)):
  CP 274 #[.agg #[iv 2,iv ho,iv hn,iv wh,iv oo,iv on,iv tw,iv tn]] w fun e w' =>
   e=.returned (.agg #[iv 2,iv ho,iv hn,iv wh,iv 0,iv 0,iv tw,iv tn])/\(w'.cell? ⟨g,0,none⟩=some (iv 2)/\w'.cell? ⟨g,1,none⟩=some (iv ho)/\w'.cell? ⟨g,2,none⟩=some (iv hn)/\w'.cell? ⟨g,3,none⟩=some (iv wh)/\w'.cell? ⟨g,4,none⟩=some (iv oo)/\w'.cell? ⟨g,5,none⟩=some (iv on)/\w'.cell? ⟨g,6,none⟩=some (iv tw)/\w'.cell? ⟨g,7,none⟩=some (iv tn))/\Below w.heap.size w w':=by
 have hS':=hJJ hS;have hg:g<w.heap.size:=zL w ⟨g,0,none⟩ hS.1;clear hS;go_enter func274,ntmps274;go_wp2;go_returns
 exact⟨rfl,qKZ hS'.out (by go_grown),by go_grown⟩
theorem QN0(ho hn wh oo on tw tn:Int)(g:Nat)(w:World)(hS:w.cell? ⟨g,0,none⟩=some (iv 3)/\w.cell? ⟨g,1,none⟩=some (iv ho)/\w.cell? ⟨g,2,none⟩=some (iv hn)/\w.cell? ⟨g,3,none⟩=some (iv wh)/\w.cell? ⟨g,4,none⟩=some (iv oo)/\w.cell? ⟨g,5,none⟩=some (iv on)/\w.cell? ⟨g,6,none⟩=some (iv tw)/\w.cell? ⟨g,7,none⟩=some (iv tn)):
  CP 274 #[.agg #[iv 3,iv ho,iv hn,iv wh,iv oo,iv on,iv tw,iv tn]] w fun e w' =>
   e=.returned (.agg #[iv 3,iv ho,iv hn,iv wh,iv 0,iv 0,iv tw,iv 0])/\(w'.cell? ⟨g,0,none⟩=some (iv 3)/\w'.cell? ⟨g,1,none⟩=some (iv ho)/\w'.cell? ⟨g,2,none⟩=some (iv hn)/\w'.cell? ⟨g,3,none⟩=some (iv wh)/\w'.cell? ⟨g,4,none⟩=some (iv oo)/\w'.cell? ⟨g,5,none⟩=some (iv on)/\w'.cell? ⟨g,6,none⟩=some (iv tw)/\w'.cell? ⟨g,7,none⟩=some (iv tn))/\Below w.heap.size w w':=by
 have hS':=hJJ hS;have hg:g<w.heap.size:=zL w ⟨g,0,none⟩ hS.1;clear hS;go_enter func274,ntmps274;go_wp2;go_returns
 exact⟨rfl,qKZ hS'.out (by go_grown),by go_grown⟩
theorem qAs(ho hn wh oo on tw tn:Int)(g:Nat)(w:World)(hS:w.cell? ⟨g,0,none⟩=some (iv 4)/\w.cell? ⟨g,1,none⟩=some (iv ho)/\w.cell? ⟨g,2,none⟩=some (iv hn)/\w.cell? ⟨g,3,none⟩=some (iv wh)/\w.cell? ⟨g,4,none⟩=some (iv oo)/\w.cell? ⟨g,5,none⟩=some (iv on)/\w.cell? ⟨g,6,none⟩=some (iv tw)/\w.cell? ⟨g,7,none⟩=some (iv tn)):
  CP 274 #[.agg #[iv 4,iv ho,iv hn,iv wh,iv oo,iv on,iv tw,iv tn]] w fun e w' =>
   e=.returned (.agg #[iv 4,iv ho,iv hn,iv wh,iv 0,iv 0,iv 0,iv 0])/\(w'.cell? ⟨g,0,none⟩=some (iv 4)/\w'.cell? ⟨g,1,none⟩=some (iv ho)/\w'.cell? ⟨g,2,none⟩=some (iv hn)/\w'.cell? ⟨g,3,none⟩=some (iv wh)/\w'.cell? ⟨g,4,none⟩=some (iv oo)/\w'.cell? ⟨g,5,none⟩=some (iv on)/\w'.cell? ⟨g,6,none⟩=some (iv tw)/\w'.cell? ⟨g,7,none⟩=some (iv tn))/\Below w.heap.size w w':=by
 have hS':=hJJ hS;have hg:g<w.heap.size:=zL w ⟨g,0,none⟩ hS.1;clear hS;go_enter func274,ntmps274;go_wp2;go_returns
 exact⟨rfl,qKZ hS'.out (by go_grown),by go_grown⟩
theorem qG1{w w1:World}{o:Obj}(h:Below (w.alloc o).drew.heap.size (w.alloc o).drew w1):Below w.heap.size w w1:=((zN).drew).trans (h.mono (by simp))
theorem qLz(ho hn wh oo on tw tn:Int)(w:World):
  CP 255 #[.agg #[iv 1,iv ho,iv hn,iv wh,iv oo,iv on,iv tw,iv tn]] w fun e w'=>e=.returned (.bool (!(oo==0&&on==0&&tw==0&&tn==0)))/\Below w.heap.size w w':=by
 cases e1:(oo==0)
 .skip
  go_enter func255,ntmps255;go_wp2;go_region_held3 (fun w'=>w'.cell? ⟨w.heap.size,0,none⟩=some (iv 1)/\w'.cell? ⟨w.heap.size,1,none⟩=some (iv ho)/\w'.cell? ⟨w.heap.size,2,none⟩=some (iv hn)/\w'.cell? ⟨w.heap.size,3,none⟩=some (iv wh)/\w'.cell? ⟨w.heap.size,4,none⟩=some (iv oo)/\w'.cell? ⟨w.heap.size,5,none⟩=some (iv on)/\w'.cell? ⟨w.heap.size,6,none⟩=some (iv tw)/\w'.cell? ⟨w.heap.size,7,none⟩=some (iv tn)) (first | go_keep | exact hS) (first | (go_at_call 274;refine (QA2 ho hn wh oo on tw tn w.heap.size _ ?_).mono ?_;(first | assumption | simp[*]);rintro e w1 ⟨rfl,hS,hb⟩))
  go_wp2;go_ret;exact⟨by simp,qG1 hb⟩
 .skip
  cases e2:(on==0)
  .skip
   go_enter func255,ntmps255;go_wp2;go_region_held3 (fun w'=>w'.cell? ⟨w.heap.size,0,none⟩=some (iv 1)/\w'.cell? ⟨w.heap.size,1,none⟩=some (iv ho)/\w'.cell? ⟨w.heap.size,2,none⟩=some (iv hn)/\w'.cell? ⟨w.heap.size,3,none⟩=some (iv wh)/\w'.cell? ⟨w.heap.size,4,none⟩=some (iv oo)/\w'.cell? ⟨w.heap.size,5,none⟩=some (iv on)/\w'.cell? ⟨w.heap.size,6,none⟩=some (iv tw)/\w'.cell? ⟨w.heap.size,7,none⟩=some (iv tn)) (first | go_keep | exact hS) (first | (go_at_call 274;refine (QA2 ho hn wh oo on tw tn w.heap.size _ ?_).mono ?_;(first | assumption | simp[*]);rintro e w1 ⟨rfl,hS,hb⟩))
   go_wp2;go_ret;exact⟨by simp,qG1 hb⟩
  .skip
   cases e3:(tw==0)
   .skip
    go_enter func255,ntmps255;go_wp2;go_region_held3 (fun w'=>w'.cell? ⟨w.heap.size,0,none⟩=some (iv 1)/\w'.cell? ⟨w.heap.size,1,none⟩=some (iv ho)/\w'.cell? ⟨w.heap.size,2,none⟩=some (iv hn)/\w'.cell? ⟨w.heap.size,3,none⟩=some (iv wh)/\w'.cell? ⟨w.heap.size,4,none⟩=some (iv oo)/\w'.cell? ⟨w.heap.size,5,none⟩=some (iv on)/\w'.cell? ⟨w.heap.size,6,none⟩=some (iv tw)/\w'.cell? ⟨w.heap.size,7,none⟩=some (iv tn)) (first | go_keep | exact hS) (first | (go_at_call 274;refine (QA2 ho hn wh oo on tw tn w.heap.size _ ?_).mono ?_;(first | assumption | simp[*]);rintro e w1 ⟨rfl,hS,hb⟩))
    go_wp2;go_ret;exact⟨by simp,qG1 hb⟩
   .skip
    cases e4:(tn==0)
    .skip
     go_enter func255,ntmps255;go_wp2;go_region_held3 (fun w'=>w'.cell? ⟨w.heap.size,0,none⟩=some (iv 1)/\w'.cell? ⟨w.heap.size,1,none⟩=some (iv ho)/\w'.cell? ⟨w.heap.size,2,none⟩=some (iv hn)/\w'.cell? ⟨w.heap.size,3,none⟩=some (iv wh)/\w'.cell? ⟨w.heap.size,4,none⟩=some (iv oo)/\w'.cell? ⟨w.heap.size,5,none⟩=some (iv on)/\w'.cell? ⟨w.heap.size,6,none⟩=some (iv tw)/\w'.cell? ⟨w.heap.size,7,none⟩=some (iv tn)) (first | go_keep | exact hS) (first | (go_at_call 274;refine (QA2 ho hn wh oo on tw tn w.heap.size _ ?_).mono ?_;(first | assumption | simp[*]);rintro e w1 ⟨rfl,hS,hb⟩))
     go_wp2;go_ret;exact⟨by simp,qG1 hb⟩
    .skip
     go_enter func255,ntmps255;go_wp2;go_region_held3 (fun w'=>w'.cell? ⟨w.heap.size,0,none⟩=some (iv 1)/\w'.cell? ⟨w.heap.size,1,none⟩=some (iv ho)/\w'.cell? ⟨w.heap.size,2,none⟩=some (iv hn)/\w'.cell? ⟨w.heap.size,3,none⟩=some (iv wh)/\w'.cell? ⟨w.heap.size,4,none⟩=some (iv oo)/\w'.cell? ⟨w.heap.size,5,none⟩=some (iv on)/\w'.cell? ⟨w.heap.size,6,none⟩=some (iv tw)/\w'.cell? ⟨w.heap.size,7,none⟩=some (iv tn)) (first | go_keep | exact hS) (first | (go_at_call 274;refine (QA2 ho hn wh oo on tw tn w.heap.size _ ?_).mono ?_;(first | assumption | simp[*]);rintro e w1 ⟨rfl,hS,hb⟩))
     go_wp2;go_ret;exact⟨by simp,qG1 hb⟩
theorem qLy(ho hn wh oo on tw tn:Int)(w:World):
  CP 255 #[.agg #[iv 2,iv ho,iv hn,iv wh,iv oo,iv on,iv tw,iv tn]] w fun e w'=>e=.returned (.bool (!(wh==0&&tw==0&&tn==0)))/\Below w.heap.size w w':=by
 cases e1:(wh==0)
 .skip
  go_enter func255,ntmps255;go_wp2;go_region_held3 (fun w'=>w'.cell? ⟨w.heap.size,0,none⟩=some (iv 2)/\w'.cell? ⟨w.heap.size,1,none⟩=some (iv ho)/\w'.cell? ⟨w.heap.size,2,none⟩=some (iv hn)/\w'.cell? ⟨w.heap.size,3,none⟩=some (iv wh)/\w'.cell? ⟨w.heap.size,4,none⟩=some (iv oo)/\w'.cell? ⟨w.heap.size,5,none⟩=some (iv on)/\w'.cell? ⟨w.heap.size,6,none⟩=some (iv tw)/\w'.cell? ⟨w.heap.size,7,none⟩=some (iv tn)) (first | go_keep | exact hS) (first | (go_at_call 274;refine (QF4 ho hn wh oo on tw tn w.heap.size _ ?_).mono ?_;(first | assumption | simp[*]);rintro e w1 ⟨rfl,hS,hb⟩))
  go_wp2;go_ret;exact⟨by simp,qG1 hb⟩
 .skip
  cases e2:(tw==0)
  .skip
   go_enter func255,ntmps255;go_wp2;go_region_held3 (fun w'=>w'.cell? ⟨w.heap.size,0,none⟩=some (iv 2)/\w'.cell? ⟨w.heap.size,1,none⟩=some (iv ho)/\w'.cell? ⟨w.heap.size,2,none⟩=some (iv hn)/\w'.cell? ⟨w.heap.size,3,none⟩=some (iv wh)/\w'.cell? ⟨w.heap.size,4,none⟩=some (iv oo)/\w'.cell? ⟨w.heap.size,5,none⟩=some (iv on)/\w'.cell? ⟨w.heap.size,6,none⟩=some (iv tw)/\w'.cell? ⟨w.heap.size,7,none⟩=some (iv tn)) (first | go_keep | exact hS) (first | (go_at_call 274;refine (QF4 ho hn wh oo on tw tn w.heap.size _ ?_).mono ?_;(first | assumption | simp[*]);rintro e w1 ⟨rfl,hS,hb⟩))
   go_wp2;go_ret;exact⟨by simp,qG1 hb⟩
  .skip
   cases e3:(tn==0)
   .skip
    go_enter func255,ntmps255;go_wp2;go_region_held3 (fun w'=>w'.cell? ⟨w.heap.size,0,none⟩=some (iv 2)/\w'.cell? ⟨w.heap.size,1,none⟩=some (iv ho)/\w'.cell? ⟨w.heap.size,2,none⟩=some (iv hn)/\w'.cell? ⟨w.heap.size,3,none⟩=some (iv wh)/\w'.cell? ⟨w.heap.size,4,none⟩=some (iv oo)/\w'.cell? ⟨w.heap.size,5,none⟩=some (iv on)/\w'.cell? ⟨w.heap.size,6,none⟩=some (iv tw)/\w'.cell? ⟨w.heap.size,7,none⟩=some (iv tn)) (first | go_keep | exact hS) (first | (go_at_call 274;refine (QF4 ho hn wh oo on tw tn w.heap.size _ ?_).mono ?_;(first | assumption | simp[*]);rintro e w1 ⟨rfl,hS,hb⟩))
    go_wp2;go_ret;exact⟨by simp,qG1 hb⟩
   .skip
    go_enter func255,ntmps255;go_wp2;go_region_held3 (fun w'=>w'.cell? ⟨w.heap.size,0,none⟩=some (iv 2)/\w'.cell? ⟨w.heap.size,1,none⟩=some (iv ho)/\w'.cell? ⟨w.heap.size,2,none⟩=some (iv hn)/\w'.cell? ⟨w.heap.size,3,none⟩=some (iv wh)/\w'.cell? ⟨w.heap.size,4,none⟩=some (iv oo)/\w'.cell? ⟨w.heap.size,5,none⟩=some (iv on)/\w'.cell? ⟨w.heap.size,6,none⟩=some (iv tw)/\w'.cell? ⟨w.heap.size,7,none⟩=some (iv tn)) (first | go_keep | exact hS) (first | (go_at_call 274;refine (QF4 ho hn wh oo on tw tn w.heap.size _ ?_).mono ?_;(first | assumption | simp[*]);rintro e w1 ⟨rfl,hS,hb⟩))
    go_wp2;go_ret;exact⟨by simp,qG1 hb⟩
theorem qLx(ho hn wh oo on tw tn:Int)(w:World):
  CP 255 #[.agg #[iv 3,iv ho,iv hn,iv wh,iv oo,iv on,iv tw,iv tn]] w fun e w'=>e=.returned (.bool (!(wh==0&&tw==0)))/\Below w.heap.size w w':=by
 cases e1:(wh==0)
 .skip
  go_enter func255,ntmps255;go_wp2;go_region_held3 (fun w'=>w'.cell? ⟨w.heap.size,0,none⟩=some (iv 3)/\w'.cell? ⟨w.heap.size,1,none⟩=some (iv ho)/\w'.cell? ⟨w.heap.size,2,none⟩=some (iv hn)/\w'.cell? ⟨w.heap.size,3,none⟩=some (iv wh)/\w'.cell? ⟨w.heap.size,4,none⟩=some (iv oo)/\w'.cell? ⟨w.heap.size,5,none⟩=some (iv on)/\w'.cell? ⟨w.heap.size,6,none⟩=some (iv tw)/\w'.cell? ⟨w.heap.size,7,none⟩=some (iv tn)) (first | go_keep | exact hS) (first | (go_at_call 274;refine (QN0 ho hn wh oo on tw tn w.heap.size _ ?_).mono ?_;(first | assumption | simp[*]);rintro e w1 ⟨rfl,hS,hb⟩))
  go_wp2;go_ret;exact⟨by simp,qG1 hb⟩
 .skip
  cases e2:(tw==0)
  .skip
   go_enter func255,ntmps255;go_wp2;go_region_held3 (fun w'=>w'.cell? ⟨w.heap.size,0,none⟩=some (iv 3)/\w'.cell? ⟨w.heap.size,1,none⟩=some (iv ho)/\w'.cell? ⟨w.heap.size,2,none⟩=some (iv hn)/\w'.cell? ⟨w.heap.size,3,none⟩=some (iv wh)/\w'.cell? ⟨w.heap.size,4,none⟩=some (iv oo)/\w'.cell? ⟨w.heap.size,5,none⟩=some (iv on)/\w'.cell? ⟨w.heap.size,6,none⟩=some (iv tw)/\w'.cell? ⟨w.heap.size,7,none⟩=some (iv tn)) (first | go_keep | exact hS) (first | (go_at_call 274;refine (QN0 ho hn wh oo on tw tn w.heap.size _ ?_).mono ?_;(first | assumption | simp[*]);rintro e w1 ⟨rfl,hS,hb⟩))
   go_wp2;go_ret;exact⟨by simp,qG1 hb⟩
  .skip
   go_enter func255,ntmps255;go_wp2;go_region_held3 (fun w'=>w'.cell? ⟨w.heap.size,0,none⟩=some (iv 3)/\w'.cell? ⟨w.heap.size,1,none⟩=some (iv ho)/\w'.cell? ⟨w.heap.size,2,none⟩=some (iv hn)/\w'.cell? ⟨w.heap.size,3,none⟩=some (iv wh)/\w'.cell? ⟨w.heap.size,4,none⟩=some (iv oo)/\w'.cell? ⟨w.heap.size,5,none⟩=some (iv on)/\w'.cell? ⟨w.heap.size,6,none⟩=some (iv tw)/\w'.cell? ⟨w.heap.size,7,none⟩=some (iv tn)) (first | go_keep | exact hS) (first | (go_at_call 274;refine (QN0 ho hn wh oo on tw tn w.heap.size _ ?_).mono ?_;(first | assumption | simp[*]);rintro e w1 ⟨rfl,hS,hb⟩))
   go_wp2;go_ret;exact⟨by simp,qG1 hb⟩
theorem qLw(ho hn wh oo on tw tn:Int)(w:World):
  CP 255 #[.agg #[iv 4,iv ho,iv hn,iv wh,iv oo,iv on,iv tw,iv tn]] w fun e w'=>e=.returned (.bool (!(wh==0)))/\Below w.heap.size w w':=by
 cases e1:(wh==0)
 .skip
  go_enter func255,ntmps255;go_wp2;go_region_held3 (fun w'=>w'.cell? ⟨w.heap.size,0,none⟩=some (iv 4)/\w'.cell? ⟨w.heap.size,1,none⟩=some (iv ho)/\w'.cell? ⟨w.heap.size,2,none⟩=some (iv hn)/\w'.cell? ⟨w.heap.size,3,none⟩=some (iv wh)/\w'.cell? ⟨w.heap.size,4,none⟩=some (iv oo)/\w'.cell? ⟨w.heap.size,5,none⟩=some (iv on)/\w'.cell? ⟨w.heap.size,6,none⟩=some (iv tw)/\w'.cell? ⟨w.heap.size,7,none⟩=some (iv tn)) (first | go_keep | exact hS) (first | (go_at_call 274;refine (qAs ho hn wh oo on tw tn w.heap.size _ ?_).mono ?_;(first | assumption | simp[*]);rintro e w1 ⟨rfl,hS,hb⟩))
  go_wp2;go_ret;exact⟨by simp,qG1 hb⟩
 .skip
  go_enter func255,ntmps255;go_wp2;go_region_held3 (fun w'=>w'.cell? ⟨w.heap.size,0,none⟩=some (iv 4)/\w'.cell? ⟨w.heap.size,1,none⟩=some (iv ho)/\w'.cell? ⟨w.heap.size,2,none⟩=some (iv hn)/\w'.cell? ⟨w.heap.size,3,none⟩=some (iv wh)/\w'.cell? ⟨w.heap.size,4,none⟩=some (iv oo)/\w'.cell? ⟨w.heap.size,5,none⟩=some (iv on)/\w'.cell? ⟨w.heap.size,6,none⟩=some (iv tw)/\w'.cell? ⟨w.heap.size,7,none⟩=some (iv tn)) (first | go_keep | exact hS) (first | (go_at_call 274;refine (qAs ho hn wh oo on tw tn w.heap.size _ ?_).mono ?_;(first | assumption | simp[*]);rintro e w1 ⟨rfl,hS,hb⟩))
  go_wp2;go_ret;exact⟨by simp,qG1 hb⟩
theorem QX4(r:qA1)(hk:1<=r.k/\r.k<=4)(w:World):
  CP 255 #[.agg #[iv r.k,iv r.ho,iv r.hn,iv r.w,iv r.oo,iv r.on,iv r.to,iv r.tn]] w fun e w' =>
   e=.returned (.bool (!QS2 r))/\Below w.heap.size w w':=by
 obtain⟨k,ho,hn,wh,oo,on,tw,tn⟩:=r;simp only at hk ⊢
 have hk':k=1\/k=2\/k=3\/k=4:=by omega
 rcases hk' with rfl|rfl|rfl|rfl
 .exact qLz ho hn wh oo on tw tn w
 .exact qLy ho hn wh oo on tw tn w
 .exact qLx ho hn wh oo on tw tn w
 .exact qLw ho hn wh oo on tw tn w
