/- Contracts. -/
import Derived.Test.YtdghpccmdnnenaaGreatDoorPx27
namespace Go.Proofs.YtdghpccmdnnenaaGreatDoor
set_option maxRecDepth 100000
set_option maxHeartbeats 8000000
open Go.RowKit Go.Proofs.Tryz
set_option linter.unusedVariables false
set_option linter.unusedSimpArgs false
theorem qFT(a:Option Addr)(n cap:Nat)(left:Int)(w:World)(hm:n<=maxLen)(h0:0<=left)(h1:left<=1048576):
  CP 39 #[.slice a n cap,iv left] w fun e w'=>(∃v:Int,e=.returned (iv v)/\v<=left/\(0<=v->n<=1048576))/\Below w.heap.size w w':=by
 unfold maxLen at hm;have hm':(n:Int)<=9223372036854775807:=by omega
 by_cases hl:left-(n:Int)<0
 .go_enter func39,ntmps39;go_wp2;go_ret;exact⟨⟨-1,rfl,by omega,fun h=>by omega⟩,gC _ _⟩
 .have hl':¬ (left-(n:Int)<0):=hl;go_enter func39,ntmps39;go_wp2;go_ret;exact⟨⟨left-n,rfl,by omega,fun h=>by omega⟩,gC _ _⟩
theorem qHB(a:Option Addr)(n cap:Nat)(left:Int)(w:World)(hm:n<=maxLen)(h0:0<=left)(h1:left<=1048576):
  CP 37 #[.slice a n cap,iv left] w fun e w'=>(∃v:Int,e=.returned (iv v)/\v<=left /\ -1<=v/\(0<=v->n<=1048576))/\w=w':=by
 unfold maxLen at hm;have hm':(n:Int)<=9223372036854775807:=by omega
 by_cases hl:left-(n:Int)<0
 .go_enter func37,ntmps37;go_wp2;go_ret;exact⟨⟨-1,rfl,by omega,by omega,fun h=>by omega⟩,rfl⟩
 .have hl':¬ (left-(n:Int)<0):=hl;go_enter func37,ntmps37;go_wp2;go_ret;exact⟨⟨left-n,rfl,by omega,by omega,fun h=>by omega⟩,rfl⟩
