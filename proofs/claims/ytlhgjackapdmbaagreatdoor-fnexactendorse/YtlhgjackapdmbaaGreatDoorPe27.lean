/- Contracts. -/
import Derived.Test.YtlhgjackapdmbaaGreatDoorPe25
namespace Go.Proofs.YtlhgjackapdmbaaGreatDoor
set_option maxRecDepth 100000
set_option maxHeartbeats 8000000
open Go.RowKit
set_option linter.unusedVariables false
set_option linter.unusedSimpArgs false

def nfC (cs:List qA5) (e n:Int):Int:=if n < 0∨(cs.length:Int)≤n then 3 else if (cs[n.toNat]?.getD default).e≠e+1 then 10 else 0
theorem nextFault_c (a:Option Addr) (m cap:Nat) (cs:List qA5) (e n:Int) (w:World) (hm:m≤1048576) (he:0≤e∧e≤100) (hc:qA7 w a m cs) :
  Calls Tryz.prog 111 #[.slice a m cap,.int .i64 e,.int .i64 n] w fun d w'=>d = .returned (.int .i64 (nfC cs e n))∧Below w.heap.size w w':=by
 have HC:Hid (qA7 w a m cs):=hc
 have HL:Hid (cs.length=m):=hc.len
 have hm':(m:Int)≤1048576:=by omega
 obtain ⟨he0,he1⟩:=he
 clear hc
 by_cases h0:n < 0
 ·have HV:Hid (nfC cs e n=3):=by show nfC cs e n=3;unfold nfC;rw [if_pos (.inl h0)]
  rw [HV.out]
  have hb:decide (n < 0)=true:=by simp [h0]
  go_enter Tryz.func111,Tryz.ntmps111
  go_wp2
  go_ret
  exact ⟨rfl,Below.refl _ _⟩
 ·have hb:decide (n < 0)=false:=by simp;omega
  by_cases h1:(m:Int)≤n
  ·have HV:Hid (nfC cs e n=3):=by show nfC cs e n=3;unfold nfC;rw [if_pos (.inr (by rw [HL.out];exact h1))]
   rw [HV.out]
   have hb1:decide ((m:Int)≤n)=true:=by simp [h1]
   go_enter Tryz.func111,Tryz.ntmps111
   go_wp2
   go_ret
   exact ⟨rfl,Below.refl _ _⟩
  ·obtain ⟨k,rfl⟩:∃ k:Nat,n=(k:Int):=Int.eq_ofNat_of_zero_le (by omega)
   have hkm:k < m:=by omega
   have hb1:decide ((m:Int)≤(k:Int))=false:=by simp;omega
   obtain ⟨g,off,c,rfl,hck,hat,_⟩:=HC.out.at hkm
   have HV:Hid (nfC cs e (k:Int)=if c.e≠e+1 then 10 else 0):=by show nfC _ _ _=_;unfold nfC;rw [if_neg (by rw [HL.out];omega),Int.toNat_natCast,hck];rfl
   have hgl:=hat.lt
   obtain ⟨y0,_⟩:=hat
   have hlt':(k:Int) < (m:Int):=by omega
   by_cases hce:c.e=e+1
   ·have hceb:(c.e != e+1)=false:=by simp [hce]
    rw [HV.out,if_neg (by simp [hce])]
    clear hce hck h0 h1
    go_enter Tryz.func111,Tryz.ntmps111
    go_wp2
    go_ret
    exact ⟨rfl,Below.refl _ _⟩
   ·have hceb:(c.e != e+1)=true:=by simp [hce]
    rw [HV.out,if_pos hce]
    clear hce hck h0 h1
    go_enter Tryz.func111,Tryz.ntmps111
    go_wp2
    go_ret
    exact ⟨rfl,Below.refl _ _⟩

def qQ9 (s:Int):Bool:=decide (0≤s)&&decide (s≤255)

section
open Go.RowKit Go.Sort
theorem QQ3 (s:Int) (w:World):Calls Tryz.prog 133 #[.int .i64 s] w fun e w'=>e = .returned (.int .i64 (if qQ9 s=true then 0 else 3))∧w=w':=by
 by_cases h0:0≤s
 ·by_cases h1:s≤255
  ·have h2:s < (256:Int):=by omega
   rw [show (if qQ9 s=true then (0:Int) else 3)=0 by simp [qQ9,h0,h1]]
   go_enter Tryz.func133,Tryz.ntmps133
   go_wp2
   go_ret
   exact ⟨rfl,rfl⟩
  ·have h2:(256:Int)≤s:=by omega
   rw [show (if qQ9 s=true then (0:Int) else 3)=3 by simp [qQ9,h1]]
   go_enter Tryz.func133,Tryz.ntmps133
   go_wp2
   go_ret
   exact ⟨rfl,rfl⟩
 ·have h2:s < (0:Int):=by omega
  rw [show (if qQ9 s=true then (0:Int) else 3)=3 by simp [qQ9,h0]]
  go_enter Tryz.func133,Tryz.ntmps133
  go_wp2
  go_ret
  exact ⟨rfl,rfl⟩
end

theorem l1Set_c (s:Int) (w:World):Calls Tryz.prog 124 #[.int .i64 s] w fun e w'=>e = .returned (.bool (qQ9 s))∧w=w':=by
 unfold qQ9
 cases h0:decide (0≤s)
 ·go_enter Tryz.func124,Tryz.ntmps124
  go_wp2
  go_ret
  exact ⟨by simp,rfl⟩
 ·have h0':=of_decide_eq_true h0
  cases h1:decide (s≤255)
  all_goals
   go_enter Tryz.func124,Tryz.ntmps124
   go_wp2
   go_ret
   exact ⟨by simp,rfl⟩

end Go.Proofs.YtlhgjackapdmbaaGreatDoor
