/-
  lustrumref1: Formed BY CONTRACT.
-/
import Derived.Test.YtmgfakcccfahaaaGreatDoorN17
namespace Go.Proofs.YtmgfakcccfahaaaGreatDoor
open Go.RowKit
set_option maxRecDepth 100000
set_option maxHeartbeats 2000000
attribute [local go_sem ↓] Go.wp_at_zero Go.wp_at_succ

def nM(op:List UInt8)(n:Int)(s:List UInt8)(m:Nat):Bool:=match iW.find? fun t=>t.1==op with
 | none=>false
 | some t=>!(decide (0≤t.2)&&!(t.2==(m:Int)))&&(!((!(n==0)&&!(op==[105,110,116]))||decide (n<0)||decide (127<n))&&(s.isEmpty||op==[110,97,109,101]||op==[99,97,108,108]))
theorem JN(op:ByteArray)(n:Int)(s:ByteArray)(o:Option Addr)(m c:Nat)(w:World)(t:List UInt8×Int)(h:t∈iW)(ht:op.toList=t.1) :
  Calls Tryz.prog 133 #[.agg #[.string op,.int .i64 n,.string s,.slice o m c]] w fun e w'=>e=.returned (.bool (!(decide (0≤t.2)&&!(t.2==(m:Int)))&&(!((!(n==0)&&!(op.toList==[105,110,116]))||decide (n<0)||decide (127<n))&&(s.toList.isEmpty||op.toList==[110,97,109,101]||op.toList==[99,97,108,108]))))∧Bw w w':=by
 have hbA:Bw w (w.alloc (.cells #[.string op,.int .i64 n,.string s,.slice o m c] 79)):=aH
 have HA:Hid (∀w,Calls Tryz.prog 68 #[.string op] w fun e w'=>e=.returned (.tuple #[.int .i64 t.2,.bool true])∧w'=w):=fun w=>Kt op w t h ht
 generalize t.2=a at HA ⊢
 clear h ht
 go_enter Tryz.func133,Tryz.ntmps133
 go_wp2_with fail
 refine(HA.out _).mono ?_
 rintro e w1 ⟨rfl,rfl⟩
 by_cases h1:0≤a∧a≠(m:Int)
 ·have e1:(decide (0≤a)&&!(a==(m:Int)))=true:=by simp [h1.1,h1.2]
  go_wp2
  go_ret
  exact⟨by rw[e1];rfl,hbA⟩
 ·have h2:a<0∨a=(m:Int):=by omega
  have e1:(decide (0≤a)&&!(a==(m:Int)))=false:=by
   rcases h2 with h2 | h2
   ·have:¬0≤a:=by omega
    simp [this]
   ·simp [h2]
  have HE1:Hid ((decide (0≤a)&&!(a==(m:Int)))=false):=e1
  clear h1 e1
  have hN:n=0∨(n≠0∧(op.toList==[105,110,116])=false)∨(n≠0∧(op.toList==[105,110,116])=true∧n<0)∨(n≠0∧(op.toList==[105,110,116])=true∧¬n<0∧127<n)∨(n≠0∧(op.toList==[105,110,116])=true∧¬n<0∧¬127<n):=by
   by_cases a1:n=0
   ·exact Or.inl a1
   ·cases a2:(op.toList==[105,110,116])
    ·exact Or.inr (Or.inl ⟨a1,rfl⟩)
    ·by_cases a3:n<0
     ·exact Or.inr (Or.inr (Or.inl ⟨a1,rfl,a3⟩))
     ·by_cases a4:127<n
      ·exact Or.inr (Or.inr (Or.inr (Or.inl ⟨a1,rfl,a3,a4⟩)))
      ·exact Or.inr (Or.inr (Or.inr (Or.inr ⟨a1,rfl,a3,a4⟩)))
  have hS:s.toList=[]∨(s.toList≠[]∧(op.toList==[110,97,109,101])=true)∨(s.toList≠[]∧(op.toList==[110,97,109,101])=false∧(op.toList==[99,97,108,108])=true)∨(s.toList≠[]∧(op.toList==[110,97,109,101])=false∧(op.toList==[99,97,108,108])=false):=by
   by_cases a1:s.toList=[]
   ·exact Or.inl a1
   ·cases a2:(op.toList==[110,97,109,101])
    ·cases a3:(op.toList==[99,97,108,108])
     ·exact Or.inr (Or.inr (Or.inr ⟨a1,rfl,rfl⟩))
     ·exact Or.inr (Or.inr (Or.inl ⟨a1,rfl,rfl⟩))
    ·exact Or.inr (Or.inl ⟨a1,rfl⟩)
  have hs0:s.toList≠[]→(s.toList==[])=false:=fun h=>beq_eq_false_iff_ne.2 h
  have h2':¬0≤a∨a=(m:Int):=h2.imp (fun h=>by omega) id
  clear h2
  rcases h2' with h2 | h2<;>rcases hN with rfl | ⟨n1,n2⟩ | ⟨n1,n2,n3⟩ | ⟨n1,n2,n3,n4⟩ | ⟨n1,n2,n3,n4⟩
  all_goals
   rcases hS with hs | ⟨hs,k1⟩ | ⟨hs,k1,k2⟩ | ⟨hs,k1,k2⟩
  all_goals
   first
    | (go_wp2;go_ret;refine⟨?_,hbA⟩;have e1:=HE1.out;simp_all;done)
    | (go_wp2;go_ret;refine⟨?_,hbA⟩;have e1:=HE1.out;simp_all;omega)
    | trace_state
theorem JM(op:ByteArray)(n:Int)(s:ByteArray)(o:Option Addr)(m c:Nat)(w:World)(h:∀t∈iW,op.toList≠t.1) :
  Calls Tryz.prog 133 #[.agg #[.string op,.int .i64 n,.string s,.slice o m c]] w fun e w'=>e=.returned (.bool false)∧Bw w w':=by
 have hbA:Bw w (w.alloc (.cells #[.string op,.int .i64 n,.string s,.slice o m c] 79)):=aH
 have HA:Hid (∀w,Calls Tryz.prog 68 #[.string op] w fun e w'=>e=.returned (.tuple #[.int .i64 0,.bool false])∧w'=w):=fun w=>Kq op w h
 clear h
 go_enter Tryz.func133,Tryz.ntmps133
 go_wp2_with fail
 refine(HA.out _).mono ?_
 rintro e w1 ⟨rfl,rfl⟩
 go_wp2
 go_ret
 exact⟨rfl,hbA⟩
theorem JR(n:Int)(s:List UInt8)(m:Nat):nM [99,97,108,108] n s m=cO [99,97,108,108] n s m:=by
 have h1:iW.find? (fun t=>t.1==[99,97,108,108])=some ([99,97,108,108],-1):=by decide
 simp only[nM,h1,cO,iE,nH,lW]
 by_cases hn:n=0
 ·subst hn;simp
 ·have e0:(n==0)=false:=beq_eq_false_iff_ne.2 hn
  simp [e0]
theorem JP{t:List UInt8×Nat×List Nat}(ht:t∈eY)(n:Int)(s:List UInt8)(m:Nat):nM t.1 n s m=cO t.1 n s m:=by
 have hfind:iW.find? (fun u=>u.1==t.1)=some (t.1,(t.2.2.length:Int)):=(by decide:∀t∈eY,iW.find? (fun u=>u.1==t.1)=some (t.1,(t.2.2.length:Int))) t ht
 have hc:t.1≠iE:=(by decide:∀t∈eY,t.1≠iE) t ht
 by_cases hm:m=t.2.2.length
 ·subst hm
  rw[DU ht rfl]
  simp only[nM,hfind]
  by_cases hi:t.1=nH
  ·have hn0:t.1≠lW:=by rw[hi];decide
   simp only[hi,nH,lW,iE] at *
   cases s with
   | nil=>by_cases h0:n<0<;>by_cases h1:127<n<;>simp [h0,h1]<;>omega
   | cons a b=>simp
  ·by_cases hn:t.1=lW
   ·simp only[hn,nH,lW,iE] at *
    by_cases h0:n=0
    ·subst h0;simp
    ·have e0:(n==0)=false:=beq_eq_false_iff_ne.2 h0
     simp [e0]
   ·have e1:(t.1==[105,110,116])=false:=beq_eq_false_iff_ne.2 hi
    have e2:(t.1==[110,97,109,101])=false:=beq_eq_false_iff_ne.2 hn
    have e3:(t.1==[99,97,108,108])=false:=beq_eq_false_iff_ne.2 hc
    simp only[nH,lW,iE,e1,e2,e3]
    by_cases h0:n=0
    ·subst h0
     cases s<;>simp
    ·have e0:(n==0)=false:=beq_eq_false_iff_ne.2 h0
     simp [e0]
 ·rw[DT ht rfl hc hm]
  simp only[nM,hfind]
  have:¬((t.2.2.length:Int)=(m:Int)):=by omega
  simp [this]
theorem JQ(op:List UInt8)(n:Int)(s:List UInt8)(m:Nat):nM op n s m=cO op n s m:=by
 by_cases hc:op=iE
 ·subst hc;exact JR n s m
 ·by_cases hs:∃t∈eY,op=t.1
  ·obtain⟨t,ht,rfl⟩:=hs
   exact JP ht n s m
  ·rw[DR hc hs]
   have:iW.find? (fun t=>t.1==op)=none:=by
    rw[List.find?_eq_none]
    intro u hu hub
    have hu':u.1=op:=by simpa using hub
    rcases (by decide:∀u∈iW,u.1=iE∨∃t∈eY,u.1=t.1) u hu with h | ⟨t,ht,h⟩
    ·exact hc (hu'.symm.trans h)
    ·exact hs ⟨t,ht,hu'.symm.trans h⟩
   simp only[nM,this]
theorem JO(op:ByteArray)(n:Int)(s:ByteArray)(o:Option Addr)(m c:Nat)(w:World) :
  Calls Tryz.prog 133 #[.agg #[.string op,.int .i64 n,.string s,.slice o m c]] w fun e w'=>e=.returned (.bool (cO op.toList n s.toList m))∧Bw w w':=by
 rw[←JQ]
 by_cases h:∃t∈iW,op.toList=t.1
 ·obtain⟨t,ht,ho⟩:=h
  have hf:iW.find? (fun u=>u.1==op.toList)=some t:=by
   rw[ho]
   exact(by decide:∀t∈iW,iW.find? (fun u=>u.1==t.1)=some t) t ht
  have:=JN op n s o m c w t ht ho
  simp only[nM,hf]
  exact this
 ·have hn:iW.find? (fun u=>u.1==op.toList)=none:=by
   rw[List.find?_eq_none]
   intro u hu hub
   exact h ⟨u,hu,(by simpa using hub:u.1=op.toList).symm⟩
  have:=JM op n s o m c w fun t ht ho=>h ⟨t,ht,ho⟩
  simp only[nM,hn]
  exact this
def xN:List (List UInt8×Nat×Int×Int):=[([110,111,116],1,1,1),([110,101,103],1,2,2),([105,102],3,0,0),([97,110,100],2,1,1),([111,114],2,1,1),([120,111,114],2,1,1),([61,62],2,1,1),([61],2,0,1),([60,62],2,0,1),([60],2,2,1),([60,61],2,2,1),([62],2,2,1),([62,61],2,2,1),([43],2,2,2),([45],2,2,2),([42],2,2,2),([47],2,2,2),([109,111,100],2,2,2)]
end Go.Proofs.YtmgfakcccfahaaaGreatDoor
