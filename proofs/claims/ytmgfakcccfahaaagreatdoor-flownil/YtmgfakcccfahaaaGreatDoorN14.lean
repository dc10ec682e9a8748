/-
  flow's OPERATORS, ONE BY ONE, BY CONTRACT.
-/
import Derived.Test.YtmgfakcccfahaaaGreatDoorN05
namespace Go.Proofs.YtmgfakcccfahaaaGreatDoor
open Go.RowKit Go.Maps
set_option maxRecDepth 100000

theorem G9(a:Int):bits .and .i64 a 255=a % 256:=by
 have h1:((BitVec.ofInt 64 a).toNat:Int)=a % 18446744073709551616:=by simp [BitVec.toNat_ofInt];omega
 show IntKind.i64.wrap ((BitVec.ofInt 64 a &&& BitVec.ofInt 64 255).toNat:Int)=_
 have h3:(BitVec.ofInt 64 (255:Int)).toNat=2 ^ 8-1:=by decide
 rw[BitVec.toNat_and,h3,Nat.and_two_pow_sub_one_eq_mod,IntKind.wrap_i64]
 omega
theorem vZ(n:Int)(hn:-100000<n∧n<100000)(w:World):Calls Tryz.prog 113 #[.int .i64 n] w fun e w'=>e=.returned (.int .i64 (cB n))∧w'=w:=by
 have hb:=G9 (n+128)
 have h1:wrap64 (n+128)=n+128:=by unfold wrap64;omega
 have h2:wrap64 ((n+128) % 256-128)=(n+128) % 256-128:=by unfold wrap64;omega
 clear hn
 go_enter Tryz.func113,Tryz.ntmps113
 go_wp2
 go_ret
 exact⟨rfl,rfl⟩
theorem lZ(b:Bool)(w:World):Calls Tryz.prog 101 #[.bool b] w fun e w'=>e=.returned (.int .i64 (bB b))∧w'=w:=by
 cases b
 ·go_enter Tryz.func101,Tryz.ntmps101
  go_wp2
  go_ret
  exact⟨rfl,rfl⟩
 ·go_enter Tryz.func101,Tryz.ntmps101
  go_wp2
  go_ret
  exact⟨rfl,rfl⟩
def yQ(i:FuncId)(a b r:Int):Prop:=∀w,Calls Tryz.prog i #[.int .i64 a,.int .i64 b] w fun e w'=>e=.returned (.int .i64 r)∧w'=w
def qR(i:FuncId)(a b:Int)(r:Bool):Prop:=∀w,Calls Tryz.prog i #[.int .i64 a,.int .i64 b] w fun e w'=>e=.returned (.bool r)∧w'=w
theorem Lh(a b:Int)(ha:Sm a)(hb:Sm b):yQ 153 a b (a+b):=by
 intro w
 unfold Sm at ha hb
 have h1:wrap64 (a+b)=a+b:=by unfold wrap64;omega
 clear ha hb
 go_enter Tryz.func153,Tryz.ntmps153
 go_wp2
 go_ret
 exact⟨by show Ending.returned (Value.int .i64 (wrap64 (a+b)))=_;rw[h1],rfl⟩
theorem Lg(a b:Int)(ha:Sm a)(hb:Sm b):yQ 154 a b (a-b):=by
 intro w
 unfold Sm at ha hb
 have h1:wrap64 (a-b)=a-b:=by unfold wrap64;omega
 clear ha hb
 go_enter Tryz.func154,Tryz.ntmps154
 go_wp2
 go_ret
 exact⟨by show Ending.returned (Value.int .i64 (wrap64 (a-b)))=_;rw[h1],rfl⟩
theorem Lf(a b:Int)(ha:Sm a)(hb:Sm b):yQ 155 a b (a*b):=by
 intro w
 unfold Sm at ha hb
 have hm:=BF ha hb
 have h1:wrap64 (a*b)=a*b:=by unfold wrap64;omega
 clear hm
 clear ha hb
 go_enter Tryz.func155,Tryz.ntmps155
 go_wp2
 go_ret
 exact⟨by show Ending.returned (Value.int .i64 (wrap64 (a*b)))=_;rw[h1],rfl⟩
theorem PS(a b:Int)(ha:Sm a)(h0:b≠0):yQ 156 a b (a.tdiv b):=by
 intro w
 have d0:(b==0)=false:=beq_eq_false_iff_ne.2 h0
 unfold Sm at ha
 have hq:=Int.natAbs_tdiv_le_natAbs a b
 have h1:wrap64 (a.tdiv b)=a.tdiv b:=by unfold wrap64;omega
 clear ha hq
 go_enter Tryz.func156,Tryz.ntmps156
 go_wp2
 go_ret
 exact⟨by show Ending.returned (Value.int .i64 (wrap64 (a.tdiv b)))=_;rw[h1],rfl⟩
theorem PO(a b:Int)(h0:b≠0):yQ 157 a b (a-a.tdiv b*b):=by
 intro w
 have d0:(b==0)=false:=beq_eq_false_iff_ne.2 h0
 have e1:a.tmod b=a-a.tdiv b*b:=by rw[Int.tmod_def,Int.mul_comm]
 go_enter Tryz.func157,Tryz.ntmps157
 go_wp2
 go_ret
 exact⟨rfl,rfl⟩
theorem JD(a b:Int)(ha:a=0∨a=1)(hb:b=0∨b=1):qR 158 a b (a+b==2):=by
 intro w
 rcases ha with rfl | rfl<;>rcases hb with rfl | rfl
 ·go_enter Tryz.func158,Tryz.ntmps158
  go_wp2
  go_ret
  exact⟨rfl,rfl⟩
 ·go_enter Tryz.func158,Tryz.ntmps158
  go_wp2
  go_ret
  exact⟨rfl,rfl⟩
 ·go_enter Tryz.func158,Tryz.ntmps158
  go_wp2
  go_ret
  exact⟨rfl,rfl⟩
 ·go_enter Tryz.func158,Tryz.ntmps158
  go_wp2
  go_ret
  exact⟨rfl,rfl⟩
theorem JB(a b:Int)(ha:a=0∨a=1)(hb:b=0∨b=1):qR 159 a b (decide (0<a+b)):=by
 intro w
 rcases ha with rfl | rfl<;>rcases hb with rfl | rfl
 ·go_enter Tryz.func159,Tryz.ntmps159
  go_wp2
  go_ret
  exact⟨rfl,rfl⟩
 ·go_enter Tryz.func159,Tryz.ntmps159
  go_wp2
  go_ret
  exact⟨rfl,rfl⟩
 ·go_enter Tryz.func159,Tryz.ntmps159
  go_wp2
  go_ret
  exact⟨rfl,rfl⟩
 ·go_enter Tryz.func159,Tryz.ntmps159
  go_wp2
  go_ret
  exact⟨rfl,rfl⟩
theorem JA(a b:Int)(ha:a=0∨a=1)(hb:b=0∨b=1):qR 160 a b (a+b==1):=by
 intro w
 rcases ha with rfl | rfl<;>rcases hb with rfl | rfl
 ·go_enter Tryz.func160,Tryz.ntmps160
  go_wp2
  go_ret
  exact⟨rfl,rfl⟩
 ·go_enter Tryz.func160,Tryz.ntmps160
  go_wp2
  go_ret
  exact⟨rfl,rfl⟩
 ·go_enter Tryz.func160,Tryz.ntmps160
  go_wp2
  go_ret
  exact⟨rfl,rfl⟩
 ·go_enter Tryz.func160,Tryz.ntmps160
  go_wp2
  go_ret
  exact⟨rfl,rfl⟩
theorem Jz(a b:Int)(ha:a=0∨a=1)(hb:b=0∨b=1):qR 161 a b (decide (a≤b)):=by
 intro w
 rcases ha with rfl | rfl<;>rcases hb with rfl | rfl
 ·go_enter Tryz.func161,Tryz.ntmps161
  go_wp2
  go_ret
  exact⟨rfl,rfl⟩
 ·go_enter Tryz.func161,Tryz.ntmps161
  go_wp2
  go_ret
  exact⟨rfl,rfl⟩
 ·go_enter Tryz.func161,Tryz.ntmps161
  go_wp2
  go_ret
  exact⟨rfl,rfl⟩
 ·go_enter Tryz.func161,Tryz.ntmps161
  go_wp2
  go_ret
  exact⟨rfl,rfl⟩
theorem Jy(a b:Int) :qR 162 a b (a==b):=by
 intro w
 go_enter Tryz.func162,Tryz.ntmps162
 go_wp2
 go_ret
 exact⟨rfl,rfl⟩
theorem Jw(a b:Int) :qR 163 a b (a != b):=by
 intro w
 go_enter Tryz.func163,Tryz.ntmps163
 go_wp2
 go_ret
 exact⟨rfl,rfl⟩
theorem Jv(a b:Int) :qR 164 a b (decide (a<b)):=by
 intro w
 go_enter Tryz.func164,Tryz.ntmps164
 go_wp2
 go_ret
 exact⟨rfl,rfl⟩
theorem Ju(a b:Int) :qR 165 a b (decide (a≤b)):=by
 intro w
 go_enter Tryz.func165,Tryz.ntmps165
 go_wp2
 go_ret
 exact⟨rfl,rfl⟩
theorem Jt(a b:Int) :qR 166 a b (decide (b<a)):=by
 intro w
 go_enter Tryz.func166,Tryz.ntmps166
 go_wp2
 go_ret
 exact⟨rfl,rfl⟩
theorem JC(a b:Int) :qR 167 a b (decide (b≤a)):=by
 intro w
 go_enter Tryz.func167,Tryz.ntmps167
 go_wp2
 go_ret
 exact⟨rfl,rfl⟩
theorem MQ(p:Nat)(a b:Int)(v:Value)(w:World)(hv:jA w v [a,b])(hp:w.cell? ⟨p,0,none⟩=some (.func (.func 153) #[] #[]))(ha:Sm a)(hb:Sm b) :
  Calls Tryz.prog 116 #[v,.pointer (some ⟨p,0,none⟩)] w fun e w'=>e=.returned (.tuple #[.int .i64 (cB (a+b)),.bool false])∧Bw w w':=by
 obtain⟨hl,o,c,rfl,hc⟩:=hv
 obtain⟨b0,off,rfl,x0⟩:=hc 0 a rfl
 obtain⟨b1,bP,e1,x1⟩:=hc 1 b rfl
 obtain⟨rfl,rfl⟩:b0=b1∧off=bP:=by simpa using e1
 clear hc hl e1
 simp only[Nat.add_zero] at x0
 have HS:Hid (Sm a∧Sm b):=⟨ha,hb⟩
 have HR:Hid (-100000<a+b∧a+b<100000):=by unfold Hid;unfold Sm at ha hb;omega
 clear ha hb
 go_enter Tryz.func116,Tryz.ntmps116
 go_wp2
 go_quiet ((first | (go_at_call 113;exact Calls.quiet_of_same (vZ _ HR.out _)) | (go_at_call 153;exact Calls.quiet_of_same (Lh a b HS.out.1 HS.out.2 _))))
 go_wp2
 go_ret2
 exact⟨rfl,iR (Below.refl _ _) _⟩
theorem MP(p:Nat)(a b:Int)(v:Value)(w:World)(hv:jA w v [a,b])(hp:w.cell? ⟨p,0,none⟩=some (.func (.func 154) #[] #[]))(ha:Sm a)(hb:Sm b) :
  Calls Tryz.prog 116 #[v,.pointer (some ⟨p,0,none⟩)] w fun e w'=>e=.returned (.tuple #[.int .i64 (cB (a-b)),.bool false])∧Bw w w':=by
 obtain⟨hl,o,c,rfl,hc⟩:=hv
 obtain⟨b0,off,rfl,x0⟩:=hc 0 a rfl
 obtain⟨b1,bP,e1,x1⟩:=hc 1 b rfl
 obtain⟨rfl,rfl⟩:b0=b1∧off=bP:=by simpa using e1
 clear hc hl e1
 simp only[Nat.add_zero] at x0
 have HS:Hid (Sm a∧Sm b):=⟨ha,hb⟩
 have HR:Hid (-100000<a-b∧a-b<100000):=by unfold Hid;unfold Sm at ha hb;omega
 clear ha hb
 go_enter Tryz.func116,Tryz.ntmps116
 go_wp2
 go_quiet ((first | (go_at_call 113;exact Calls.quiet_of_same (vZ _ HR.out _)) | (go_at_call 154;exact Calls.quiet_of_same (Lg a b HS.out.1 HS.out.2 _))))
 go_wp2
 go_ret2
 exact⟨rfl,iR (Below.refl _ _) _⟩
theorem MO(p:Nat)(a b:Int)(v:Value)(w:World)(hv:jA w v [a,b])(hp:w.cell? ⟨p,0,none⟩=some (.func (.func 155) #[] #[]))(ha:Sm a)(hb:Sm b) :
  Calls Tryz.prog 116 #[v,.pointer (some ⟨p,0,none⟩)] w fun e w'=>e=.returned (.tuple #[.int .i64 (cB (a*b)),.bool false])∧Bw w w':=by
 obtain⟨hl,o,c,rfl,hc⟩:=hv
 obtain⟨b0,off,rfl,x0⟩:=hc 0 a rfl
 obtain⟨b1,bP,e1,x1⟩:=hc 1 b rfl
 obtain⟨rfl,rfl⟩:b0=b1∧off=bP:=by simpa using e1
 clear hc hl e1
 simp only[Nat.add_zero] at x0
 have HS:Hid (Sm a∧Sm b):=⟨ha,hb⟩
 have hm:=BF ha hb
 have HR:Hid (-100000<a*b∧a*b<100000):=by unfold Hid;unfold Sm at ha hb;omega
 clear ha hb hm
 go_enter Tryz.func116,Tryz.ntmps116
 go_wp2
 go_quiet ((first | (go_at_call 113;exact Calls.quiet_of_same (vZ _ HR.out _)) | (go_at_call 155;exact Calls.quiet_of_same (Lf a b HS.out.1 HS.out.2 _))))
 go_wp2
 go_ret2
 exact⟨rfl,iR (Below.refl _ _) _⟩
theorem MU(p:Nat)(a b:Int)(v:Value)(w:World)(hv:jA w v [a,b])(hp:w.cell? ⟨p,0,none⟩=some (.func (.func 156) #[] #[]))(ha:Sm a)(h0:b≠0) :
  Calls Tryz.prog 118 #[v,.pointer (some ⟨p,0,none⟩)] w fun e w'=>e=.returned (.tuple #[.int .i64 (cB (a.tdiv b)),.bool false])∧Bw w w':=by
 obtain⟨hl,o,c,rfl,hc⟩:=hv
 obtain⟨b0,off,rfl,x0⟩:=hc 0 a rfl
 obtain⟨b1,bP,e1,x1⟩:=hc 1 b rfl
 obtain⟨rfl,rfl⟩:b0=b1∧off=bP:=by simpa using e1
 clear hc hl e1
 simp only[Nat.add_zero] at x0
 have HS:=aA ha
 have H0:=aA h0
 have d0:(b==0)=false:=beq_eq_false_iff_ne.2 h0
 have hq:=Int.natAbs_tdiv_le_natAbs a b
 have HR:Hid (-100000<a.tdiv b∧a.tdiv b<100000):=by unfold Hid;unfold Sm at ha;omega
 clear ha h0 hq
 go_enter Tryz.func118,Tryz.ntmps118
 go_wp2
 go_quiet ((first | (go_at_call 113;exact Calls.quiet_of_same (vZ _ HR.out _)) | (go_at_call 156;exact Calls.quiet_of_same (PS a b HS.out H0.out _))))
 go_wp2
 go_ret2
 exact⟨rfl,iR (Below.refl _ _) _⟩
theorem MS(p:Nat)(a b:Int)(v:Value)(w:World)(hv:jA w v [a,b])(hp:w.cell? ⟨p,0,none⟩=some (.func (.func 157) #[] #[]))(ha:Sm a)(hb:Sm b)(h0:b≠0) :
  Calls Tryz.prog 118 #[v,.pointer (some ⟨p,0,none⟩)] w fun e w'=>e=.returned (.tuple #[.int .i64 (cB (a-a.tdiv b*b)),.bool false])∧Bw w w':=by
 obtain⟨hl,o,c,rfl,hc⟩:=hv
 obtain⟨b0,off,rfl,x0⟩:=hc 0 a rfl
 obtain⟨b1,bP,e1,x1⟩:=hc 1 b rfl
 obtain⟨rfl,rfl⟩:b0=b1∧off=bP:=by simpa using e1
 clear hc hl e1
 simp only[Nat.add_zero] at x0
 have HS:=aA ha
 have H0:=aA h0
 have d0:(b==0)=false:=beq_eq_false_iff_ne.2 h0
 have hq:=Int.natAbs_tdiv_le_natAbs a b
 have hm:=BF (x:=a.tdiv b) (y:=b) (by unfold Sm at ha;omega) hb
 have HR:Hid (-100000<a-a.tdiv b*b∧a-a.tdiv b*b<100000):=by unfold Hid;unfold Sm at ha hb;omega
 clear ha h0 hq hb hm
 go_enter Tryz.func118,Tryz.ntmps118
 go_wp2
 go_quiet ((first | (go_at_call 113;exact Calls.quiet_of_same (vZ _ HR.out _)) | (go_at_call 157;exact Calls.quiet_of_same (PO a b H0.out _))))
 go_wp2
 go_ret2
 exact⟨rfl,iR (Below.refl _ _) _⟩
theorem ML(p:Nat)(a b:Int)(v:Value)(w:World)(hv:jA w v [a,b])(hp:w.cell? ⟨p,0,none⟩=some (.func (.func 158) #[] #[]))(ha:a=0∨a=1)(hb:b=0∨b=1) :
  Calls Tryz.prog 120 #[v,.pointer (some ⟨p,0,none⟩)] w fun e w'=>e=.returned (.tuple #[.int .i64 (bB (a+b==2)),.bool false])∧Bw w w':=by
 obtain⟨hl,o,c,rfl,hc⟩:=hv
 obtain⟨b0,off,rfl,x0⟩:=hc 0 a rfl
 obtain⟨b1,bP,e1,x1⟩:=hc 1 b rfl
 obtain⟨rfl,rfl⟩:b0=b1∧off=bP:=by simpa using e1
 clear hc hl e1
 simp only[Nat.add_zero] at x0
 have HS:Hid ((a=0∨a=1)∧(b=0∨b=1)):=⟨ha,hb⟩
 clear ha hb
 go_enter Tryz.func120,Tryz.ntmps120
 go_wp2
 go_quiet ((first | (go_at_call 101;exact Calls.quiet_of_same (lZ _ _)) | (go_at_call 158;exact Calls.quiet_of_same (JD a b HS.out.1 HS.out.2 _))))
 go_wp2
 go_ret2
 exact⟨rfl,iR (Below.refl _ _) _⟩
theorem MJ(p:Nat)(a b:Int)(v:Value)(w:World)(hv:jA w v [a,b])(hp:w.cell? ⟨p,0,none⟩=some (.func (.func 159) #[] #[]))(ha:a=0∨a=1)(hb:b=0∨b=1) :
  Calls Tryz.prog 120 #[v,.pointer (some ⟨p,0,none⟩)] w fun e w'=>e=.returned (.tuple #[.int .i64 (bB (decide (0<a+b))),.bool false])∧Bw w w':=by
 obtain⟨hl,o,c,rfl,hc⟩:=hv
 obtain⟨b0,off,rfl,x0⟩:=hc 0 a rfl
 obtain⟨b1,bP,e1,x1⟩:=hc 1 b rfl
 obtain⟨rfl,rfl⟩:b0=b1∧off=bP:=by simpa using e1
 clear hc hl e1
 simp only[Nat.add_zero] at x0
 have HS:Hid ((a=0∨a=1)∧(b=0∨b=1)):=⟨ha,hb⟩
 clear ha hb
 go_enter Tryz.func120,Tryz.ntmps120
 go_wp2
 go_quiet ((first | (go_at_call 101;exact Calls.quiet_of_same (lZ _ _)) | (go_at_call 159;exact Calls.quiet_of_same (JB a b HS.out.1 HS.out.2 _))))
 go_wp2
 go_ret2
 exact⟨rfl,iR (Below.refl _ _) _⟩
theorem MI(p:Nat)(a b:Int)(v:Value)(w:World)(hv:jA w v [a,b])(hp:w.cell? ⟨p,0,none⟩=some (.func (.func 160) #[] #[]))(ha:a=0∨a=1)(hb:b=0∨b=1) :
  Calls Tryz.prog 120 #[v,.pointer (some ⟨p,0,none⟩)] w fun e w'=>e=.returned (.tuple #[.int .i64 (bB (a+b==1)),.bool false])∧Bw w w':=by
 obtain⟨hl,o,c,rfl,hc⟩:=hv
 obtain⟨b0,off,rfl,x0⟩:=hc 0 a rfl
 obtain⟨b1,bP,e1,x1⟩:=hc 1 b rfl
 obtain⟨rfl,rfl⟩:b0=b1∧off=bP:=by simpa using e1
 clear hc hl e1
 simp only[Nat.add_zero] at x0
 have HS:Hid ((a=0∨a=1)∧(b=0∨b=1)):=⟨ha,hb⟩
 clear ha hb
 go_enter Tryz.func120,Tryz.ntmps120
 go_wp2
 go_quiet ((first | (go_at_call 101;exact Calls.quiet_of_same (lZ _ _)) | (go_at_call 160;exact Calls.quiet_of_same (JA a b HS.out.1 HS.out.2 _))))
 go_wp2
 go_ret2
 exact⟨rfl,iR (Below.refl _ _) _⟩
theorem MH(p:Nat)(a b:Int)(v:Value)(w:World)(hv:jA w v [a,b])(hp:w.cell? ⟨p,0,none⟩=some (.func (.func 161) #[] #[]))(ha:a=0∨a=1)(hb:b=0∨b=1) :
  Calls Tryz.prog 120 #[v,.pointer (some ⟨p,0,none⟩)] w fun e w'=>e=.returned (.tuple #[.int .i64 (bB (decide (a≤b))),.bool false])∧Bw w w':=by
 obtain⟨hl,o,c,rfl,hc⟩:=hv
 obtain⟨b0,off,rfl,x0⟩:=hc 0 a rfl
 obtain⟨b1,bP,e1,x1⟩:=hc 1 b rfl
 obtain⟨rfl,rfl⟩:b0=b1∧off=bP:=by simpa using e1
 clear hc hl e1
 simp only[Nat.add_zero] at x0
 have HS:Hid ((a=0∨a=1)∧(b=0∨b=1)):=⟨ha,hb⟩
 clear ha hb
 go_enter Tryz.func120,Tryz.ntmps120
 go_wp2
 go_quiet ((first | (go_at_call 101;exact Calls.quiet_of_same (lZ _ _)) | (go_at_call 161;exact Calls.quiet_of_same (Jz a b HS.out.1 HS.out.2 _))))
 go_wp2
 go_ret2
 exact⟨rfl,iR (Below.refl _ _) _⟩
theorem Ey(p:Nat)(a b:Int)(v:Value)(w:World)(hv:jA w v [a,b])(hp:w.cell? ⟨p,0,none⟩=some (.func (.func 162) #[] #[]))  :
  Calls Tryz.prog 120 #[v,.pointer (some ⟨p,0,none⟩)] w fun e w'=>e=.returned (.tuple #[.int .i64 (bB (a==b)),.bool false])∧Bw w w':=by
 obtain⟨hl,o,c,rfl,hc⟩:=hv
 obtain⟨b0,off,rfl,x0⟩:=hc 0 a rfl
 obtain⟨b1,bP,e1,x1⟩:=hc 1 b rfl
 obtain⟨rfl,rfl⟩:b0=b1∧off=bP:=by simpa using e1
 clear hc hl e1
 simp only[Nat.add_zero] at x0
 go_enter Tryz.func120,Tryz.ntmps120
 go_wp2
 go_quiet ((first | (go_at_call 101;exact Calls.quiet_of_same (lZ _ _)) | (go_at_call 162;exact Calls.quiet_of_same (Jy a b _))))
 go_wp2
 go_ret2
 exact⟨rfl,iR (Below.refl _ _) _⟩
theorem Ew(p:Nat)(a b:Int)(v:Value)(w:World)(hv:jA w v [a,b])(hp:w.cell? ⟨p,0,none⟩=some (.func (.func 163) #[] #[]))  :
  Calls Tryz.prog 120 #[v,.pointer (some ⟨p,0,none⟩)] w fun e w'=>e=.returned (.tuple #[.int .i64 (bB (a != b)),.bool false])∧Bw w w':=by
 obtain⟨hl,o,c,rfl,hc⟩:=hv
 obtain⟨b0,off,rfl,x0⟩:=hc 0 a rfl
 obtain⟨b1,bP,e1,x1⟩:=hc 1 b rfl
 obtain⟨rfl,rfl⟩:b0=b1∧off=bP:=by simpa using e1
 clear hc hl e1
 simp only[Nat.add_zero] at x0
 go_enter Tryz.func120,Tryz.ntmps120
 go_wp2
 go_quiet ((first | (go_at_call 101;exact Calls.quiet_of_same (lZ _ _)) | (go_at_call 163;exact Calls.quiet_of_same (Jw a b _))))
 go_wp2
 go_ret2
 exact⟨rfl,iR (Below.refl _ _) _⟩
theorem MG(p:Nat)(a b:Int)(v:Value)(w:World)(hv:jA w v [a,b])(hp:w.cell? ⟨p,0,none⟩=some (.func (.func 164) #[] #[]))  :
  Calls Tryz.prog 120 #[v,.pointer (some ⟨p,0,none⟩)] w fun e w'=>e=.returned (.tuple #[.int .i64 (bB (decide (a<b))),.bool false])∧Bw w w':=by
 obtain⟨hl,o,c,rfl,hc⟩:=hv
 obtain⟨b0,off,rfl,x0⟩:=hc 0 a rfl
 obtain⟨b1,bP,e1,x1⟩:=hc 1 b rfl
 obtain⟨rfl,rfl⟩:b0=b1∧off=bP:=by simpa using e1
 clear hc hl e1
 simp only[Nat.add_zero] at x0
 go_enter Tryz.func120,Tryz.ntmps120
 go_wp2
 go_quiet ((first | (go_at_call 101;exact Calls.quiet_of_same (lZ _ _)) | (go_at_call 164;exact Calls.quiet_of_same (Jv a b _))))
 go_wp2
 go_ret2
 exact⟨rfl,iR (Below.refl _ _) _⟩
theorem MF(p:Nat)(a b:Int)(v:Value)(w:World)(hv:jA w v [a,b])(hp:w.cell? ⟨p,0,none⟩=some (.func (.func 165) #[] #[]))  :
  Calls Tryz.prog 120 #[v,.pointer (some ⟨p,0,none⟩)] w fun e w'=>e=.returned (.tuple #[.int .i64 (bB (decide (a≤b))),.bool false])∧Bw w w':=by
 obtain⟨hl,o,c,rfl,hc⟩:=hv
 obtain⟨b0,off,rfl,x0⟩:=hc 0 a rfl
 obtain⟨b1,bP,e1,x1⟩:=hc 1 b rfl
 obtain⟨rfl,rfl⟩:b0=b1∧off=bP:=by simpa using e1
 clear hc hl e1
 simp only[Nat.add_zero] at x0
 go_enter Tryz.func120,Tryz.ntmps120
 go_wp2
 go_quiet ((first | (go_at_call 101;exact Calls.quiet_of_same (lZ _ _)) | (go_at_call 165;exact Calls.quiet_of_same (Ju a b _))))
 go_wp2
 go_ret2
 exact⟨rfl,iR (Below.refl _ _) _⟩
theorem ME(p:Nat)(a b:Int)(v:Value)(w:World)(hv:jA w v [a,b])(hp:w.cell? ⟨p,0,none⟩=some (.func (.func 166) #[] #[]))  :
  Calls Tryz.prog 120 #[v,.pointer (some ⟨p,0,none⟩)] w fun e w'=>e=.returned (.tuple #[.int .i64 (bB (decide (b<a))),.bool false])∧Bw w w':=by
 obtain⟨hl,o,c,rfl,hc⟩:=hv
 obtain⟨b0,off,rfl,x0⟩:=hc 0 a rfl
 obtain⟨b1,bP,e1,x1⟩:=hc 1 b rfl
 obtain⟨rfl,rfl⟩:b0=b1∧off=bP:=by simpa using e1
 clear hc hl e1
 simp only[Nat.add_zero] at x0
 go_enter Tryz.func120,Tryz.ntmps120
 go_wp2
 go_quiet ((first | (go_at_call 101;exact Calls.quiet_of_same (lZ _ _)) | (go_at_call 166;exact Calls.quiet_of_same (Jt a b _))))
 go_wp2
 go_ret2
 exact⟨rfl,iR (Below.refl _ _) _⟩
theorem MK(p:Nat)(a b:Int)(v:Value)(w:World)(hv:jA w v [a,b])(hp:w.cell? ⟨p,0,none⟩=some (.func (.func 167) #[] #[]))  :
  Calls Tryz.prog 120 #[v,.pointer (some ⟨p,0,none⟩)] w fun e w'=>e=.returned (.tuple #[.int .i64 (bB (decide (b≤a))),.bool false])∧Bw w w':=by
 obtain⟨hl,o,c,rfl,hc⟩:=hv
 obtain⟨b0,off,rfl,x0⟩:=hc 0 a rfl
 obtain⟨b1,bP,e1,x1⟩:=hc 1 b rfl
 obtain⟨rfl,rfl⟩:b0=b1∧off=bP:=by simpa using e1
 clear hc hl e1
 simp only[Nat.add_zero] at x0
 go_enter Tryz.func120,Tryz.ntmps120
 go_wp2
 go_quiet ((first | (go_at_call 101;exact Calls.quiet_of_same (lZ _ _)) | (go_at_call 167;exact Calls.quiet_of_same (JC a b _))))
 go_wp2
 go_ret2
 exact⟨rfl,iR (Below.refl _ _) _⟩
end Go.Proofs.YtmgfakcccfahaaaGreatDoor
