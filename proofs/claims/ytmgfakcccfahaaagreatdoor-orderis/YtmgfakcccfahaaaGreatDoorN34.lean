/-
  lustrumlaw1.Heavy, exprsOf BY CONTRACT.
-/
import Derived.Test.YtmgfakcccfahaaaGreatDoorN33
namespace Go.Proofs.YtmgfakcccfahaaaGreatDoor
open Go.RowKit
set_option maxRecDepth 100000
set_option maxHeartbeats 4000000

def jZ(p:Pg):Bool:=decide (1500<bQ (aD p))||decide (100<p.fs.length)||decide (40<p.ins.length)
theorem MU(w:World)(S:Nat→Prop)(p:Pg)(o1 o2 o3 o4 o5:Option Addr)(c1 c2 c3 c4 c5:Nat)(h:fE w S p (.slice o1 p.ins.length c1) (.slice o2 p.outs.length c2) (.slice o3 p.fs.length c3) (.slice o4 p.asserts.length c4) (.slice o5 p.checks.length c5))(hs:(aD p).length≤2097152)(hw:bQ (aD p)≤1152921504606846976) :
  Calls Tryz.prog 8 #[.agg #[.slice o1 p.ins.length c1,.slice o2 p.outs.length c2,.slice o3 p.fs.length c3,.slice o4 p.asserts.length c4,.slice o5 p.checks.length c5]] w fun e w'=>e=.returned (.int .i64 (if jZ p=true then 1 else 0))∧Bw w w':=by
 obtain⟨N,hN⟩:∃N,N=(aD p).length:=⟨_,rfl⟩
 obtain⟨w1,hw1⟩:∃w1,w1=w.alloc (.cells #[.slice o1 p.ins.length c1,.slice o2 p.outs.length c2,.slice o3 p.fs.length c3,.slice o4 p.asserts.length c4,.slice o5 p.checks.length c5] 27):=⟨_,rfl⟩
 obtain⟨B,hB⟩:∃B,B=w.heap.size:=⟨_,rfl⟩
 have hb1:Bw w w1:=by rw[hw1];exact aH
 have hr1:w1.heap[B]?=some (.cells #[.slice o1 p.ins.length c1,.slice o2 p.outs.length c2,.slice o3 p.fs.length c3,.slice o4 p.asserts.length c4,.slice o5 p.checks.length c5] 27 (0,0)):=by rw[hw1,hB];exact heap_alloc_new _ _
 have HC:Hid (∀W,Bw w1 W→W.cell? ⟨B,0,none⟩=some (.slice o1 p.ins.length c1)∧W.cell? ⟨B,0+1,none⟩=some (.slice o2 p.outs.length c2)∧W.cell? ⟨B,0+2,none⟩=some (.slice o3 p.fs.length c3)∧W.cell? ⟨B,0+3,none⟩=some (.slice o4 p.asserts.length c4)∧W.cell? ⟨B,0+4,none⟩=some (.slice o5 p.checks.length c5)):=fun W hW=>by
  have hr:=aG hW hr1
  refine⟨?_,?_,?_,?_,?_⟩<;>(rw[cell_of_row W _ _ _ _ (0,0) hr];rfl)
 have HTM:Hid (Calls Tryz.prog 32 #[.agg #[.slice o1 p.ins.length c1,.slice o2 p.outs.length c2,.slice o3 p.fs.length c3,.slice o4 p.asserts.length c4,.slice o5 p.checks.length c5]] w1 fun e w'=>∃so sc xs,e=.returned (.slice so N sc)∧aB w' (fun _=>True) 4 (.slice so N sc) N xs∧aI w' (fun _=>True) (aD p) xs∧Bw w1 w'):=by
  rw[hN]
  exact xG w1 (fun _=>True) p o1 o2 o3 o4 o5 c1 c2 c3 c4 c5 (h.keep (fun b _ hl=>⟨trivial,hb1.block b hl⟩)) hs
 have HB:Hid (Bw w w1∧N=(aD p).length∧N≤2097152∧bQ (aD p)≤1152921504606846976):=⟨hb1,hN,by omega,hw⟩
 have HW1:Hid (w.alloc (.cells #[.slice o1 p.ins.length c1,.slice o2 p.outs.length c2,.slice o3 p.fs.length c3,.slice o4 p.asserts.length c4,.slice o5 p.checks.length c5] 27)=w1∧w.heap.size=B):=⟨hw1.symm,hB.symm⟩
 obtain⟨a0,a1,a2,a3,a4⟩:=HC.out w1 (Below.refl _ _)
 clear h hs hw hN hw1 hB hb1 hr1
 go_enter Tryz.func8,Tryz.ntmps8
 go_upto_region 1 with fail
 rw[HW1.out.1,HW1.out.2]
 go_wp2_with (first | (go_at_call 32;refine HTM.out.mono ?_;rintro e w2 ⟨so,sc,xs,rfl,hrow,hex,hb2⟩;clear a0 a1 a2 a3 a4) | fail)
 have HT:Hid (aB w2 (fun _=>True) 4 (.slice so N sc) N xs∧aI w2 (fun _=>True) (aD p) xs∧Bw w1 w2):=⟨hrow,hex,hb2⟩
 clear hrow hex hb2 HTM
 go_loopw [4,5] (fun v t wr=>∃j:Nat,j≤N∧t=.int .i64 j∧v=.int .i64 (bQ ((aD p).take j):Nat)∧Hid (Bw w2 wr)) (fun _ t _=>N-(intOf t).toNat)
 case atStart=>exact⟨0,Nat.zero_le _,rfl,by simp [bQ],Below.refl _ _⟩
 case round=>
  obtain⟨j,hj,rfl,rfl,HR⟩:=hrel
  by_cases hjl:j<N
  ·have hjt:j<(aD p).length:=by have:=HB.out.2.1;omega
   obtain⟨op,n,s,es,oo,cc,zs,ej,x0,x1,x2,x3,r1,r2⟩:=HT.out.2.1.at hjt
   obtain⟨b,off,c',ev,_,_,gg⟩:=(HT.out.1.keep (S':=fun _=>True) (fun b _ hl=>⟨trivial,HR.out.block b hl⟩)).at (by rw[HT.out.1.1];omega)
   obtain⟨rfl,rfl⟩:so=some ⟨b,off,none⟩∧sc=c':=by simpa using ev
   have y0:=gg _ _ x0
   have y1:=gg _ _ x1
   have y2:=gg _ _ x2
   have y3:=gg _ _ x3
   rw[←Nat.add_assoc] at y1 y2 y3
   have h1:=wW (aD p) j hjt
   have h2:=tQ (aD p) (j+1)
   rw[ej] at h1
   have hb:=HB.out.2.2.2
   obtain⟨k,hk⟩:∃k,k=fG (.mk op n s es):=⟨_,rfl⟩
   obtain⟨a,haa⟩:∃a,a=bQ ((aD p).take j):=⟨_,rfl⟩
   have HWE:Hid (Calls Tryz.prog 33 #[.agg #[.string op,.int .i64 n,.string s,.slice oo es.length cc]] wr (oC (k:Nat) wr)):=by
    rw[hk]
    exact Av _ op n s es (Nat.lt_succ_self _) (by omega) wr (fun _=>True) oo cc zs (r1.keep (fun b _ hl=>⟨trivial,HR.out.block b hl⟩)) (r2.keep (fun b _ hl=>⟨trivial,HR.out.block b hl⟩))
   have HAC:Hid (wrap64 ((a:Int)+(k:Int))=(bQ ((aD p).take (j+1)):Nat)):=by unfold Hid wrap64;rw[h1,hk,←haa];omega
   have i0':(0:Int)≤(j:Int):=by omega
   have i1':(j:Int)<(N:Int):=by omega
   have HJ:=aA hjl
   have N4:Hid (wrap64 ((j:Int)+1)=(j:Int)+1):=by have:=HB.out.2.2.1;unfold Hid wrap64;omega
   rw[←haa]
   have HRR:Hid (Bw w2 wr):=HR.out
   clear ej x0 x1 x2 x3 r1 r2 ev gg h1 h2 hb hk haa hjl hj hjt HR
   go_wp2_with (first | (go_at_call 33;refine HWE.out.mono ?_;rintro e w3 ⟨rfl,hb3⟩) | fail)
   exact⟨⟨j+1,HJ.out,by rw[N4.out];rfl,by rw[HAC.out],HRR.out.trans (hb3.mono HRR.out.size)⟩,by rw[N4.out];have:=HJ.out;simp [intOf];omega⟩
  ·obtain rfl:N=j:=by omega
   have hbw:Bw w1 wr:=HT.out.2.2.trans (HR.out.mono HT.out.2.2.size)
   have HBW:Hid (Bw w wr):=HB.out.1.trans (hbw.mono HB.out.1.size)
   obtain⟨a0,_,a2,_,_⟩:=HC.out wr hbw
   rw[List.take_of_length_le (by have:=HB.out.2.1;omega)]
   obtain⟨a,haa⟩:∃a,a=bQ (aD p):=⟨_,rfl⟩
   obtain⟨f,hf⟩:∃f,f=p.fs.length:=⟨_,rfl⟩
   obtain⟨i,hi⟩:∃i,i=p.ins.length:=⟨_,rfl⟩
   have HH:Hid (jZ p=(decide (1500<a)||decide (100<f)||decide (40<i))):=by unfold Hid jZ;rw[haa,hf,hi]
   rw[←haa]
   rw[←hf] at a2
   rw[←hi] at a0
   clear hj hjl HR hbw haa hf hi HC HT
   by_cases h1:1500<a
   ·have g1:(1500:Int)<(a:Int):=by omega
    have HK:Hid (jZ p=true):=by unfold Hid;rw[HH.out];simp [h1]
    clear h1
    go_wp2
    go_ret
    exact⟨rfl,HBW.out⟩
   ·have g1:¬(1500:Int)<(a:Int):=by omega
    by_cases h2:100<f
    ·have g2:(100:Int)<(f:Int):=by omega
     have HK:Hid (jZ p=true):=by unfold Hid;rw[HH.out];simp [h2]
     clear h1 h2
     go_wp2
     go_ret
     exact⟨rfl,HBW.out⟩
    ·have g2:¬(100:Int)<(f:Int):=by omega
     by_cases h3:40<i
     ·have g3:(40:Int)<(i:Int):=by omega
      have HK:Hid (jZ p=true):=by unfold Hid;rw[HH.out];simp [h3]
      clear h1 h2 h3
      go_wp2
      go_ret
      exact⟨rfl,HBW.out⟩
     ·have g3:¬(40:Int)<(i:Int):=by omega
      have HK:Hid (¬jZ p=true):=by unfold Hid;rw[HH.out];simp [h1,h2,h3]
      clear h1 h2 h3
      go_wp2
      go_ret
      exact⟨rfl,HBW.out⟩
open Go.Maps
mutual
def lG(N a:Nat):Ex→List Nat
 | .mk op _ _ l=>(if op.data.toList=cZ then mH N N l else if op.data.toList=cK then qQ N a l else mH N a l)++[a]
def mH(N a:Nat):List Ex→List Nat
 | []=>[]
 | e::es=>lG N a e++mH N a es
def qQ(N a:Nat):List Ex→List Nat
 | []=>[]
 | e::es=>lG N a e++mH N N es
end
mutual
theorem qP(N:Nat):∀(e:Ex) (a:Nat),(lG N a e).length=aJ e
 | .mk op n s l,a=>by
  have h1:=oM N l a
  have h2:=oM N l N
  have h3:=yL N l a
  unfold lG aJ
  rw[List.length_append]
  split
  ·rw[h2];rfl
  split
  ·rw[h3];rfl
  ·rw[h1];rfl
theorem oM(N:Nat):∀(l:List Ex) (a:Nat),(mH N a l).length=aC l
 | [],a=>by simp [mH,aC]
 | e::es,a=>by unfold mH aC;rw[List.length_append,qP N e a,oM N es a]
theorem yL(N:Nat):∀(l:List Ex) (a:Nat),(qQ N a l).length=aC l
 | [],a=>by simp [qQ,aC]
 | e::es,a=>by unfold qQ aC;rw[List.length_append,qP N e a,oM N es N]
end
structure Tb where
 ps:List Pq
 ns:List ByteArray
 ks:List Nat
 kn:List Int
 lv:List Nat
structure Cx where
 fl:List UInt8→Option Int
 kd:List UInt8→Option Int
 H:Ex→Prop
 hH:∀op n s l,eO (.mk op n s l)→H (.mk op n s l)→∀x∈l,H x
 N:Nat
 po:List UInt8→Option Nat
structure Vw(x:Cx)(t:Tb)(a b c:Nat)(e:Ex):Prop where
 p:∀i,i<aJ e→t.ps[b+i]?=(jN x.fl b c e)[i]?
 n:∀i,i<aJ e→t.ns[b+i]?=(kK e)[i]?
 k:∀i,i<fB e→t.ks[c+i]?=(kP b e)[i]?
 ty:∃k q,bF x.kd e=some (k,q)∧q.length=aJ e∧∀i,i<aJ e→t.kn[b+i]?=q[i]?
 lv:∀i,i<aJ e→t.lv[b+i]?=(lG x.N a e)[i]?
 ar:eO e
 h:x.H e
 le:a≤x.N
 on:a<x.N→∀s∈onE e,∀k,x.po s=some k→k<a
structure lJ(x:Cx)(t:Tb)(a b c:Nat)(l:List Ex):Prop where
 p:∀i,i<aC l→t.ps[b+i]?=(eZ x.fl b c l)[i]?
 n:∀i,i<aC l→t.ns[b+i]?=(gT l)[i]?
 k:∀i,i<dV l→t.ks[c+i]?=(gI b l)[i]?
 ty:∃k q,aM x.kd l=some (k,q)∧q.length=aC l∧∀i,i<aC l→t.kn[b+i]?=q[i]?
 lv:∀i,i<aC l→t.lv[b+i]?=(mH x.N a l)[i]?
 ar:iB l
 h:∀e∈l,x.H e
 le:a≤x.N
 on:a<x.N→∀s∈bZ l,∀k,x.po s=some k→k<a
section
variable {x:Cx} {t:Tb}
theorem gN{α:Type}{T A B:List α}{b n m:Nat}(hA:A.length=n)(h:∀i,i<n+m→T[b+i]?=(A++B)[i]?):∀i,i<n→T[b+i]?=A[i]?:=fun i hi=>by
 rw[h i (by omega),List.getElem?_append_left (by omega)]
theorem l5{α:Type}{T A B:List α}{b n m:Nat}(hA:A.length=n)(h:∀i,i<n+m→T[b+i]?=(A++B)[i]?):∀i,i<m→T[b+n+i]?=B[i]?:=fun i hi=>by
 rw[Nat.add_assoc,h (n+i) (by omega),List.getElem?_append_right (by omega),hA,Nat.add_sub_cancel_left]
theorem uG(kd:List UInt8→Option Int):∀{e:Ex} {k:Int} {q:List Int},eO e→bF kd e=some (k,q)→q.length=aJ e∧q[aJ e-1]?=some k:=by
 intro e
 exact(Ex.rec (motive_1:=fun e=>∀{k:Int} {q:List Int},eO e→bF kd e=some (k,q)→q.length=aJ e∧q[aJ e-1]?=some k) (motive_2:=fun l=>∀{k:List Int} {q:List Int},iB l→aM kd l=some (k,q)→q.length=aC l)
  (fun op n s l ih k q ha h=>by
   unfold bF at h
   unfold aJ
   unfold eO at ha
   split at h
   ·rename_i hn
    have hl:=ha.1 hn
    obtain⟨k',_,e⟩:=Option.map_eq_some_iff.1 h
    obtain⟨rfl,rfl⟩:=Prod.mk.inj e
    obtain rfl:=List.eq_nil_of_length_eq_zero hl
    simp [aC]
   ·cases hl:aM kd l with
    | none=>rw[hl] at h;simp at h
    | some r=>
     obtain⟨ks,ps⟩:=r
     rw[hl] at h
     obtain⟨k',_,e⟩:=Option.map_eq_some_iff.1 h
     obtain⟨rfl,rfl⟩:=Prod.mk.inj e
     have:=ih ha.2.2.2.2 hl
     simp [this])
  (fun {k q} _ h=>by
   unfold aM at h
   obtain⟨_,rfl⟩:[]=k∧[]=q:=by simpa using h
   simp [aC])
  (fun e es ihe ihs {k q} ha h=>by
   unfold iB at ha
   unfold aM at h
   cases he:bF kd e with
   | none=>rw[he] at h;simp at h
   | some r=>
    rw[he] at h
    simp only at h
    cases hs:aM kd es with
    | none=>rw[hs] at h;simp at h
    | some u=>
     rw[hs] at h
     obtain⟨_,rfl⟩:r.1::u.1=k∧r.2++u.2=q:=by simpa using h
     have h1:=(ihe ha.1 he).1
     have h2:=ihs ha.2 hs
     unfold aC
     simp [h1,h2]) e)
theorem lJ.head{a b c:Nat}{e:Ex}{es:List Ex}(h:lJ x t a b c (e::es)):Vw x t a b c e∧lJ x t a (b+aJ e) (c+fB e) es:=by
 obtain⟨p,n,k,ty,lv,ar,hh,le,on⟩:=h
 unfold eZ aC at p
 unfold gT aC at n
 unfold gI dV at k
 unfold mH aC at lv
 unfold iB at ar
 unfold bZ at on
 obtain⟨ks,q,h1,h2,h3⟩:=ty
 unfold aM at h1
 unfold aC at h2 h3
 cases he:bF x.kd e with
 | none=>rw[he] at h1;simp at h1
 | some r=>
  rw[he] at h1
  simp only at h1
  cases hs:aM x.kd es with
  | none=>rw[hs] at h1;simp at h1
  | some u=>
   rw[hs] at h1
   obtain⟨_,rfl⟩:r.1::u.1=ks∧r.2++u.2=q:=by simpa using h1
   have hq:=(uG x.kd ar.1 (k:=r.1) (q:=r.2) he).1
   have hu:u.2.length=aC es:=by rw[List.length_append] at h2;omega
   exact⟨⟨gN (nN ..) p,gN (sH ..) n,gN (p9 ..) k,⟨r.1,r.2,he,hq,gN hq h3⟩,gN (qP ..) lv,ar.1,hh e (List.mem_cons_self ..),le,fun hl s hs=>on hl s (List.mem_append_left _ hs)⟩,
    ⟨l5 (nN ..) p,l5 (sH ..) n,l5 (p9 ..) k,⟨u.1,u.2,hs,hu,l5 hq h3⟩,l5 (qP ..) lv,ar.2,fun y hy=>hh y (List.mem_cons_of_mem _ hy),le,fun hl s hs=>on hl s (List.mem_append_right _ hs)⟩⟩
structure Root(x:Cx)(t:Tb)(a b c:Nat)(op:ByteArray)(n:Int)(s:ByteArray)(l:List Ex):Prop where
 rp:t.ps[b+aC l]?=some (nP x.fl b c op n s l)
 rn:t.ns[b+aC l]?=some s
 rk:mJ op=true→t.ks[c+dV l]?=some ((dK b l).getLastD 0)
 rl:t.lv[b+aC l]?=some a
 rt:∃k q,bF x.kd (.mk op n s l)=some (k,q)∧t.kn[b+aC l]?=some k
theorem Vw.root{a b c:Nat}{op:ByteArray}{n:Int}{s:ByteArray}{l:List Ex}(h:Vw x t a b c (.mk op n s l)):Root x t a b c op n s l:=by
 have hz:aJ (.mk op n s l)=aC l+1:=by unfold aJ;rfl
 refine⟨?_,?_,fun hk=>?_,?_,?_⟩
 ·rw[h.p (aC l) (by omega)]
  unfold jN
  rw[List.getElem?_append_right (by rw[lD];exact Nat.le_refl _),lD,Nat.sub_self];rfl
 ·rw[h.n (aC l) (by omega)]
  unfold kK
  rw[List.getElem?_append_right (by rw[qN];exact Nat.le_refl _),qN,Nat.sub_self];rfl
 ·rw[h.k (dV l) (by unfold fB;rw[hk];simp)]
  unfold kP
  rw[List.getElem?_append_right (by rw[nU];exact Nat.le_refl _),nU,Nat.sub_self,hk];rfl
 ·rw[h.lv (aC l) (by omega)]
  have hl:∀A:List Nat,A.length=aC l→(A++[a])[aC l]?=some a:=fun A hA=>by
   rw[List.getElem?_append_right (by omega),hA,Nat.sub_self];rfl
  unfold lG
  refine hl _ ?_
  split
  ·exact oM ..
  split
  ·exact yL ..
  ·exact oM ..
 ·obtain⟨k,q,h1,h2,h3⟩:=h.ty
  refine⟨k,q,h1,?_⟩
  rw[h3 (aC l) (by omega)]
  have:=(uG x.kd h.ar h1).2
  rwa [hz,Nat.add_sub_cancel] at this
theorem Vw.kids{a b c:Nat}{op:ByteArray}{n:Int}{s:ByteArray}{l:List Ex}(h:Vw x t a b c (.mk op n s l))(hop:op.data.toList≠cK):lJ x t (if op.data.toList=cZ then x.N else a) b c l:=by
 have hz:aJ (.mk op n s l)=aC l+1:=by unfold aJ;rfl
 obtain⟨p,n,k,ty,lv,ar,hh,le,on⟩:=h
 have hH:=x.hH _ _ _ _ ar hh
 unfold jN at p
 unfold kK at n
 unfold kP fB at k
 unfold lG at lv
 rw[hz] at p n lv
 refine⟨gN (lD ..) p,gN (qN ..) n,gN (nU ..) k,?_,?_,by unfold eO at ar;exact ar.2.2.2.2,hH,?_,fun hl s hs=>?_⟩
 ·obtain⟨k,q,h1,h2,h3⟩:=ty
  unfold bF at h1
  split at h1
  ·rename_i hn
   unfold eO at ar
   obtain rfl:=List.eq_nil_of_length_eq_zero (ar.1 hn)
   exact⟨[],[],by simp [aM],by simp [aC],fun i hi=>by simp [aC] at hi⟩
  ·cases hl:aM x.kd l with
   | none=>rw[hl] at h1;simp at h1
   | some r=>
    rw[hl] at h1
    obtain⟨k',_,e⟩:=Option.map_eq_some_iff.1 h1
    obtain⟨rfl,rfl⟩:=Prod.mk.inj e
    rw[hz] at h2 h3
    have hq:r.2.length=aC l:=by simpa using h2
    exact⟨r.1,r.2,rfl,hq,gN hq h3⟩
 ·by_cases hp:op.data.toList=cZ
  ·rw[if_pos hp] at lv ⊢
   exact gN (oM ..) lv
  ·rw[if_neg hp,if_neg hop] at lv
   rw[if_neg hp]
   exact gN (oM ..) lv
 ·split
  ·exact Nat.le_refl _
  ·exact le
 ·by_cases hp:op.data.toList=cZ
  ·rw[if_pos hp] at hl
   omega
  ·rw[if_neg hp] at hl ⊢
   refine on hl s ?_
   unfold onE
   rw[if_neg hp,if_neg hop]
   exact List.mem_append_right _ hs
theorem Vw.Mg{a b c:Nat}{op:ByteArray}{n:Int}{s:ByteArray}{l:List Ex}(h:Vw x t a b c (.mk op n s l))(hop:op.data.toList=cK):∃e0 e1,l=[e0,e1]∧Vw x t a b c e0∧Vw x t x.N (b+aJ e0) (c+fB e0) e1:=by
 have hz:aJ (.mk op n s l)=aC l+1:=by unfold aJ;rfl
 have hnp:op.data.toList≠cZ:=fun e=>by rw[hop] at e;exact absurd e (by decide)
 have hnn:op.data.toList≠bI:=fun e=>by rw[hop] at e;exact absurd e (by decide)
 obtain⟨p,n,k,ty,lv,ar,hh,le,on⟩:=h
 have hH:=x.hH _ _ _ _ ar hh
 have har:=ar
 unfold eO at har
 obtain⟨e0,e1,rfl⟩:∃e0 e1,l=[e0,e1]:=by
  have:=har.2.2.2.1 hop
  match l,this with
  | [e0,e1],_=>exact⟨e0,e1,rfl⟩
 have ha0:eO e0∧eO e1:=by
  have:=har.2.2.2.2
  unfold iB at this
  refine⟨this.1,?_⟩
  have h2:=this.2
  unfold iB at h2
  exact h2.1
 have hs:aC [e0,e1]=aJ e0+aJ e1:=by simp [aC]
 have hm:dV [e0,e1]=fB e0+fB e1:=by simp [dV]
 unfold jN at p
 unfold kK at n
 unfold kP fB at k
 unfold lG at lv
 rw[hz] at p n lv
 rw[if_neg hnp,if_pos hop] at lv
 have p':=gN (lD ..) p
 have n':=gN (qN ..) n
 have kz:=gN (nU ..) k
 have lv':=gN (yL ..) lv
 have ep:eZ x.fl b c [e0,e1]=jN x.fl b c e0++jN x.fl (b+aJ e0) (c+fB e0) e1:=by simp [eZ]
 have en:gT [e0,e1]=kK e0++kK e1:=by simp [gT]
 have ek:gI b [e0,e1]=kP b e0++kP (b+aJ e0) e1:=by simp [gI]
 have el:qQ x.N a [e0,e1]=lG x.N a e0++lG x.N x.N e1:=by simp [qQ,mH]
 rw[ep,hs] at p'
 rw[en,hs] at n'
 rw[ek,hm] at kz
 rw[el,hs] at lv'
 obtain⟨k0,q0,h1,h2,h3⟩:=ty
 unfold bF at h1
 rw[if_neg hnn] at h1
 rw[hz,hs] at h2 h3
 cases t0:bF x.kd e0 with
 | none=>unfold aM at h1;rw[t0] at h1;simp at h1
 | some r0=>
  cases t1:bF x.kd e1 with
  | none=>unfold aM at h1;rw[t0] at h1;unfold aM at h1;rw[t1] at h1;simp at h1
  | some r1=>
   have hl:aM x.kd [e0,e1]=some ([r0.1,r1.1],r0.2++r1.2):=by simp [aM,t0,t1]
   rw[hl] at h1
   obtain⟨k',_,e⟩:=Option.map_eq_some_iff.1 h1
   obtain⟨rfl,rfl⟩:=Prod.mk.inj e
   have q0:=(uG x.kd ha0.1 (k:=r0.1) (q:=r0.2) t0).1
   have q1:=(uG x.kd ha0.2 (k:=r1.1) (q:=r1.2) t1).1
   have h4:=gN (A:=r0.2++r1.2) (n:=aJ e0+aJ e1) (by simp [q0,q1]) h3
   refine⟨e0,e1,rfl,⟨gN (nN ..) p',gN (sH ..) n',gN (p9 ..) kz,⟨r0.1,r0.2,t0,q0,gN q0 h4⟩,gN (qP ..) lv',ha0.1,hH e0 (by simp),le,fun hl s hs=>on hl s ?_⟩,
    ⟨l5 (nN ..) p',l5 (sH ..) n',l5 (p9 ..) kz,⟨r1.1,r1.2,t1,q1,l5 q0 h4⟩,l5 (qP ..) lv',ha0.2,hH e1 (by simp),Nat.le_refl _,fun hl=>absurd hl (Nat.lt_irrefl _)⟩⟩
   unfold onE
   rw[if_neg hnp,if_pos hop]
   unfold mD
   exact List.mem_append_right _ hs
theorem lJ.at:∀{l:List Ex} {a b c i:Nat} {e:Ex},lJ x t a b c l→l[i]?=some e→∃b' c',Vw x t a b' c' e∧(dK b l)[i]?=some (b'+aJ e-1)∧b≤b'∧b'+aJ e≤b+aC l∧c≤c'∧c'+fB e≤c+dV l
 | [],a,b,c,i,e,_,h=>by simp at h
 | y::l,a,b,c,0,e,hv,h=>by
  obtain rfl:y=e:=by simpa using h
  exact⟨b,c,hv.head.1,by unfold dK;rfl,Nat.le_refl _,by unfold aC;omega,Nat.le_refl _,by unfold dV;omega⟩
 | y::l,a,b,c,i+1,e,hv,h=>by
  obtain⟨b',c',h1,h2,h3,h4,h5,h6⟩:=lJ.at hv.head.2 (i:=i) (e:=e) (by simpa using h)
  exact⟨b',c',h1,by unfold dK;rw[List.getElem?_cons_succ];exact h2,by omega,by unfold aC;omega,by omega,by unfold dV;omega⟩
mutual
theorem Vw.all:∀(e:Ex) {a b c:Nat},Vw x t a b c e→∀j,b≤j→j<b+aJ e→∃a' b' c' e',Vw x t a' b' c' e'∧j+1=b'+aJ e'∧b≤b'∧c≤c'∧c'+fB e'≤c+fB e
 | .mk op n s l,a,b,c,h,j,h1,h2=>by
  have hz:aJ (.mk op n s l)=aC l+1:=by unfold aJ;rfl
  have hm:dV l≤fB (.mk op n s l):=by unfold fB;omega
  by_cases e:j=b+aC l
  ·exact⟨a,b,c,_,h,by omega,Nat.le_refl _,Nat.le_refl _,Nat.le_refl _⟩
  ·by_cases hf:op.data.toList=cK
   ·obtain⟨e0,e1,rfl,v0,v1⟩:=h.Mg hf
    have hs:aC [e0,e1]=aJ e0+aJ e1:=by simp [aC]
    have hm2:dV [e0,e1]=fB e0+fB e1:=by simp [dV]
    by_cases hj:j<b+aJ e0
    ·obtain⟨a',b',c',e',r1,r2,r3,r4,r5⟩:=Vw.all e0 v0 j h1 hj
     exact⟨a',b',c',e',r1,r2,r3,r4,by omega⟩
    ·obtain⟨a',b',c',e',r1,r2,r3,r4,r5⟩:=Vw.all e1 v1 j (by omega) (by omega)
     exact⟨a',b',c',e',r1,r2,by omega,by omega,by omega⟩
   ·obtain⟨a',b',c',e',r1,r2,r3,r4,r5⟩:=lJ.all l (h.kids hf) j h1 (by omega)
    exact⟨a',b',c',e',r1,r2,r3,r4,by omega⟩
theorem lJ.all:∀(l:List Ex) {a b c:Nat},lJ x t a b c l→∀j,b≤j→j<b+aC l→∃a' b' c' e',Vw x t a' b' c' e'∧j+1=b'+aJ e'∧b≤b'∧c≤c'∧c'+fB e'≤c+dV l
 | [],a,b,c,h,j,h1,h2=>by simp [aC] at h2;omega
 | e::es,a,b,c,h,j,h1,h2=>by
  have hs:aC (e::es)=aJ e+aC es:=by simp [aC]
  have hm:dV (e::es)=fB e+dV es:=by simp [dV]
  by_cases hj:j<b+aJ e
  ·obtain⟨a',b',c',e',r1,r2,r3,r4,r5⟩:=Vw.all e h.head.1 j h1 hj
   exact⟨a',b',c',e',r1,r2,r3,r4,by omega⟩
  ·obtain⟨a',b',c',e',r1,r2,r3,r4,r5⟩:=lJ.all es h.head.2 j (by omega) (by omega)
   exact⟨a',b',c',e',r1,r2,by omega,by omega,by omega⟩
end
end
end Go.Proofs.YtmgfakcccfahaaaGreatDoor
