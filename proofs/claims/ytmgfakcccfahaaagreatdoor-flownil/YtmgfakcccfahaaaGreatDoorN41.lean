/-
  package flow: operate BY CONTRACT.
-/
import Derived.Test.YtmgfakcccfahaaaGreatDoorN39
set_option maxRecDepth 100000
set_option maxHeartbeats 8000000
namespace Go.Proofs.YtmgfakcccfahaaaGreatDoor
open Go.RowKit Go.Maps

def dW.vK(d:dW)(i:Nat):Int:=if i=0 then d.a else if i=1 then d.b else d.c
def dW.put(d:dW)(i:Nat)(v:Int):dW:=if i=0 then { d with a:=v } else if i=1 then { d with b:=v } else { d with c:=v }
theorem dW.Lp(d:dW)(i:Nat)(v:Int)(hi:i<3):(d.put i v).io=.cells (#[.pointer (some ⟨d.B,0,none⟩),.pointer (some ⟨d.C,0,none⟩),.bool d.fr,.slice d.mo d.ml d.mc,.slice (some ⟨d.R,0,none⟩) d.n d.n,.int .i64 d.a,.int .i64 d.b,.int .i64 d.c,.bool d.tr].setIfInBounds (5+i) (.int .i64 v)) 192 (0,0):=by
 match i,hi with
 | 0,_=>rfl
 | 1,_=>rfl
 | 2,_=>rfl
theorem dW.Lm(d:dW){i:Nat}(v:Int)(j:Nat)(hj:j<3)(hi:i<3):(d.put i v).vK j=if j=i then v else d.vK j:=by
 match i,hi,j,hj with
 | 0,_,0,_=>rfl
 | 0,_,1,_=>rfl
 | 0,_,2,_=>rfl
 | 1,_,0,_=>rfl
 | 1,_,1,_=>rfl
 | 1,_,2,_=>rfl
 | 2,_,0,_=>rfl
 | 2,_,1,_=>rfl
 | 2,_,2,_=>rfl
theorem dW.Ec(d:dW)(i:Nat)(v:Int):∃a b c,d.put i v={ d with a:=a,b:=b,c:=c }:=by
 unfold dW.put
 split
 ·exact⟨v,d.b,d.c,rfl⟩
 split
 ·exact⟨d.a,v,d.c,rfl⟩
 ·exact⟨d.a,d.b,v,rfl⟩
section
variable {w0 w:World} {d:dW}
theorem bF.GU(h:bF w0 d w){i:Nat}(hi:i<3):w.cell? ⟨d.I,0+5+i,none⟩=some (.int .i64 (d.vK i)):=by
 rw[cell_of_row w _ _ _ _ (0,0) h.blk]
 match i,hi with
 | 0,_=>rfl
 | 1,_=>rfl
 | 2,_=>rfl
theorem bF.free(h:bF w0 d w)(k:Nat):w.frozen? ⟨d.I,k,none⟩=false:=bR h.blk
theorem bF.Lr(h:bF w0 d w){i:Nat}(hi:i<3)(v:Int):bF w0 (d.put i v) (w.setCell ⟨d.I,0+5+i,none⟩ (.int .i64 v)):=by
 have hg:=bW w d.I (0+5+i) (.int .i64 v)
 have h1:=h.sep.set (i:=0) (b:=d.I) rfl (5+i) (.int .i64 v)
 rw[←dW.Lp d i v hi] at h1
 rw[show 0+5+i=5+i from by omega] at hg ⊢
 refine⟨?_,h.sep.below (i:=0) (c:=aP d.I d.io) rfl hg h.below⟩
 obtain⟨a,b,c,e⟩:=d.Ec i v
 rw[e] at h1 ⊢
 exact h1
theorem bF.KJ(h:bF w0 d w)(b:Bool):bF w0 { d with tr:=b } (w.setCell ⟨d.I,0+8,none⟩ (.bool b)):=
 ⟨h.sep.set (i:=0) (b:=d.I) rfl 8 (.bool b),h.sep.below (i:=0) (c:=aP d.I d.io) rfl (bW w d.I 8 (.bool b)) h.below⟩
end
theorem Mj{w0 w:World}{d:dW}(hi:bF w0 d w){fid:FuncId}{cap:Array Value}(h6:fO fid cap)(oo:Option Addr)(oc:Nat)(aF:List Nat)(ho:aB w0 (fun _=>True) 1 (.slice oo aF.length oc) aF.length (aX aF))(hn:∀x∈aF,x<d.n)(hl:aF.length≤3)(r:Int)(tr:Bool)
  (hdo:∀w' v,Bw w0 w'→jA w' v (aF.map d.g)→Calls Tryz.prog fid (#[v]++cap) w' fun e w''=>e=.returned (.tuple #[.int .i64 r,.bool tr])∧Below w'.heap.size w' w'') :
  Calls Tryz.prog 183 #[.pointer (some ⟨d.I,0,none⟩),.func (.func fid) #[] cap,.slice oo aF.length oc] w fun e w'=>e=.returned (.int .i64 r)∧∃a b c,bF w0 { d with a:=a,b:=b,c:=c,tr:=d.tr||tr } w':=by
 obtain⟨I,hI⟩:∃I,I=d.I:=⟨_,rfl⟩
 obtain⟨n,hnn⟩:∃n,n=d.n:=⟨_,rfl⟩
 obtain⟨R,hR⟩:∃R,R=d.R:=⟨_,rfl⟩
 have HL:Hid (aB w0 (fun _=>True) 1 (.slice oo aF.length oc) aF.length (aX aF)∧(∀x∈aF,x<d.n)∧aF.length≤3):=⟨ho,hn,hl⟩
 have HDO:=aA hdo
 have HD:Hid (I=d.I∧n=d.n∧R=d.R):=⟨hI,hnn,hR⟩
 have HI:=aA hi
 rw[←hI]
 have j0:(aF.length:Int)≤3:=by omega
 have j1:(0:Int)≤(aF.length:Int):=by omega
 clear hi ho hn hl hdo hI hnn hR
 go_enter Tryz.func183,Tryz.ntmps183
 go_wp2
 go_loopw [20] (fun t wr=>∃(j:Nat) (d':dW),j≤aF.length∧t=.int .i64 j∧Hid (bF w0 d' wr∧(∃a b c,d'={ d with a:=a,b:=b,c:=c })∧∀i,i<j→d'.vK i=d.g (aF[i]?.getD 0))) (fun t _=>aF.length-(intOf t).toNat)
 case atStart=>exact⟨0,d,Nat.zero_le _,rfl,HI.out,⟨d.a,d.b,d.c,rfl⟩,fun i hi=>by omega⟩
 case round=>
  obtain⟨j,d',hj,rfl,HR⟩:=hrel
  have HS:Hid (d'.I=I∧d'.n=n∧d'.R=R∧d'.g=d.g):=by
   obtain⟨_,⟨a,b,c,rfl⟩,_⟩:=HR.out
   exact⟨HD.out.1.symm,HD.out.2.1.symm,HD.out.2.2.symm,rfl⟩
  by_cases hjl:j<aF.length
  ·obtain⟨x,hx⟩:∃x,aF[j]?=some x:=⟨_,List.getElem?_eq_getElem hjl⟩
   obtain⟨b1,bP,c1,ev,_,_,gg⟩:=(HL.out.1.keep (dX HR.out.1.below)).at (by rw[HL.out.1.1];omega)
   obtain⟨rfl,rfl⟩:oo=some ⟨b1,bP,none⟩∧oc=c1:=by simpa using ev
   have y0:=gg j (.int .i64 (x:Int)) (by unfold aX;rw[List.getElem?_map,lH hx];rfl)
   have hxn:x<n:=by rw[HD.out.2.1];exact HL.out.2.1 x (List.mem_of_getElem? hx)
   have i0':(0:Int)≤(j:Int):=by omega
   have i1':(j:Int)<(aF.length:Int):=by omega
   have i3':(0:Int)≤(x:Int):=by omega
   have i4':(x:Int)<(n:Int):=by omega
   have hj3:j<3:=by have:=HL.out.2.2;omega
   have c4:wr.cell? ⟨I,0+4,none⟩=some (.slice (some ⟨R,0,none⟩) n n):=by have:=HR.out.1.c4;rw[HS.out.1,HS.out.2.1,HS.out.2.2.1] at this;exact this
   have hwt:dV wr R n d'.g:=by have:=HR.out.1.wt;rw[HS.out.2.1,HS.out.2.2.1] at this;exact this
   have r0:=hwt.cell hxn
   have t0:wr.cell? ⟨I,5+j,none⟩=some (.int .i64 (d'.vK j)):=by have:=HR.out.1.GU hj3;rw[HS.out.1] at this;exact this
   have t1:wr.frozen? ⟨I,5+j,none⟩=false:=by have:=HR.out.1.free (5+j);rw[HS.out.1] at this;exact this
   have HJ:=aA hjl
   have HNX:Hid (bF w0 (d'.put j (d'.g x)) (wr.setCell ⟨I,5+j,none⟩ (.int .i64 (d'.g x)))∧(∃a b c,d'.put j (d'.g x)={ d with a:=a,b:=b,c:=c })∧∀i,i<j+1→(d'.put j (d'.g x)).vK i=d.g (aF[i]?.getD 0)):=by
    have h1:=HR.out.1.Lr hj3 (d'.g x)
    rw[HS.out.1] at h1
    refine⟨h1,?_,fun i hi=>?_⟩
    ·obtain⟨a,b,c,e⟩:=d'.Ec j (d'.g x)
     obtain⟨_,⟨a',b',c',e2⟩,_⟩:=HR.out
     exact⟨a,b,c,by rw[e,e2]⟩
    ·rw[dW.Lm d' _ i (by omega) hj3]
     by_cases e:i=j
     ·rw[if_pos e,e,hx,HS.out.2.2.2];rfl
     ·rw[if_neg e];exact HR.out.2.2 i (by omega)
   have N4:Hid (wrap64 ((j:Int)+1)=(j:Int)+1):=by have h1:=HJ.out;have h2:=HL.out.1.2.1;unfold maxLen at h2;unfold Hid wrap64;omega
   obtain⟨gx,hgx⟩:∃gx,gx=d'.g x:=⟨_,rfl⟩
   rw[←hgx] at r0 HNX
   clear hx ev gg hxn hjl hj hj3 hwt hgx HR
   go_wp2
   exact⟨⟨j+1,_,HJ.out,by (try rw[N4.out]);rfl,HNX.out⟩,by (try rw[N4.out]);have:=HJ.out;simp [intOf];omega⟩
  ·obtain rfl:aF.length=j:=by omega
   have HKA:Hid (jA wr (.slice (some ⟨I,5,none⟩) aF.length 3) (aF.map d.g)):=by
    refine⟨by rw[List.length_map];have:=HL.out.2.2;unfold maxLen;omega,some ⟨I,5,none⟩,3,by rw[List.length_map],fun k y hk=>⟨I,5,rfl,?_⟩⟩
    have hkl:=(bA hk).1
    rw[List.length_map] at hkl
    have h1:=HR.out.1.GU (i:=k) (by have:=HL.out.2.2;omega)
    rw[HR.out.2.2 k hkl,HS.out.1] at h1
    rw[List.getElem?_map,List.getElem?_eq_getElem hkl] at hk
    rw[List.getElem?_eq_getElem hkl] at h1
    obtain rfl:=Option.some.inj hk
    exact h1
   have HCA:Hid (Calls Tryz.prog fid (#[.slice (some ⟨I,5,none⟩) aF.length 3]++cap) wr fun e w''=>e=.returned (.tuple #[.int .i64 r,.bool tr])∧Bw wr w''):=HDO.out wr _ HR.out.1.below HKA.out
   have HI2:Hid (∀w2,Bw wr w2→w2.cell? ⟨I,0+8,none⟩=some (.bool d.tr)∧w2.frozen? ⟨I,0+8,none⟩=false∧∀b,∃x y z,bF w0 { d with a:=x,b:=y,c:=z,tr:=b } (w2.setCell ⟨I,0+8,none⟩ (.bool b))):=fun w2 h2=>by
    obtain⟨hR1,⟨a,b,c,rfl⟩,_⟩:=HR.out
    have h3:=hR1.keep h2
    rw[HD.out.1]
    exact⟨h3.c8,h3.free _,fun b=>⟨_,_,_,h3.KJ b⟩⟩
   clear hj hjl HR HKA HDO HL HS HI
   cases h6
   all_goals
    go_wp2_with fail
    refine HCA.out.mono ?_
    rintro e w2 ⟨rfl,hb2⟩
    obtain⟨t8,f8,ht⟩:=HI2.out w2 hb2
    have HT:Hid (∀b,∃x y z,bF w0 { d with a:=x,b:=y,c:=z,tr:=b } (w2.setCell ⟨I,0+8,none⟩ (.bool b))):=ht
    clear hb2 ht
    cases hdt:d.tr
    all_goals
     rw[hdt] at t8
     cases tr
     all_goals
      go_wp2
      go_ret
      refine⟨rfl,?_⟩
      rw[hdt]
      first
      | (have h:=HT.out true;rw[HD.out.1] at h ⊢;exact h)
      | (have h:=HT.out false;rw[HD.out.1] at h ⊢;exact h)

theorem Oq{w0 w:World}{M:Nat}{dv:Value}{f:List UInt8→Option Value}{q:bC}{nb nn:Int}{mem:List (Int×Int)}{d:dW}(hs:vC w0 M dv f q nb nn mem d)(hi:bF w0 d w){x:Nat}{p:Pq}(hx:q.ps[x]?=some p)(hfl:(d.fr&&p.late)=false)(hnp:¬jF p){fid:FuncId}{cap:Array Value}(h6:fO fid cap)(hf:iQ f p=.func (.func fid) #[] cap)(hn:∀o∈p.aF,o<d.n)(hl:p.aF.length≤3)(r:Int)(tr:Bool)
  (hdo:∀w' v,Bw w0 w'→jA w' v (p.aF.map d.g)→Calls Tryz.prog fid (#[v]++cap) w' fun e w''=>e=.returned (.tuple #[.int .i64 r,.bool tr])∧Below w'.heap.size w' w'') :
  Calls Tryz.prog 149 #[.pointer (some ⟨d.I,0,none⟩),.int .i64 (x:Int)] w fun e w'=>e=.returned (.int .i64 r)∧∃a b c,bF w0 { d with a:=a,b:=b,c:=c,tr:=d.tr||tr } w':=by
 unfold jF at hnp
 have d0:(p.op.toList==[105,110,116])=false:=by rw[ByteArray.toList_eq];exact beq_eq_false_iff_ne.2 fun e=>hnp (Or.inl e)
 have d1:(p.op.toList==[116,114,117,101])=false:=by rw[ByteArray.toList_eq];exact beq_eq_false_iff_ne.2 fun e=>hnp (Or.inr (Or.inl e))
 have d2:(p.op.toList==[102,97,108,115,101])=false:=by rw[ByteArray.toList_eq];exact beq_eq_false_iff_ne.2 fun e=>hnp (Or.inr (Or.inr (Or.inl e)))
 have d3:(p.op.toList==[110,97,109,101])=false:=by rw[ByteArray.toList_eq];exact beq_eq_false_iff_ne.2 fun e=>hnp (Or.inr (Or.inr (Or.inr (Or.inl e))))
 have d4:(p.op.toList==[112,114,101])=false:=by rw[ByteArray.toList_eq];exact beq_eq_false_iff_ne.2 fun e=>hnp (Or.inr (Or.inr (Or.inr (Or.inr (Or.inl e)))))
 have d5:(p.op.toList==[45,62])=false:=by rw[ByteArray.toList_eq];exact beq_eq_false_iff_ne.2 fun e=>hnp (Or.inr (Or.inr (Or.inr (Or.inr (Or.inr (Or.inl e))))))
 have d6:(p.op.toList==[102,98,121])=false:=by rw[ByteArray.toList_eq];exact beq_eq_false_iff_ne.2 fun e=>hnp (Or.inr (Or.inr (Or.inr (Or.inr (Or.inr (Or.inr (e)))))))
 obtain⟨pb,off,c,po,pc,pB0,hpt,hxl⟩:=hs.cd.nV.pt hx
 have hb:=hi.below
 have c0:=hi.c0
 have c1:=hi.c1
 have pB:=aD hb pB0
 have p0:=aD hb hpt.c0
 have p2:=aD hb hpt.c2
 have e1:=(hs.cd.keep hb).c1
 obtain⟨fb,fo,fc,rfl,_,_,hfr⟩:=(hs.cd.row.keep (dX hb)).at (by rw[hs.cd.row.1];omega)
 have q0:=hfr x (.func (.func fid) #[] cap) (by rw[List.getElem?_map,hx,←hf];rfl)
 have HX:=aA hxl
 have HOP:Hid (∀w1,bF w0 d w1→Calls Tryz.prog 183 #[.pointer (some ⟨d.I,0,none⟩),.func (.func fid) #[] cap,.slice po p.aF.length pc] w1 fun e w'=>e=.returned (.int .i64 r)∧∃a b c,bF w0 { d with a:=a,b:=b,c:=c,tr:=d.tr||tr } w'):=fun w1 h1=>Mj h1 h6 po pc p.aF hpt.aF hn hl r tr hdo
 have HS:Hid (∀W,Bw w0 W→W.cell? ⟨d.C,0+1,none⟩=some (.slice (some ⟨fb,fo,none⟩) q.ps.length fc)∧W.cell? ⟨fb,fo+x,none⟩=some (.func (.func fid) #[] cap)∧W.cell? ⟨pb,off+x*6+2,none⟩=some (.slice po p.aF.length pc)):=fun W hW=>by
  obtain⟨fb',fo',fc',e,_,_,h1⟩:=(hs.cd.row.keep (dX hW)).at (by rw[hs.cd.row.1];omega)
  obtain⟨⟨rfl,rfl⟩,rfl⟩:(fb=fb'∧fo=fo')∧fc=fc':=by simpa using e
  exact⟨(hs.cd.keep hW).c1,h1 x _ (by rw[List.getElem?_map,hx,←hf];rfl),aD hW hpt.c2⟩
 have HI:=aA hi
 have hcase:(d.fr=false∧w.cell? ⟨d.I,0+2,none⟩=some (.bool false))∨(d.fr=true∧w.cell? ⟨d.I,0+2,none⟩=some (.bool true)∧w.cell? ⟨pb,off+x*6+5,none⟩=some (.bool false)):=by
  have c2:=hi.c2
  have p5:=aD hb hpt.c5
  cases hf:d.fr with
  | false=>exact .inl ⟨rfl,by rw[←hf];exact c2⟩
  | true=>
   have hl:p.late=false:=by rw[hf] at hfl;simpa using hfl
   exact .inr ⟨rfl,by rw[←hf];exact c2,by rw[←hl];exact p5⟩
 have i2':(0:Int)≤(x:Int):=by omega
 have i3':(x:Int)<(q.ps.length:Int):=by omega
 obtain⟨I,hI⟩:∃I,I=d.I:=⟨_,rfl⟩
 obtain⟨C,hC⟩:∃C,C=d.C:=⟨_,rfl⟩
 obtain⟨n,hnn⟩:∃n,n=q.ps.length:=⟨_,rfl⟩
 obtain⟨m,hm⟩:∃m,m=p.aF.length:=⟨_,rfl⟩
 have HII:=aA hI
 have HCC:=aA hC
 rw[←hI,←hC] at c1
 rw[←hI] at c0 hcase
 rw[←hC,←hnn] at e1
 rw[←hm] at p2
 rw[←hnn] at pB i3'
 rw[←hI,←hm] at HOP
 rw[←hC,←hnn,←hm] at HS
 rw[←hI]
 clear hs hi hx hfl hnp hf hn hl hdo pB0 hpt hxl hb hfr hI hC hnn hm h6
 rcases hcase with⟨hf,c2⟩ | ⟨hf,c2,p5⟩
 all_goals
  clear hf
  go_enter Tryz.func149,Tryz.ntmps149
  go_upto_region 16 with fail
  clear c0 c2 pB p0 d0 d1 d2 d3 d4 d5 d6
  refine fI 15 (fun W=>W.cell? ⟨I,0+1,none⟩=some (.pointer (some ⟨C,0,none⟩))∧W.cell? ⟨C,0+1,none⟩=some (.slice (some ⟨fb,fo,none⟩) n fc)∧W.cell? ⟨fb,fo+x,none⟩=some (.func (.func fid) #[] cap)∧W.cell? ⟨pb,off+x*6+2,none⟩=some (.slice po m pc)) (fun _=>True) (by kernel_rfl) ⟨c1,e1,q0,p2⟩ trivial (fun hh=>?_)
  refine tk 0 82 (.pointer (some ⟨I,0,none⟩)) rfl (Or.inl ⟨by rfl,?_⟩) hh ?_
  ·intro w hSw;(try dsimp only at hSw);obtain⟨s1,s2,s3,s4⟩:=hSw;go_simp
  try simp only[tp]
  refine tk 1 83 (.pointer (some ⟨I,0,none⟩)) rfl (Or.inl ⟨by rfl,?_⟩) hh ?_
  ·intro w hSw;(try dsimp only at hSw);obtain⟨s1,s2,s3,s4⟩:=hSw;go_simp
  try simp only[tp]
  refine tk 2 84 (.pointer (some ⟨I,0,none⟩)) rfl (Or.inl ⟨by rfl,?_⟩) hh ?_
  ·intro w hSw;(try dsimp only at hSw);obtain⟨s1,s2,s3,s4⟩:=hSw;go_simp
  try simp only[tp]
  refine tk 3 85 (.pointer (some ⟨I,1,none⟩)) rfl (Or.inl ⟨by rfl,?_⟩) hh ?_
  ·intro w hSw;(try dsimp only at hSw);obtain⟨s1,s2,s3,s4⟩:=hSw;go_simp
  try simp only[tp]
  refine tk 4 86 (.pointer (some ⟨C,0,none⟩)) rfl (Or.inl ⟨by rfl,?_⟩) hh ?_
  ·intro w hSw;(try dsimp only at hSw);obtain⟨s1,s2,s3,s4⟩:=hSw;go_simp
  try simp only[tp]
  refine tk 5 87 (.pointer (some ⟨C,0,none⟩)) rfl (Or.inl ⟨by rfl,?_⟩) hh ?_
  ·intro w hSw;(try dsimp only at hSw);obtain⟨s1,s2,s3,s4⟩:=hSw;go_simp
  try simp only[tp]
  refine tk 6 88 (.pointer (some ⟨C,1,none⟩)) rfl (Or.inl ⟨by rfl,?_⟩) hh ?_
  ·intro w hSw;(try dsimp only at hSw);obtain⟨s1,s2,s3,s4⟩:=hSw;go_simp
  try simp only[tp]
  refine tk 7 89 (.slice (some ⟨fb,fo,none⟩) n fc) rfl (Or.inl ⟨by rfl,?_⟩) hh ?_
  ·intro w hSw;(try dsimp only at hSw);obtain⟨s1,s2,s3,s4⟩:=hSw;go_simp
  try simp only[tp]
  refine tk 8 90 (.int .i64 (x:Nat)) rfl (Or.inl ⟨by rfl,?_⟩) hh ?_
  ·intro w hSw;(try dsimp only at hSw);obtain⟨s1,s2,s3,s4⟩:=hSw;go_simp
  try simp only[tp]
  refine tk 9 91 (.pointer (some ⟨fb,fo+x,none⟩)) rfl (Or.inl ⟨by rfl,?_⟩) hh ?_
  ·intro w hSw;(try dsimp only at hSw);obtain⟨s1,s2,s3,s4⟩:=hSw;go_simp
  try simp only[tp]
  refine tk 10 92 (.func (.func fid) #[] cap) rfl (Or.inl ⟨by rfl,?_⟩) hh ?_
  ·intro w hSw;(try dsimp only at hSw);obtain⟨s1,s2,s3,s4⟩:=hSw;go_simp
  try simp only[tp]
  refine tk 11 93 (.pointer (some ⟨pb,off+x*6,none⟩)) rfl (Or.inl ⟨by rfl,?_⟩) hh ?_
  ·intro w hSw;(try dsimp only at hSw);obtain⟨s1,s2,s3,s4⟩:=hSw;go_simp
  try simp only[tp]
  refine tk 12 94 (.pointer (some ⟨pb,off+x*6,none⟩)) rfl (Or.inl ⟨by rfl,?_⟩) hh ?_
  ·intro w hSw;(try dsimp only at hSw);obtain⟨s1,s2,s3,s4⟩:=hSw;go_simp
  try simp only[tp]
  refine tk 13 95 (.pointer (some ⟨pb,off+x*6+2,none⟩)) rfl (Or.inl ⟨by rfl,?_⟩) hh ?_
  ·intro w hSw;(try dsimp only at hSw);obtain⟨s1,s2,s3,s4⟩:=hSw;go_simp
  try simp only[tp]
  refine tk 14 96 (.slice po m pc) rfl (Or.inl ⟨by rfl,?_⟩) hh ?_
  ·intro w hSw;(try dsimp only at hSw);obtain⟨s1,s2,s3,s4⟩:=hSw;go_simp
  try simp only[tp]
  refine aS 15 (some 97) rfl fun K hK=>?_
  go_simp
  refine(HOP.out _ (HI.out.keep (Below.refl _ _).drew)).mono ?_
  rintro e w2 ⟨rfl,x1,x2,x3,hi2⟩
  have HI2:Hid (bF w0 { d with I:=I,a:=x1,b:=x2,c:=x3,tr:=d.tr||tr } w2):=hi2
  have s1:w2.cell? ⟨I,0+1,none⟩=some (.pointer (some ⟨C,0,none⟩)):=by rw[HCC.out];exact hi2.c1
  obtain⟨s2,s3,s4⟩:=HS.out w2 hi2.below
  have HSS:Hid (w2.cell? ⟨I,0+1,none⟩=some (.pointer (some ⟨C,0,none⟩))∧w2.cell? ⟨C,0+1,none⟩=some (.slice (some ⟨fb,fo,none⟩) n fc)∧w2.cell? ⟨fb,fo+x,none⟩=some (.func (.func fid) #[] cap)∧w2.cell? ⟨pb,off+x*6+2,none⟩=some (.slice po m pc)):=⟨s1,s2,s3,s4⟩
  clear hi2 s1 s2 s3 s4
  go_wp2_with fail
  refine hK.out _ _ (Till.last HSS.out) (fun hh=>?_)
  clear hK K
  try simp only[tp]
  refine tk 16 4 (.int .i64 r) rfl (Or.inl ⟨by rfl,?_⟩) hh ?_
  ·intro w hSw;go_simp
  try simp only[tp]
  refine dU (by kernel_rfl) ?_ _
  clear hh HSS HS HOP
  go_wp2
  go_ret
  exact⟨rfl,x1,x2,x3,HI2.out⟩
def vJ:List (List UInt8):=[[105,102],[102,98,121],[45,62],[112,114,101],[60,62],[61],[62,61],[62],[60,61],[60],[109,111,100],[47],[42],[45],[43],[110,101,103],[61,62],[120,111,114],[111,114],[97,110,100],[110,111,116],[102,97,108,115,101],[116,114,117,101],[105,110,116]]
theorem KX{op:List UInt8}{p:List Int×List Int}(h:kM op=some p):op∈vJ:=by
 unfold kM at h
 by_cases e:op=[105,102]
 ·rw[e];decide
 rw[if_neg e] at h;clear e
 by_cases e:op=[102,98,121]
 ·rw[e];decide
 rw[if_neg e] at h;clear e
 by_cases e:op=[45,62]
 ·rw[e];decide
 rw[if_neg e] at h;clear e
 by_cases e:op=[112,114,101]
 ·rw[e];decide
 rw[if_neg e] at h;clear e
 by_cases e:op=[60,62]
 ·rw[e];decide
 rw[if_neg e] at h;clear e
 by_cases e:op=[61]
 ·rw[e];decide
 rw[if_neg e] at h;clear e
 by_cases e:op=[62,61]
 ·rw[e];decide
 rw[if_neg e] at h;clear e
 by_cases e:op=[62]
 ·rw[e];decide
 rw[if_neg e] at h;clear e
 by_cases e:op=[60,61]
 ·rw[e];decide
 rw[if_neg e] at h;clear e
 by_cases e:op=[60]
 ·rw[e];decide
 rw[if_neg e] at h;clear e
 by_cases e:op=[109,111,100]
 ·rw[e];decide
 rw[if_neg e] at h;clear e
 by_cases e:op=[47]
 ·rw[e];decide
 rw[if_neg e] at h;clear e
 by_cases e:op=[42]
 ·rw[e];decide
 rw[if_neg e] at h;clear e
 by_cases e:op=[45]
 ·rw[e];decide
 rw[if_neg e] at h;clear e
 by_cases e:op=[43]
 ·rw[e];decide
 rw[if_neg e] at h;clear e
 by_cases e:op=[110,101,103]
 ·rw[e];decide
 rw[if_neg e] at h;clear e
 by_cases e:op=[61,62]
 ·rw[e];decide
 rw[if_neg e] at h;clear e
 by_cases e:op=[120,111,114]
 ·rw[e];decide
 rw[if_neg e] at h;clear e
 by_cases e:op=[111,114]
 ·rw[e];decide
 rw[if_neg e] at h;clear e
 by_cases e:op=[97,110,100]
 ·rw[e];decide
 rw[if_neg e] at h;clear e
 by_cases e:op=[110,111,116]
 ·rw[e];decide
 rw[if_neg e] at h;clear e
 by_cases e:op=[102,97,108,115,101]
 ·rw[e];decide
 rw[if_neg e] at h;clear e
 by_cases e:op=[116,114,117,101]
 ·rw[e];decide
 rw[if_neg e] at h;clear e
 by_cases e:op=[105,110,116]
 ·rw[e];decide
 rw[if_neg e] at h;clear e
 cases h
def k12:List Int:=[1,2]
theorem vU{k:Int}(h:k=1∨k=2):k∈k12:=by unfold k12;rcases h with rfl | rfl<;>simp
def Il(op:List UInt8)(ks:List Int):Prop:=
 ∀tk gv,kM op=some (tk,gv)→ks.length=tk.length→∀k,oJ op ks=some k→(k=1∨k=2) ∧
  ((op=pI∧ks=[]∧k=2)∨((op=oM∨op=sO)∧ks=[]∧k=1)∨(op=dD∧ks=[k])∨((op=fV∨op=bQ)∧ks=[k,k]) ∨
   ((op≠pI∧op≠oM∧op≠sO∧op≠bS∧op≠dD∧op≠fV∧op≠bQ)∧∃t∈oH,t.1=op∧ks.length=t.2.1∧rZ op ks=some k))
def uL(op:List UInt8)(ks:List Int):Bool:=
 match kM op,oJ op ks with
 | some r,some k=>ks.length != r.1.length||((k==1||k==2)&&((op==pI&&ks==[]&&k==2)||((op==oM||op==sO)&&ks==[]&&k==1)||(op==dD&&ks==[k])||((op==fV||op==bQ)&&ks==[k,k]) ||
   ((op != pI&&op != oM&&op != sO&&op != bS&&op != dD&&op != fV&&op != bQ)&&(oH.any fun t=>t.1==op&&ks.length==t.2.1)&&rZ op ks==some k)))
 | _,_=>true
theorem MV{op:List UInt8}{ks:List Int}(h:uL op ks=true):Il op ks:=by
 intro tk gv h1 h2 k h3
 unfold uL at h
 rw[h1,h3] at h
 simp only[Bool.and_eq_true,Bool.or_eq_true,bne_iff_ne,beq_iff_eq,ne_eq,List.any_eq_true] at h
 rcases h with h | ⟨hk,h⟩
 ·exact absurd h2 h
 refine⟨hk,?_⟩
 rcases h with(((h | h) | h) | h) | h
 ·exact .inl ⟨h.1.1,h.1.2,h.2⟩
 ·exact .inr (.inl ⟨h.1.1,h.1.2,h.2⟩)
 ·exact .inr (.inr (.inl h))
 ·exact .inr (.inr (.inr (.inl h)))
 ·obtain⟨⟨a,t,ht,b,c⟩,d⟩:=h
  exact .inr (.inr (.inr (.inr ⟨by obtain⟨⟨⟨⟨⟨⟨a1,a2⟩,a3⟩,a4⟩,a5⟩,a6⟩,a7⟩:=a;exact⟨a1,a2,a3,a4,a5,a6,a7⟩,t,ht,b,c,d⟩)))
theorem M0:∀op∈vJ,uL op []=true:=by decide
theorem MZ:∀op∈vJ,∀a∈k12,uL op [a]=true:=by decide
theorem MX:∀op∈vJ,∀a∈k12,∀b∈k12,uL op [a,b]=true:=by decide
theorem MW:∀op∈vJ,∀a∈k12,∀b∈k12,∀c∈k12,uL op [a,b,c]=true:=by decide
theorem KY:∀op∈vJ,((kM op).all fun r=>r.1.length≤3)=true:=by decide
theorem sD{op:List UInt8}{ks:List Int}(hk:∀k∈ks,k=1∨k=2):Il op ks:=by
 intro tk gv h1 h2 k h3
 have ho:=KX h1
 have hl:=KY op ho
 rw[h1] at hl
 simp only[Option.all_some,decide_eq_true_eq] at hl
 have H:uL op ks=true:=by
  match ks,hk,h2 with
  | [],_,_=>exact M0 op ho
  | [a],hk,_=>exact MZ op ho a (vU (hk a (by simp)))
  | [a,b],hk,_=>exact MX op ho a (vU (hk a (by simp))) b (vU (hk b (by simp)))
  | [a,b,c],hk,_=>exact MW op ho a (vU (hk a (by simp))) b (vU (hk b (by simp))) c (vU (hk c (by simp)))
  | a::b::c::d::l,_,h2=>simp only[List.length_cons] at h2;omega
 exact MV H tk gv h1 h2 k h3
theorem vE{kd:List UInt8→Option Int}:∀{l:List Ex} {ks qs:List Int} {i:Nat} {e:Ex},aR kd l=some (ks,qs)→l[i]?=some e→∃k q,cO kd e=some (k,q)∧ks[i]?=some k
 | [],_,_,i,e,_,h=>by simp at h
 | x::l,ks,qs,i,e,ht,h=>by
  unfold aR at ht
  cases h1:cO kd x with
  | none=>rw[h1] at ht;cases ht
  | some u=>
   obtain⟨k,ps⟩:=u
   rw[h1] at ht
   cases h2:aR kd l with
   | none=>rw[h2] at ht;cases ht
   | some v=>
    obtain⟨ks',qs'⟩:=v
    rw[h2] at ht
    obtain⟨rfl,rfl⟩:k::ks'=ks∧ps++qs'=qs:=by simpa using ht
    cases i with
    | zero=>
     obtain rfl:x=e:=by simpa using h
     exact⟨k,ps,h1,rfl⟩
    | succ i=>
     obtain⟨k',q',h3,h4⟩:=vE (i:=i) h2 (by simpa using h)
     exact⟨k',q',h3,by simpa using h4⟩
mutual
theorem Dp{kd:List UInt8→Option Int}(hkd:∀s k,kd s=some k→k=1∨k=2):∀{e:Ex} {k:Int} {q:List Int},iI kd e=true→cO kd e=some (k,q)→k=1∨k=2
 | .mk op n s l,k,q,hf,ht=>by
  unfold iI at hf
  rw[Bool.and_eq_true] at hf
  obtain⟨_,hc⟩:=Ah hf.1
  unfold cO at ht
  by_cases hn:op.data.toList=bS
  ·rw[if_pos hn] at ht
   obtain⟨k',h1,h2⟩:=Option.map_eq_some_iff.1 ht
   obtain⟨rfl,_⟩:k'=k∧_:=by simpa using h2
   exact hkd _ _ h1
  ·rw[if_neg hn] at ht hc
   obtain⟨tk,gv,hr,hl⟩:=hc
   cases h2:aR kd l with
   | none=>rw[h2] at ht;cases ht
   | some v=>
    obtain⟨ks,qs⟩:=v
    rw[h2] at ht
    obtain⟨k',h3,h4⟩:=Option.map_eq_some_iff.1 ht
    obtain⟨rfl,_⟩:k'=k∧_:=by simpa using h4
    exact(sD (A7 hkd hf.2 h2) tk gv hr (by rw[pX h2,hl]) k' h3).1
theorem A7{kd:List UInt8→Option Int}(hkd:∀s k,kd s=some k→k=1∨k=2):∀{l:List Ex} {ks qs:List Int},eD kd l=true→aR kd l=some (ks,qs)→∀k∈ks,k=1∨k=2
 | [],ks,qs,_,ht=>by
  obtain⟨rfl,rfl⟩:[]=ks∧[]=qs:=by simpa [aR] using ht
  intro k hk;cases hk
 | x::l,ks,qs,hf,ht=>by
  unfold eD at hf
  rw[Bool.and_eq_true] at hf
  unfold aR at ht
  cases h1:cO kd x with
  | none=>rw[h1] at ht;cases ht
  | some u=>
   obtain⟨k,ps⟩:=u
   rw[h1] at ht
   cases h2:aR kd l with
   | none=>rw[h2] at ht;cases ht
   | some v=>
    obtain⟨ks',qs'⟩:=v
    rw[h2] at ht
    obtain⟨rfl,rfl⟩:k::ks'=ks∧ps++qs'=qs:=by simpa using ht
    intro k' hk'
    rcases List.mem_cons.1 hk' with rfl | hk'
    ·exact Dp hkd hf.1 h1
    ·exact A7 hkd hf.2 h2 k' hk'
end
theorem Gv{kd:List UInt8→Option Int}{l:List Ex}(h:eD kd l=true){e:Ex}(he:e∈l):iI kd e=true:=by
 induction l with
 | nil=>cases he
 | cons x l ih=>
  unfold eD at h
  rw[Bool.and_eq_true] at h
  rcases List.mem_cons.1 he with rfl | he
  ·exact h.1
  ·exact ih h.2 he
theorem Lb(n:Int):gN 2 (cB n) 2=true:=by unfold gN cB;simp;omega
theorem La(b:Bool):gN 1 (bB b) 1=true:=by unfold gN bB;cases b<;>simp
def gH(ps:List Pq)(x:Nat):Bool:=(ps[x]?.map Pq.late).getD false
theorem xO{ps:List Pq}{x:Nat}{p:Pq}(h:ps[x]?=some p):gH ps x=p.late:=by unfold gH;rw[h];rfl
structure iT(q:bC):Prop where
 kd:∀(x:Nat) (p:Pq),q.ps[x]?=some p→p.kind=1∨p.kind=2
 int:∀(x:Nat) (p:Pq),q.ps[x]?=some p→p.op.data.toList=pI→p.kind=2∧0≤p.n∧p.n≤127
 oF:∀(x:Nat) (p:Pq),q.ps[x]?=some p→p.op.data.toList=oM→p.kind=1∧p.n=1
 Py:∀(x:Nat) (p:Pq),q.ps[x]?=some p→p.op.data.toList=sO→p.kind=1∧p.n=0
 nm:∀(x:Nat) (p:Pq),q.ps[x]?=some p→p.op.data.toList=bS→∃y,p.aF=[y]∧y<q.ps.length∧bK q.ps y=p.kind∧gH q.ps y=p.late
 pre:∀(x:Nat) (p:Pq),q.ps[x]?=some p→p.op.data.toList=dD→p.late=true∧∃m y:Nat,p.mem=(m:Int)∧q.ks[m]?=some y∧bK q.ps y=p.kind
 arr:∀(x:Nat) (p:Pq),q.ps[x]?=some p→p.op.data.toList=fV→∃a b,p.aF=[a,b]∧a<q.ps.length∧b<q.ps.length∧bK q.ps a=p.kind∧bK q.ps b=p.kind∧gH q.ps a=p.late
 Aj:∀(x:Nat) (p:Pq),q.ps[x]?=some p→p.op.data.toList=bQ→∃a b m:Nat,p.aF=[a,b]∧a<q.ps.length∧b<q.ps.length∧bK q.ps a=p.kind∧bK q.ps b=p.kind∧gH q.ps a=p.late∧p.mem=(m:Int)∧q.ks[m]?=some b
 zP:∀(x:Nat) (p:Pq),q.ps[x]?=some p→eZ q.ps x=false→¬jF p→∃t∈oH,t.1=p.op.data.toList∧p.aF.length=t.2.1∧(∀y∈p.aF,y<q.ps.length)∧rZ t.1 (p.aF.map (bK q.ps))=some p.kind∧(p.late=false→∀y∈p.aF,gH q.ps y=false)
 inl:∀x,eZ q.ps x=true→gH q.ps x=false
 ks:∀y∈q.ks,y<q.ps.length∧gH q.ps y=false
 os:∀y∈q.os,y<q.ps.length∧gH q.ps y=false
 ax:∀y∈q.ax,y<q.ps.length∧gH q.ps y=false∧bK q.ps y=1
 cx:∀y∈q.cx,y<q.ps.length∧gH q.ps y=false∧bK q.ps y=1
 len:q.ps.length≤5000∧q.ks.length≤5000∧q.os.length≤2097152∧q.ax.length≤5000∧q.cx.length≤5000
theorem FN{q:bC}(h:iT q){x:Nat}(hx:x<q.ps.length):bK q.ps x=1∨bK q.ps x=2:=by
 rw[rE (qK hx)]
 exact h.kd x _ (qK hx)
end Go.Proofs.YtmgfakcccfahaaaGreatDoor
