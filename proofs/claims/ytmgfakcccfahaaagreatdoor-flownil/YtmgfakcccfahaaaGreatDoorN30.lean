/-
  package plan: number BY CONTRACT.
-/
import Derived.Test.YtmgfakcccfahaaaGreatDoorN29
namespace Go.Proofs.YtmgfakcccfahaaaGreatDoor
open Go.RowKit Go.Maps
set_option maxRecDepth 100000
set_option maxHeartbeats 4000000

theorem D8(w:World)(S:Nat→Prop)(size:Nat):aB w S size (.slice none 0 0) 0 []:=⟨by simp,by unfold maxLen;omega,none,0,rfl,fun k x hx=>by simp at hx,Nat.le_refl _⟩
structure yO(w0:World)(ins:List Ex)(d:aK)(j:Nat)(dj:aK)(wr:World):Prop where
 pl:aG w0 (fun _=>False) [] dj wr
 fix:rT d dj
 m:dj.m=⟨List.replicate j mP,(ins.take j).map Ex.op,[]⟩
 fp:dj.fp=fH ins j
 is:dj.is=List.range j
 nk:dj.jB≤j
theorem zU(fl:List UInt8→Option Int):∀(l:List Fw) (s:Pm×(List UInt8→Option Int)),(eB fl l s).1.ps.length=s.1.ps.length+aC (l.map fun f=>f.e)∧(eB fl l s).1.ns.length=s.1.ns.length+aC (l.map fun f=>f.e)∧(eB fl l s).1.ks.length≤s.1.ks.length+aC (l.map fun f=>f.e)
 | [],s=>by simp [eB,aC]
 | x::l,s=>by
  have h1:=Ej fl x.e s.1
  have h2:=zU fl l ((bY fl x.e s.1).1,bI s.2 (x.name,((bY fl x.e s.1).2:Nat)))
  simp only[eB,List.map_cons,aC]
  simp only at h2
  omega
theorem qD:∀{a b:List Ex},dR (a++b)→dR a∧dR b
 | [],b,h=>⟨by unfold dR;trivial,h⟩
 | x::a,b,h=>by
  rw[List.cons_append] at h
  unfold dR at h
  obtain⟨h1,h2⟩:=qD h.2
  exact⟨by unfold dR;exact⟨h.1,h1⟩,h2⟩
theorem Ap:∀{a b:List Ex},eT (a++b)→eT a∧eT b
 | [],b,h=>⟨by unfold eT;trivial,h⟩
 | x::a,b,h=>by
  rw[List.cons_append] at h
  unfold eT at h
  obtain⟨h1,h2⟩:=Ap h.2
  exact⟨by unfold eT;exact⟨h.1,h1⟩,h2⟩
theorem xD:∀(a b:List Ex),aC (a++b)=aC a+aC b
 | [],b=>by simp [aC]
 | x::a,b=>by
  have:=xD a b
  simp only[List.cons_append,aC]
  omega
structure Ay(w0:World)(d:aK)(m0:Pm)(f0:List UInt8→Option Int)(ni:Nat)(fs:List Fw)(j:Nat)(F:Nat→Prop)(dj:aK)(wr:World):Prop where
 pl:aG w0 F [] dj wr
 fix:rT d dj
 m:dj.m=(eB d.fl (fs.take j) (m0,f0)).1
 fp:dj.fp=(eB d.fl (fs.take j) (m0,f0)).2
 is:dj.is=List.range ni
 nk:dj.jB≤ni+j
def bJ(p:Pg)(fl:List UInt8→Option Int):Pm×(List UInt8→Option Int):=eB fl p.fs (⟨List.replicate p.ins.length mP,p.ins.map Ex.op,[]⟩,fH p.ins p.ins.length)
structure Io(w0:World)(p:Pg)(d:aK)(F:Nat→Prop)(dj:aK)(wr:World):Prop where
 pl:aG w0 F [] dj wr
 fix:rT d dj
 m:dj.m=(aZ d.fl p.checks (aZ d.fl p.asserts (bJ p d.fl).1).1).1
 fp:dj.fp=(bJ p d.fl).2
 is:dj.is=List.range p.ins.length
 va:aB wr F 1 dj.va p.asserts.length (aX (aZ d.fl p.asserts (bJ p d.fl).1).2)
 vc:aB wr F 1 dj.vc p.checks.length (aX (aZ d.fl p.checks (aZ d.fl p.asserts (bJ p d.fl).1).1).2)
structure Im(w0:World)(p:Pg)(d:aK)(m:Pm)(F:Nat→Prop)(dj:aK)(wr:World):Prop where
 pl:aG w0 F [] dj wr
 fix:rT d dj
 m:dj.m=m
 fp:dj.fp=(bJ p d.fl).2
 is:dj.is=List.range p.ins.length
theorem M9(w0 w:World)(S:Nat→Prop)(p:Pg)(d:aK)(o1 o2 o3 o4 o5:Option Addr)(c1 c2 c3 c4 c5:Nat)(hp:iY w0 S p (.slice o1 p.ins.length c1) (.slice o2 p.outs.length c2) (.slice o3 p.fs.length c3) (.slice o4 p.asserts.length c4) (.slice o5 p.checks.length c5))(hok:nN p)(har:eT (aI p))(hv:d.v1=.slice o1 p.ins.length c1∧d.v3=.slice o3 p.fs.length c3∧d.v4=.slice o4 p.asserts.length c4∧d.v5=.slice o5 p.checks.length c5)(hsz:aC (aI p)≤4000)(h0:yO w0 p.ins d 0 d w) :
  Calls Tryz.prog 143 #[.pointer (some ⟨d.X,0,none⟩)] w fun e w'=>e=.returned (.tuple #[])∧∃F' d',Io w0 p d F' d' w':=by
 obtain⟨i0,hi0,hz0,hz1,hz2⟩:=info_parts Tryz.kT
 obtain⟨X,hX⟩:∃X,X=d.X:=⟨_,rfl⟩
 obtain⟨B,hB⟩:∃B,B=d.B:=⟨_,rfl⟩
 have HXB:Hid (X=d.X∧B=d.B):=⟨hX,hB⟩
 have HIN:Hid (aB w0 S 2 (.slice o1 p.ins.length c1) p.ins.length (dQ p.ins)):=hp.ins
 obtain⟨KP,hKP⟩:∃KP,KP=d.Kp:=⟨_,rfl⟩
 have HKP:=aA hKP
 have HLN:Hid (p.ins.length≤1000):=by have:=hok.vars;unfold Hid;omega
 have HNM:Hid (∀x∈p.ins,x.op.size≤maxLen):=fun x hx=>hok.names (x.op,x.n) (by unfold aT jE;exact List.mem_append_left _ (List.mem_map.2 ⟨_,hx,rfl⟩))
 obtain⟨_,_,⟨xs,hfr,hfi⟩,⟨xa,har4,hai4⟩,⟨xc,hcr5,hci5⟩⟩:=hp
 have HAS:Hid (aB w0 S 4 (.slice o4 p.asserts.length c4) p.asserts.length xa∧aQ w0 S p.asserts xa):=⟨har4,hai4⟩
 have HCS:Hid (aB w0 S 4 (.slice o5 p.checks.length c5) p.checks.length xc∧aQ w0 S p.checks xc):=⟨hcr5,hci5⟩
 have HTP:Hid (dR p.asserts∧dR p.checks∧eT p.asserts∧eT p.checks∧aC (p.fs.map fun f=>f.e)+aC p.asserts+aC p.checks≤4000):=by
  have hs:=hok.small
  unfold aI at hs har hsz
  have a1:=(qD hs).2
  have a2:=(Ap har).2
  rw[xD,xD] at hsz
  exact⟨(qD a1).1,(qD a1).2,(Ap a2).1,(Ap a2).2,by omega⟩
 have HFR:=aA hfr
 have HFI:=aA hfi
 have HFN:Hid (∀x∈p.fs,x.name.size≤maxLen):=fun x hx=>hok.names (x.name,x.kind) (by unfold aT gL;exact List.mem_append_right _ (List.mem_map.2 ⟨_,hx,rfl⟩))
 have HTT:Hid (dR (aI p)∧eT (aI p)∧aC (aI p)≤4000∧p.fs.length≤1000):=⟨hok.small,har,hsz,by have:=hok.vars;omega⟩
 have HV:=aA hv
 have H0:=aA h0
 have x0:w.cell? ⟨X,0,none⟩=some (.slice o1 p.ins.length c1):=by rw[hX,cell_of_row w _ _ _ _ (0,0) h0.pl.xb,←hv.1];rfl
 rw[←hX]
 clear hok har hv hsz h0 hX hB hKP hfr hfi har4 hai4 hcr5 hci5
 go_enter Tryz.func143,Tryz.ntmps143
 go_wp2
 clear x0
 go_loopw [13] (fun t wr=>∃(j:Nat) (dj:aK),j≤p.ins.length∧t=.int .i64 j∧Hid (yO w0 p.ins d j dj wr)) (fun t _=>p.ins.length-(intOf t).toNat)
 case atStart=>exact⟨0,d,Nat.zero_le _,rfl,H0.out⟩
 case round=>
  obtain⟨j,dj,hj,rfl,HR⟩:=hrel
  by_cases hjl:j<p.ins.length
  ·obtain⟨b,off,cp,ev,_,_,gg⟩:=HIN.out.at (by rw[yX];omega)
   obtain⟨rfl,rfl⟩:o1=some ⟨b,off,none⟩∧c1=cp:=by simpa using ev
   obtain⟨x1,x2⟩:=wU hjl
   have hbr:=HR.out.pl.below
   have y0:=aD hbr (gg _ _ x1)
   have y1:=aD hbr (gg _ _ x2)
   rw[←Nat.add_assoc] at y1
   obtain⟨name,hname⟩:∃name,name=p.ins[j].op:=⟨_,rfl⟩
   obtain⟨kind,hkind⟩:∃kind,kind=p.ins[j].n:=⟨_,rfl⟩
   rw[←hname] at y0
   rw[←hkind] at y1
   have i0':(0:Int)≤(j:Int):=by omega
   have i1':(j:Int)<(p.ins.length:Int):=by omega
   have hsn:name.size≤maxLen:=by rw[hname];exact HNM.out _ (List.getElem_mem hjl)
   obtain⟨w1,hw1⟩:∃w1,w1=wr.alloc (.cells #[.string name,.int .i64 kind] 157):=⟨_,rfl⟩
   obtain⟨V,hV⟩:∃V,V=wr.heap.size:=⟨_,rfl⟩
   have hP1:aG w0 (fun _=>False) [aP V (.cells #[.string name,.int .i64 kind] 157 (0,0))] dj w1:=by rw[hw1,hV];exact HR.out.pl.push _ _
   have z0:w1.cell? ⟨V,0,none⟩=some (.string name):=cr hP1.top rfl
   have hml:dj.ps.length=j∧dj.ns.length=j:=by
    have hm:=HR.out.m
    unfold aK.m at hm
    have e1:=congrArg (fun q=>q.ps.length) hm
    have e2:=congrArg (fun q=>q.ns.length) hm
    simp at e1 e2
    exact⟨e1,by omega⟩
   have hca:=Ep hP1 inT (D8 _ _ _) name (by rw[hml.1];have:=HLN.out;omega) (by rw[hml.2];have:=HLN.out;omega)
   rw[show (Value.pointer (some ⟨dj.X,0,none⟩))=.pointer (some ⟨X,0,none⟩) from by rw[HR.out.fix.X,←HXB.out.1],hml.1] at hca
   have HCA:Hid (Calls Tryz.prog 177 #[.pointer (some ⟨X,0,none⟩),.agg #[.string ⟨#[105,110,112,117,116]⟩,.int .i64 0,.slice none 0 0,.int .i64 0,.int .i64 0,.bool false],.string name] w1 fun e w'=>∃vp vn,e=.returned (.int .i64 (j:Nat))∧aG w0 (fun _=>False) [aP V (.cells #[.string name,.int .i64 kind] 157 (0,0))] { dj with vp:=vp,vn:=vn,ps:=dj.ps++[inT],ns:=dj.ns++[name] } w'∧w1.heap.size≤w'.heap.size∧aJ (fun _=>False) (fun _=>False) w1 w'):=hca
   have HJ:Hid (j<p.ins.length∧(∃x,p.ins[j]?=some x∧name=x.op)∧name.size≤maxLen∧dj.ps.length=j):=⟨hjl,⟨_,List.getElem?_eq_getElem hjl,hname⟩,hsn,hml.1⟩
   have HFX:Hid (yO w0 p.ins d j dj wr):=HR.out
   have N4:Hid (wrap64 ((j:Int)+1)=(j:Int)+1):=by have:=HLN.out;have:=HJ.out.1;unfold Hid wrap64;omega
   have HW1:Hid (wr.alloc (.cells #[.string name,.int .i64 kind] 157)=w1∧wr.heap.size=V):=⟨hw1.symm,hV.symm⟩
   clear ev gg x1 x2 hbr hname hkind hsn hw1 hV hP1 hml hca hj hjl HR
   go_upto_region 3 with fail
   rw[HW1.out.1,HW1.out.2]
   clear y0 y1
   go_wp2_with fail
   refine HCA.out.mono ?_
   rintro e w2 ⟨vp,vn,rfl,hP2,_,_⟩
   have HP2:Hid (aG w0 (fun _=>False) [aP V (.cells #[.string name,.int .i64 kind] 157 (0,0))] { dj with vp:=vp,vn:=vn,ps:=dj.ps++[inT],ns:=dj.ns++[name] } w2):=hP2
   clear hP2 z0 HCA
   obtain⟨d2,hd2⟩:∃d2:aK,d2={ dj with vp:=vp,vn:=vn,ps:=dj.ps++[inT],ns:=dj.ns++[name] }:=⟨_,rfl⟩
   rw[←hd2] at HP2
   have HD2:Hid (rT d d2∧d2.m=⟨List.replicate (j+1) mP,(p.ins.take (j+1)).map Ex.op,[]⟩∧d2.fp=fH p.ins j∧d2.is=List.range j∧d2.jB≤j):=by
    have hf:=HFX.out.fix
    obtain⟨x,hx,hnx⟩:=HJ.out.2.1
    refine⟨?_,?_,by rw[hd2];exact HFX.out.fp,by rw[hd2];exact HFX.out.is,by rw[hd2];exact HFX.out.nk⟩
    ·rw[hd2];exact⟨hf.X,hf.B,hf.Kp,hf.fl,hf.v1,hf.v2,hf.v3,hf.v4,hf.v5,hf.ts,hf.os⟩
    ·have hm:=HFX.out.m
     unfold aK.m at hm
     obtain⟨e1,e2,e3⟩:dj.ps.map aW.q=List.replicate j mP∧dj.ns=(p.ins.take j).map Ex.op∧dj.ks=[]:=by simpa using hm
     rw[hd2]
     unfold aK.m
     simp only[List.map_append,e1,e2,e3,List.take_add_one,hx,List.replicate_succ',hnx]
     rfl
   clear hd2
   have hX2:d2.X=X:=by rw[HD2.out.1.X,←HXB.out.1]
   have hB2:d2.B=B:=by rw[HD2.out.1.B,←HXB.out.2]
   have hP2d:=HP2.out.keep (Below.refl w2.heap.size w2).drew
   have z6:w2.drew.cell? ⟨X,0+6,none⟩=some (.map (some d2.Kp)):=by rw[←hX2];exact hP2d.tQ
   have zv:w2.drew.cell? ⟨V,0,none⟩=some (.string name):=by rw[cell_of_row w2.drew _ _ _ _ (0,0) hP2d.top];rfl
   obtain⟨w3,hup,hfn3,hgr3⟩:=hP2d.vI.put Tryz.underlying96 (by have:=HD2.out.2.2.2.2;have:=HLN.out;have:=HJ.out.1;unfold maxLen;omega) name HJ.out.2.2.1 (.int .i64 (j:Int))
   rw[qJ _ (name,(j:Int))] at hfn3
   have hP3:=(hP2d.place (s:=name) (k:=(j:Int)) hfn3 hgr3).1
   obtain⟨d3,hd3⟩:∃d3:aK,d3={ d2 with fp:=bI d2.fp (name,(j:Int)),jB:=d2.jB+1 }:=⟨_,rfl⟩
   rw[←hd3] at hP3
   have HP3:=aA hP3
   have HD3:Hid (rT d d3∧d3.m=⟨List.replicate (j+1) mP,(p.ins.take (j+1)).map Ex.op,[]⟩∧d3.fp=fH p.ins (j+1)∧d3.is=List.range j∧d3.jB≤j+1∧d3.X=X∧d3.B=B):=by
    have hf:=HD2.out.1
    obtain⟨x,hx,hnx⟩:=HJ.out.2.1
    rw[hd3]
    refine⟨⟨hf.X,hf.B,hf.Kp,hf.fl,hf.v1,hf.v2,hf.v3,hf.v4,hf.v5,hf.ts,hf.os⟩,HD2.out.2.1,?_,HD2.out.2.2.2.1,by have:=HD2.out.2.2.2.2;show d2.jB+1≤j+1;omega,hX2,hB2⟩
    show bI d2.fp (name,(j:Int))=_
    rw[HD2.out.2.2.1,hnx,Gb hx]
   have x63:w3.cell? ⟨X,0+6,none⟩=some (.map (some d2.Kp)):=by
    have:=HP3.out.tQ
    rw[HD3.out.2.2.2.2.2.1] at this
    rw[this,hd3]
   have v3:w3.cell? ⟨V,0,none⟩=some (.string name):=cr HP3.out.top rfl
   have HZ3:Hid (w3.cell? ⟨X,0+6,none⟩=some (.map (some d2.Kp))∧w3.cell? ⟨V,0,none⟩=some (.string name)):=⟨x63,v3⟩
   clear hd3 hP3 hfn3 hgr3 hP2d hX2 hB2 x63 v3
   go_upto_region 4 with fail
   refine fI 7 (fun w'=>w'.cell? ⟨X,0+6,none⟩=some (.map (some d2.Kp))∧w'.cell? ⟨V,0,none⟩=some (.string name)) (fun _=>True) (by kernel_rfl) ⟨z6,zv⟩ trivial (fun hh=>?_)
   refine tj 0 22 (.pointer (some ⟨X,0,none⟩)) rfl (by rintro w ⟨b0,b1⟩;go_simp) hh ?_
   refine tj 1 23 (.pointer (some ⟨X,0,none⟩)) rfl (by rintro w ⟨b0,b1⟩;go_simp) hh ?_
   refine tj 2 24 (.pointer (some ⟨X,6,none⟩)) rfl (by rintro w ⟨b0,b1⟩;go_simp) hh ?_
   refine tj 3 25 (.map (some d2.Kp)) rfl (by rintro w ⟨b0,b1⟩;go_simp) hh ?_
   refine tj 4 26 (.pointer (some ⟨V,0,none⟩)) rfl (by rintro w ⟨b0,b1⟩;go_simp) hh ?_
   refine tj 5 27 (.string name) rfl (by rintro w ⟨b0,b1⟩;go_simp) hh ?_
   refine tj 6 28 (.int .i64 (j:Nat)) rfl (by rintro w ⟨b0,b1⟩;go_simp) hh ?_
   refine aS 7 none rfl fun K hK=>?_
   go_simp
   refine hK.out _ _ (Till.last HZ3.out) (fun hh=>?_)
   clear hK K
   try simp only[tp]
   refine dU (by kernel_rfl) ?_ _
   clear z6 zv hup hh
   have hB3:=HD3.out.2.2.2.2.2.2
   have hX3:=HD3.out.2.2.2.2.2.1
   have z5:w3.drew.cell? ⟨X,0+5,none⟩=some (.pointer (some ⟨B,0,none⟩)):=by rw[←hX3,←hB3];exact(HP3.out.keep (Below.refl _ _).drew).iK
   have zb:w3.drew.cell? ⟨B,0+1,none⟩=some d3.vi:=by rw[←hB3,cell_of_row w3.drew _ _ _ _ (0,0) (HP3.out.keep (Below.refl _ _).drew).bb];rfl
   clear hB3 hX3
   have HMX:Hid (j+1≤maxLen∧(j+1)*8≤140737488355328):=by have:=HLN.out;have:=HJ.out.1;unfold Hid maxLen;omega
   have HIL:Hid (d3.is.length=j∧aX d3.is=aX (List.range j)):=by rw[HD3.out.2.2.2.1];exact⟨by simp,rfl⟩
   go_upto_region 5 with fail
   refine fI 16 (fun w'=>w'.cell? ⟨X,0+5,none⟩=some (.pointer (some ⟨B,0,none⟩))) (fun w'=>w'.cell? ⟨B,0+1,none⟩=some d3.vi) (by kernel_rfl) z5 zb (fun hh=>?_)
   refine tk 0 29 (.pointer (some ⟨X,0,none⟩)) rfl (.inl ⟨by rfl,?_⟩) hh ?_
   ·intro w hSw;(try dsimp only at hSw);go_simp
   try simp only[tp]
   refine tk 1 30 (.pointer (some ⟨X,0,none⟩)) rfl (.inl ⟨by rfl,?_⟩) hh ?_
   ·intro w hSw;(try dsimp only at hSw);go_simp
   try simp only[tp]
   refine tk 2 31 (.pointer (some ⟨X,5,none⟩)) rfl (.inl ⟨by rfl,?_⟩) hh ?_
   ·intro w hSw;(try dsimp only at hSw);go_simp
   try simp only[tp]
   refine tk 3 32 (.pointer (some ⟨B,0,none⟩)) rfl (.inl ⟨by rfl,?_⟩) hh ?_
   ·intro w hSw;(try dsimp only at hSw);go_simp
   try simp only[tp]
   refine tk 4 33 (.pointer (some ⟨X,0,none⟩)) rfl (.inl ⟨by rfl,?_⟩) hh ?_
   ·intro w hSw;(try dsimp only at hSw);go_simp
   try simp only[tp]
   refine tk 5 34 (.pointer (some ⟨X,0,none⟩)) rfl (.inl ⟨by rfl,?_⟩) hh ?_
   ·intro w hSw;(try dsimp only at hSw);go_simp
   try simp only[tp]
   refine tk 6 35 (.pointer (some ⟨X,5,none⟩)) rfl (.inl ⟨by rfl,?_⟩) hh ?_
   ·intro w hSw;(try dsimp only at hSw);go_simp
   try simp only[tp]
   refine tk 7 36 (.pointer (some ⟨B,0,none⟩)) rfl (.inl ⟨by rfl,?_⟩) hh ?_
   ·intro w hSw;(try dsimp only at hSw);go_simp
   try simp only[tp]
   refine tk 8 37 (.pointer (some ⟨B,0,none⟩)) rfl (.inl ⟨by rfl,?_⟩) hh ?_
   ·intro w hSw;(try dsimp only at hSw);go_simp
   try simp only[tp]
   refine tk 9 38 (.pointer (some ⟨B,1,none⟩)) rfl (.inl ⟨by rfl,?_⟩) hh ?_
   ·intro w hSw;(try dsimp only at hSw);go_simp
   try simp only[tp]
   refine oU 13 (i:=10) (oi:=⟨some 39,_,_,_,_,_⟩) (v:=d3.vi) rfl rfl (by kernel_rfl) (by kernel_rfl) (by kernel_rfl) (by kernel_rfl) (by kernel_rfl) (by kernel_rfl) (by kernel_rfl) (fun _ _ _ h=>h) (Or.inl ⟨by rfl,?_⟩) hh ?_
   ·intro w hSw;(try dsimp only at hSw);go_simp
   try simp only[tp]
   refine tk 11 40 (.int .i64 (j:Nat)) rfl (.inl ⟨by rfl,?_⟩) hh ?_
   ·intro w hSw;(try dsimp only at hSw);go_simp
   try simp only[tp]
   refine aS 12 (some 41) rfl fun K hK=>?_
   go_simp
   obtain⟨wA,hwA⟩:∃wA,wA=(w3.alloc (.cells #[.int .i64 (j:Int)] 3)).drew:=⟨_,rfl⟩
   have hbA:Bw w3 wA:=by rw[hwA];exact(aH).drew
   have HPA:Hid (aG w0 (fun _=>False) [aP V (.cells #[.string name,.int .i64 kind] 157 (0,0))] d3 wA):=HP3.out.keep hbA
   have HNA:Hid (∀k y,[Value.int .i64 (j:Int)][k]?=some y→wA.cell? ((⟨w3.heap.size,0,none⟩:Addr).add k)=some y):=by unfold Hid;rw[hwA];exact World.news_of_block (heap_alloc_new w3 _)
   have HXA:Hid (wA.cell? ⟨X,0+5,none⟩=some (.pointer (some ⟨B,0,none⟩))∧wA.cell? ⟨B,0+1,none⟩=some d3.vi):=⟨aD hbA z5,aD hbA zb⟩
   have HIR:Hid (wA.ownsRow w0.heap.size 3 1 d3.vi j (aX d3.is)):=by have:=HPA.out.Ga;rwa [HIL.out.1] at this
   rw[←hwA]
   refine hK.out _ _ ⟨HXA.out.1,fun _=>HXA.out.2⟩ (fun hh=>?_)
   clear hK K hwA hbA z5 zb
   try simp only[tp]
   refine aS 13 (some 42) rfl fun K hK=>?_
   refine step_append_lies _ rfl (.tmp 39) (.tmp 41) 30 rfl w0.heap.size 3 i0 _ 1 8 Tryz.underlying30 hi0 hz0 hz1 hz2 rfl (by omega) d3.vi j _ (by simp [Act.eval]) HIR.out ⟨w3.heap.size,0,none⟩ 1 1 [.int .i64 (j:Int)] (by simp [Act.eval]) rfl HNA.out (by simp [Value.oneCell']) (by omega) HMX.out.1 HMX.out.2 HPA.out.sep.base _ rfl ?_
   intro g cap w7 hown7 hgrow hat hlt7
   have hkp:=HPA.out.input (x:=j) (g:=g) (cap:=cap) (w':=w7) (by rw[HIL.out.1];exact hown7) hgrow hat
   rw[HIL.out.1,HD3.out.2.2.2.2.2.2] at hkp
   have hvX:d3.vi.ownBlock≠some d3.X:=HPA.out.ne (i:=0) (j:=6) (by decide) rfl rfl rfl
   have hvB:d3.vi.ownBlock≠some d3.B:=HPA.out.ne (i:=1) (j:=6) (by decide) rfl rfl rfl
   have hx7:=gT hgrow hvX HPA.out.xb
   have hb7:=gT hgrow hvB HPA.out.bb
   rw[HD3.out.2.2.2.2.2.1] at hx7
   rw[HD3.out.2.2.2.2.2.2] at hb7
   have xc7:w7.cell? ⟨X,0+5,none⟩=some (.pointer (some ⟨B,0,none⟩)):=by rw[cell_of_row w7 _ _ _ _ (0,0) hx7,←HD3.out.2.2.2.2.2.2];rfl
   have bc7:w7.cell? ⟨B,0+1,none⟩=some d3.vi:=cr hb7 rfl
   have fz7:w7.frozen? ⟨B,0+1,none⟩=false:=bR hb7
   refine hK.out _ _ ⟨xc7,fun _=>bc7⟩ (fun hh=>?_)
   clear hK K
   try simp only[tp]
   refine tk 14 43 (.pointer (some ⟨B,0,none⟩)) rfl (.inl ⟨by rfl,?_⟩) hh ?_
   ·intro w hSw;(try dsimp only at hSw);go_simp
   try simp only[tp]
   refine tk 15 44 (.pointer (some ⟨B,1,none⟩)) rfl (.inl ⟨by rfl,?_⟩) hh ?_
   ·intro w hSw;(try dsimp only at hSw);go_simp
   try simp only[tp]
   refine aS 16 none rfl fun K hK=>?_
   go_simp
   obtain⟨w9,hw9⟩:∃w9,w9=w7.setCell ⟨B,1,none⟩ (.slice (some ⟨g,0,none⟩) (j+1) cap):=⟨_,rfl⟩
   rw[←hw9] at hkp
   rw[←hw9]
   obtain⟨d4,hd4⟩:∃d4:aK,d4={ d3 with vi:=.slice (some ⟨g,0,none⟩) (j+1) cap,is:=d3.is++[j] }:=⟨_,rfl⟩
   have HNX:Hid (yO w0 p.ins d (j+1) d4 w9):=by
    have hf:=HD3.out.1
    have hp4:aG w0 (fun _=>False) [aP V (.cells #[.string name,.int .i64 kind] 157 (0,0))] d4 w9:=by
     rw[hd4,HD3.out.2.2.2.2.2.2]
     exact hkp.1
    refine⟨hp4.pop,?_,?_,?_,?_,?_⟩
    ·rw[hd4];exact⟨hf.X,hf.B,hf.Kp,hf.fl,hf.v1,hf.v2,hf.v3,hf.v4,hf.v5,hf.ts,hf.os⟩
    ·rw[hd4];exact HD3.out.2.1
    ·rw[hd4];exact HD3.out.2.2.1
    ·rw[hd4];show d3.is++[j]=_;rw[HD3.out.2.2.2.1,List.range_succ]
    ·rw[hd4];exact HD3.out.2.2.2.2.1
   have xc9:w9.cell? ⟨X,0+5,none⟩=some (.pointer (some ⟨B,0,none⟩)):=by
    have:=HNX.out.pl.iK
    rw[HNX.out.fix.X,←HXB.out.1,HNX.out.fix.B,←HXB.out.2] at this
    exact this
   refine hK.out _ _ (Till.last xc9) (fun hh=>?_)
   clear hK K
   try simp only[tp]
   refine dU (by kernel_rfl) ?_ _
   clear hkp hvX hvB hx7 hb7 xc7 bc7 fz7 hw9 hd4 xc9 hown7 hgrow hat hlt7 hh
   go_wp2
   exact⟨⟨j+1,d4,HJ.out.1,by rw[N4.out];rfl,HNX.out⟩,by rw[N4.out];have:=HJ.out.1;simp [intOf];omega⟩
  ·obtain rfl:p.ins.length=j:=by omega
   have x2:wr.cell? ⟨X,0+2,none⟩=some (.slice o3 p.fs.length c3):=by
    rw[HXB.out.1,←HR.out.fix.X,cell_of_row wr _ _ _ _ (0,0) HR.out.pl.xb,←HV.out.2.1,←HR.out.fix.v3];rfl
   obtain⟨m0,hm0⟩:∃m0:Pm,m0=⟨List.replicate p.ins.length mP,p.ins.map Ex.op,[]⟩:=⟨_,rfl⟩
   have HS:Hid (Ay w0 d m0 (fH p.ins p.ins.length) p.ins.length p.fs 0 (fun _=>False) dj wr):=by
    have h:=HR.out
    refine⟨h.pl,h.fix,?_,?_,h.is,by have:=h.nk;omega⟩
    ·rw[h.m,hm0,List.take_of_length_le (Nat.le_refl _)];simp [eB]
    ·rw[h.fp];simp [eB]
   have HM0:Hid (m0.ps.length=p.ins.length∧m0.ns.length=p.ins.length∧m0.ks.length=0):=by rw[hm0];simp [Hid]
   have HME:=aA hm0
   clear hj hjl HR hm0
   go_wp2
   clear x2
   go_loopw [52] (fun t wr=>∃(j:Nat) (Fj:Nat→Prop) (dj:aK),j≤p.fs.length∧t=.int .i64 j∧Hid (Ay w0 d m0 (fH p.ins p.ins.length) p.ins.length p.fs j Fj dj wr)) (fun t _=>p.fs.length-(intOf t).toNat)
   case atStart=>exact⟨0,_,dj,Nat.zero_le _,rfl,HS.out⟩
   case round=>
    obtain⟨j,Fj,dj,hj,rfl,HR⟩:=hrel
    by_cases hjl:j<p.fs.length
    ·obtain⟨name,kind,op',n',s',es,oo,cc,zs,e,y0,y1,y2,y3,y4,y5,r1,r2⟩:=HFI.out.at hjl
     obtain⟨b,off,cp,ev,_,_,gg⟩:=HFR.out.at (by have:=HFR.out.1;omega)
     obtain⟨rfl,rfl⟩:o3=some ⟨b,off,none⟩∧c3=cp:=by simpa using ev
     have hbr:=HR.out.pl.below
     have y0:=aD hbr (gg _ _ y0)
     have y1:=aD hbr (gg _ _ y1)
     have y2:=aD hbr (gg _ _ y2)
     have y3:=aD hbr (gg _ _ y3)
     have y4:=aD hbr (gg _ _ y4)
     have y5:=aD hbr (gg _ _ y5)
     rw[←Nat.add_assoc] at y1 y2 y3 y4 y5
     have i0':(0:Int)≤(j:Int):=by omega
     have i1':(j:Int)<(p.fs.length:Int):=by omega
     have ej:p.fs[j]?=some ⟨name,kind,.mk op' n' s' es⟩:=by rw[List.getElem?_eq_getElem hjl,e]
     have et:(aI p)[j]?=some (.mk op' n' s' es):=by
      unfold aI
      rw[List.getElem?_append_left (by simpa using hjl),List.getElem?_map,ej]
      rfl
     obtain⟨w1,hw1⟩:∃w1,w1=wr.alloc (.cells #[.string name,.int .i64 kind,.string op',.int .i64 n',.string s',.slice oo es.length cc] 95):=⟨_,rfl⟩
     obtain⟨V,hV⟩:∃V,V=wr.heap.size:=⟨_,rfl⟩
     obtain⟨fo,hfo⟩:∃fo:Obj,fo=.cells #[.string name,.int .i64 kind,.string op',.int .i64 n',.string s',.slice oo es.length cc] 95 (0,0):=⟨_,rfl⟩
     have hP1:aG w0 Fj [aP V fo] dj w1.drew:=by rw[hw1,hV,hfo];exact(HR.out.pl.push _ _).keep (Below.refl _ _).drew
     have HVC:Hid (∀{W:World},W.heap[V]?=some fo→W.cell? ⟨V,0,none⟩=some (.string name)∧W.cell? ⟨V,0+2,none⟩=some (.string op')∧W.cell? ⟨V,0+2+1,none⟩=some (.int .i64 n')∧W.cell? ⟨V,0+2+2,none⟩=some (.string s')∧W.cell? ⟨V,0+2+3,none⟩=some (.slice oo es.length cc)):=fun {W} hr=>by
      rw[hfo] at hr
      refine⟨?_,?_,?_,?_,?_⟩<;>(rw[cell_of_row W _ _ _ _ (0,0) hr];rfl)
     have hxj:dj.X=X∧dj.Kp=KP∧dj.fl=d.fl:=⟨by rw[HR.out.fix.X,←HXB.out.1],by rw[HR.out.fix.Kp,←HKP.out],HR.out.fix.fl⟩
     have z6:w1.drew.cell? ⟨X,0+6,none⟩=some (.map (some KP)):=by rw[←hxj.1,←hxj.2.1];exact hP1.tQ
     have hln:=zU d.fl (p.fs.take j) (m0,fH p.ins p.ins.length)
     have hml:dj.ps.length=(eB d.fl (p.fs.take j) (m0,fH p.ins p.ins.length)).1.ps.length∧dj.ns.length=(eB d.fl (p.fs.take j) (m0,fH p.ins p.ins.length)).1.ns.length∧dj.ks.length=(eB d.fl (p.fs.take j) (m0,fH p.ins p.ins.length)).1.ks.length:=by
      rw[←HR.out.m];unfold aK.m;exact⟨by simp,rfl,rfl⟩
     have hs1:aC ((p.fs.take j).map fun f=>f.e)+aL (.mk op' n' s' es)≤4000:=by
      have h1:=vF _ _ _ et
      have h2:=vG (aI p) (j+1)
      have h3:(aI p).take j=(p.fs.take j).map fun f=>f.e:=by
       unfold aI
       rw[List.take_append_of_le_length (by simp;omega),List.map_take]
      have:=HTT.out.2.2.1
      rw[h3] at h1
      omega
     have hm0:=HM0.out
     have hli:=HLN.out
     simp only at hln
     have hca:=y8 (SizeOf.sizeOf es+1) op' n' s' es (Nat.lt_succ_self _) w0 w1.drew Fj _ dj S oo cc zs hP1 (oG HTT.out.1 et) (wL HTT.out.2.1 et) r1 r2 (by omega) (by omega) (by omega)
     rw[hxj.1,hxj.2.2,HR.out.m] at hca
     have htk:=EK (fl:=d.fl) (s:=(m0,fH p.ins p.ins.length)) ej
     obtain⟨k,hk⟩:∃k,k=(bY d.fl (.mk op' n' s' es) (eB d.fl (p.fs.take j) (m0,fH p.ins p.ins.length)).1).2:=⟨_,rfl⟩
     rw[←hk] at hca
     have HCA:=aA hca
     obtain⟨a0,a2,a3,a4,a5⟩:=HVC.out hP1.top
     have HTK:Hid (eB d.fl (p.fs.take (j+1)) (m0,fH p.ins p.ins.length)=((bY d.fl (.mk op' n' s' es) (eB d.fl (p.fs.take j) (m0,fH p.ins p.ins.length)).1).1,bI (eB d.fl (p.fs.take j) (m0,fH p.ins p.ins.length)).2 (name,(k:Nat)))):=by unfold Hid;rw[htk,hk]
     have HJ:Hid (j<p.fs.length∧name.size≤maxLen):=⟨hjl,HFN.out _ (List.mem_of_getElem? ej)⟩
     have N4:Hid (wrap64 ((j:Int)+1)=(j:Int)+1):=by have:=HTT.out.2.2.2;have:=HJ.out.1;unfold Hid wrap64;omega
     have HW1:Hid (wr.alloc (.cells #[.string name,.int .i64 kind,.string op',.int .i64 n',.string s',.slice oo es.length cc] 95)=w1∧wr.heap.size=V):=⟨hw1.symm,hV.symm⟩
     have HRR:Hid (Ay w0 d m0 (fH p.ins p.ins.length) p.ins.length p.fs j Fj dj wr):=HR.out
     clear ev gg r1 r2 hbr e ej et hw1 hV hfo hP1 hxj hln hml hs1 hm0 hli hca htk hk hj hjl HR
     go_upto_region 10 with fail
     rw[HW1.out.1,HW1.out.2]
     clear y0 y1 y2 y3 y4 y5
     refine fI 10 (fun w'=>w'.cell? ⟨X,0+6,none⟩=some (.map (some KP))∧w'.cell? ⟨V,0,none⟩=some (.string name)∧w'.cell? ⟨V,0+2,none⟩=some (.string op')∧w'.cell? ⟨V,0+2+1,none⟩=some (.int .i64 n')∧w'.cell? ⟨V,0+2+2,none⟩=some (.string s')∧w'.cell? ⟨V,0+2+3,none⟩=some (.slice oo es.length cc)) (fun _=>True) (by kernel_rfl) ⟨z6,a0,a2,a3,a4,a5⟩ trivial (fun hh=>?_)
     refine tj 0 56 (.pointer (some ⟨X,0,none⟩)) rfl (by rintro w ⟨b0,b1,b2,b3,b4,b5⟩;go_simp) hh ?_
     refine tj 1 57 (.pointer (some ⟨X,0,none⟩)) rfl (by rintro w ⟨b0,b1,b2,b3,b4,b5⟩;go_simp) hh ?_
     refine tj 2 58 (.pointer (some ⟨X,6,none⟩)) rfl (by rintro w ⟨b0,b1,b2,b3,b4,b5⟩;go_simp) hh ?_
     refine tj 3 59 (.map (some KP)) rfl (by rintro w ⟨b0,b1,b2,b3,b4,b5⟩;go_simp) hh ?_
     refine tj 4 60 (.pointer (some ⟨V,0,none⟩)) rfl (by rintro w ⟨b0,b1,b2,b3,b4,b5⟩;go_simp) hh ?_
     refine tj 5 61 (.string name) rfl (by rintro w ⟨b0,b1,b2,b3,b4,b5⟩;go_simp) hh ?_
     refine tj 6 62 (.pointer (some ⟨X,0,none⟩)) rfl (by rintro w ⟨b0,b1,b2,b3,b4,b5⟩;go_simp) hh ?_
     refine tj 7 63 (.pointer (some ⟨V,2,none⟩)) rfl (by rintro w ⟨b0,b1,b2,b3,b4,b5⟩;go_simp) hh ?_
     refine tj 8 64 (.agg #[.string op',.int .i64 n',.string s',.slice oo es.length cc]) rfl (by rintro w ⟨b0,b1,b2,b3,b4,b5⟩;go_simp) hh ?_
     refine aS 9 (some 65) rfl fun K hK=>?_
     go_simp
     refine HCA.out.mono ?_
     rintro e w2 ⟨rfl,_,F2,d2,hd2,hm2,hP2,_⟩
     have HD2:Hid (rT d d2∧d2.fp=(eB d.fl (p.fs.take j) (m0,fH p.ins p.ins.length)).2∧d2.is=List.range p.ins.length∧d2.jB≤p.ins.length+j∧d2.X=X∧d2.Kp=KP):=by
      obtain⟨_,_,_,_,_,_,e1⟩:=hd2
      have hf:=HRR.out.fix
      rw[e1]
      exact⟨⟨hf.X,hf.B,hf.Kp,hf.fl,hf.v1,hf.v2,hf.v3,hf.v4,hf.v5,hf.ts,hf.os⟩,HRR.out.fp,HRR.out.is,HRR.out.nk,by show dj.X=X;rw[hf.X,←HXB.out.1],by show dj.Kp=KP;rw[hf.Kp,←HKP.out]⟩
     have HP2:Hid (aG w0 F2 [aP V fo] d2 w2∧d2.m=(bY d.fl (.mk op' n' s' es) (eB d.fl (p.fs.take j) (m0,fH p.ins p.ins.length)).1).1):=⟨hP2,hm2⟩
     obtain⟨w3,hup,hfn3,hgr3⟩:=hP2.vI.put Tryz.underlying96 (by have:=HD2.out.2.2.2.1;have:=HLN.out;have:=HTT.out.2.2.2;have:=HJ.out.1;unfold maxLen;omega) name HJ.out.2 (.int .i64 (k:Int))
     rw[qJ _ (name,(k:Int))] at hfn3
     have hP3:=(hP2.place (s:=name) (k:=(k:Int)) hfn3 hgr3).1
     rw[HD2.out.2.2.2.2.2] at hup
     obtain⟨d3,hd3⟩:∃d3:aK,d3={ d2 with fp:=bI d2.fp (name,(k:Int)),jB:=d2.jB+1 }:=⟨_,rfl⟩
     rw[←hd3] at hP3
     have HNX:Hid (Ay w0 d m0 (fH p.ins p.ins.length) p.ins.length p.fs (j+1) F2 d3 w3):=by
      have hf:=HD2.out.1
      refine⟨hP3.pop,?_,?_,?_,?_,?_⟩
      ·rw[hd3];exact⟨hf.X,hf.B,hf.Kp,hf.fl,hf.v1,hf.v2,hf.v3,hf.v4,hf.v5,hf.ts,hf.os⟩
      ·rw[hd3,HTK.out];exact HP2.out.2
      ·rw[hd3,HTK.out];show bI d2.fp _=_;rw[HD2.out.2.1]
      ·rw[hd3];exact HD2.out.2.2.1
      ·rw[hd3];show d2.jB+1≤_;have:=HD2.out.2.2.2.1;omega
     have x63:w3.cell? ⟨X,0+6,none⟩=some (.map (some KP)):=by
      have h6:=hP3.tQ
      have e3:d3.X=X∧d3.Kp=KP:=by rw[hd3];exact HD2.out.2.2.2.2
      rw[e3.1,e3.2] at h6
      exact h6
     have HZ3:Hid (w3.cell? ⟨X,0+6,none⟩=some (.map (some KP))∧w3.cell? ⟨V,0,none⟩=some (.string name)∧w3.cell? ⟨V,0+2,none⟩=some (.string op')∧w3.cell? ⟨V,0+2+1,none⟩=some (.int .i64 n')∧w3.cell? ⟨V,0+2+2,none⟩=some (.string s')∧w3.cell? ⟨V,0+2+3,none⟩=some (.slice oo es.length cc)):=⟨x63,HVC.out hP3.top⟩
     have x62:w2.cell? ⟨X,0+6,none⟩=some (.map (some KP)):=by rw[←HD2.out.2.2.2.2.1,←HD2.out.2.2.2.2.2];exact hP2.tQ
     have HZ2:Hid (w2.cell? ⟨X,0+6,none⟩=some (.map (some KP))∧w2.cell? ⟨V,0,none⟩=some (.string name)∧w2.cell? ⟨V,0+2,none⟩=some (.string op')∧w2.cell? ⟨V,0+2+1,none⟩=some (.int .i64 n')∧w2.cell? ⟨V,0+2+2,none⟩=some (.string s')∧w2.cell? ⟨V,0+2+3,none⟩=some (.slice oo es.length cc)):=⟨x62,HVC.out hP2.top⟩
     clear hd2 hm2 hP2 hfn3 hgr3 hP3 hd3 x63 x62
     go_wp2_with fail
     refine hK.out _ _ ⟨HZ2.out,fun _=>trivial⟩ (fun hh=>?_)
     clear hK K
     try simp only[tp]
     refine aS 10 none rfl fun K hK=>?_
     go_simp
     refine hK.out _ _ (Till.last HZ3.out) (fun hh=>?_)
     clear hK K
     try simp only[tp]
     refine dU (by kernel_rfl) ?_ _
     clear z6 a0 a2 a3 a4 a5 hup hh
     go_wp2
     exact⟨⟨j+1,F2,d3,HJ.out.1,by rw[N4.out];rfl,HNX.out⟩,by rw[N4.out];have:=HJ.out.1;simp [intOf];omega⟩
    ·obtain rfl:p.fs.length=j:=by omega
     obtain⟨ma,hma⟩:∃ma,ma=(bJ p d.fl).1:=⟨_,rfl⟩
     obtain⟨mb,hmb⟩:∃mb,mb=aZ d.fl p.asserts ma:=⟨_,rfl⟩
     obtain⟨mc,hmc⟩:∃mc,mc=aZ d.fl p.checks mb.1:=⟨_,rfl⟩
     have HLL:Hid ((ma.ps.length+aC p.asserts≤50000∧ma.ns.length+aC p.asserts≤50000∧ma.ks.length+aC p.asserts≤50000)∧mb.1.ps.length+aC p.checks≤50000∧mb.1.ns.length+aC p.checks≤50000∧mb.1.ks.length+aC p.checks≤50000):=by
      have h1:=zU d.fl p.fs (⟨List.replicate p.ins.length mP,p.ins.map Ex.op,[]⟩,fH p.ins p.ins.length)
      have h2:=qF d.fl p.asserts ma
      have h3:=HTP.out.2.2.2.2
      have h4:=HLN.out
      have e:eB d.fl p.fs (⟨List.replicate p.ins.length mP,p.ins.map Ex.op,[]⟩,fH p.ins p.ins.length)=bJ p d.fl:=rfl
      rw[e,←hma] at h1
      rw[←hmb] at h2
      simp only[List.length_replicate,List.length_map,List.length_nil] at h1
      unfold Hid
      omega
     have HG0:Hid (Im w0 p d ma Fj dj wr):=by
      refine⟨HR.out.pl,HR.out.fix,?_,?_,HR.out.is⟩
      ·rw[HR.out.m,List.take_of_length_le (Nat.le_refl _),HME.out,hma];rfl
      ·rw[HR.out.fp,List.take_of_length_le (Nat.le_refl _),HME.out];rfl
     have HMM:Hid (ma=(bJ p d.fl).1∧mb=aZ d.fl p.asserts ma∧mc=aZ d.fl p.checks mb.1):=⟨hma,hmb,hmc⟩
     clear hma hmb hmc hj hjl HR
     have hA:=HG0.out.pl.keep (Below.refl _ _).drew
     have hxj:dj.X=X∧dj.B=B∧dj.fl=d.fl:=⟨by rw[HG0.out.fix.X,←HXB.out.1],by rw[HG0.out.fix.B,←HXB.out.2],HG0.out.fix.fl⟩
     have z5:wr.drew.cell? ⟨X,0+5,none⟩=some (.pointer (some ⟨B,0,none⟩)):=by rw[←hxj.1,←hxj.2.1];exact hA.iK
     have z3:wr.drew.cell? ⟨X,0+3,none⟩=some (.slice o4 p.asserts.length c4):=by rw[←hxj.1,cell_of_row wr.drew _ _ _ _ (0,0) hA.xb,←HV.out.2.2.1,←HG0.out.fix.v4];rfl
     have hlm:dj.ps.length=ma.ps.length∧dj.ns.length=ma.ns.length∧dj.ks.length=ma.ks.length:=by rw[←HG0.out.m];unfold aK.m;exact⟨by simp,rfl,rfl⟩
     have hca:=A9 (y8 (SizeOf.sizeOf p.asserts)) p.asserts (Nat.lt_succ_self _) w0 wr.drew Fj [] dj S o4 c4 xa hA HTP.out.1 HTP.out.2.2.1 HAS.out.1 HAS.out.2 (by rw[hlm.1];exact HLL.out.1.1) (by rw[hlm.2.1];exact HLL.out.1.2.1) (by rw[hlm.2.2];exact HLL.out.1.2.2)
     rw[hxj.1,hxj.2.2,HG0.out.m] at hca
     have HCA:=aA hca
     clear hA hxj hca hlm
     go_upto_region 12 with fail
     refine fI 13 (fun w'=>w'.cell? ⟨X,0+5,none⟩=some (.pointer (some ⟨B,0,none⟩))∧w'.cell? ⟨X,0+3,none⟩=some (.slice o4 p.asserts.length c4)) (fun _=>True) (by kernel_rfl) ⟨z5,z3⟩ trivial (fun hh=>?_)
     refine tj 0 67 (.pointer (some ⟨X,0,none⟩)) rfl (by rintro w ⟨b0,b1⟩;go_simp) hh ?_
     refine tj 1 68 (.pointer (some ⟨X,0,none⟩)) rfl (by rintro w ⟨b0,b1⟩;go_simp) hh ?_
     refine tj 2 69 (.pointer (some ⟨X,5,none⟩)) rfl (by rintro w ⟨b0,b1⟩;go_simp) hh ?_
     refine tj 3 70 (.pointer (some ⟨B,0,none⟩)) rfl (by rintro w ⟨b0,b1⟩;go_simp) hh ?_
     refine tj 4 71 (.pointer (some ⟨X,0,none⟩)) rfl (by rintro w ⟨b0,b1⟩;go_simp) hh ?_
     refine tj 5 72 (.pointer (some ⟨X,0,none⟩)) rfl (by rintro w ⟨b0,b1⟩;go_simp) hh ?_
     refine tj 6 73 (.pointer (some ⟨X,0,none⟩)) rfl (by rintro w ⟨b0,b1⟩;go_simp) hh ?_
     refine tj 7 74 (.pointer (some ⟨X,0,none⟩)) rfl (by rintro w ⟨b0,b1⟩;go_simp) hh ?_
     refine tj 8 75 (.pointer (some ⟨X,3,none⟩)) rfl (by rintro w ⟨b0,b1⟩;go_simp) hh ?_
     refine tj 9 76 (.slice o4 p.asserts.length c4) rfl (by rintro w ⟨b0,b1⟩;go_simp) hh ?_
     refine aS 10 (some 77) rfl fun K hK=>?_
     go_simp
     refine HCA.out.mono ?_
     rintro e w2 ⟨hsz2,R,F3,d2,rfl,hrow,hd2,hm2,hP2,hst2⟩
     have HD2:Hid (rT d d2∧d2.fp=(bJ p d.fl).2∧d2.is=List.range p.ins.length∧d2.X=X∧d2.B=B∧d2.va=dj.va∧d2.m=mb.1):=by
      obtain⟨_,_,_,_,_,_,e1⟩:=hd2
      have hf:=HG0.out.fix
      rw[e1]
      refine⟨⟨hf.X,hf.B,hf.Kp,hf.fl,hf.v1,hf.v2,hf.v3,hf.v4,hf.v5,hf.ts,hf.os⟩,HG0.out.fp,HG0.out.is,by show dj.X=X;rw[hf.X,←HXB.out.1],by show dj.B=B;rw[hf.B,←HXB.out.2],rfl,?_⟩
      rw[←e1,hm2,←HMM.out.2.1]
     obtain⟨w3,hwn⟩:∃w3,w3=w2.setCell ⟨B,5,none⟩ (.slice (some ⟨R,0,none⟩) p.asserts.length p.asserts.length):=⟨_,rfl⟩
     obtain⟨d3,hd3⟩:∃d3:aK,d3={ d2 with va:=.slice (some ⟨R,0,none⟩) p.asserts.length p.asserts.length }:=⟨_,rfl⟩
     have htold:aG w0 F3 [] d3 w3∧aJ F3 F3 w2 w3:=by
      rw[hd3,hwn,←HD2.out.2.2.2.2.1]
      exact(hP2.told (.slice (some ⟨R,0,none⟩) p.asserts.length p.asserts.length)).1
     have HG1:Hid (Im w0 p d mb.1 F3 d3 w3∧aB w3 F3 1 d3.va p.asserts.length (aX mb.2)):=by
      have hf:=HD2.out.1
      refine⟨⟨htold.1,?_,?_,?_,?_⟩,?_⟩
      ·rw[hd3];exact⟨hf.X,hf.B,hf.Kp,hf.fl,hf.v1,hf.v2,hf.v3,hf.v4,hf.v5,hf.ts,hf.os⟩
      ·rw[hd3];exact HD2.out.2.2.2.2.2.2
      ·rw[hd3];exact HD2.out.2.1
      ·rw[hd3];exact HD2.out.2.2.1
      ·rw[hd3]
       have h:=hrow.keep htold.2
       rw[←HMM.out.2.1] at h
       exact h
     have hx5:∀W,aG w0 F3 [] d2 W→W.cell? ⟨X,0+5,none⟩=some (.pointer (some ⟨B,0,none⟩))∧W.cell? ⟨X,0+3,none⟩=some (.slice o4 p.asserts.length c4):=fun W hW=>by
      refine⟨by rw[←HD2.out.2.2.2.1,←HD2.out.2.2.2.2.1];exact hW.iK,?_⟩
      rw[←HD2.out.2.2.2.1,cell_of_row W _ _ _ _ (0,0) hW.xb,←HV.out.2.2.1,←HD2.out.1.v4];rfl
     have HZ2:Hid (w2.cell? ⟨X,0+5,none⟩=some (.pointer (some ⟨B,0,none⟩))∧w2.cell? ⟨X,0+3,none⟩=some (.slice o4 p.asserts.length c4)):=hx5 _ hP2
     have hXB2:X≠B:=fun e=>hP2.ne (i:=0) (j:=1) (by decide) rfl rfl (q:=d2.X) rfl (by rw[HD2.out.2.2.2.1,e,←HD2.out.2.2.2.2.1];rfl)
     have HZ3:Hid (w3.cell? ⟨X,0+5,none⟩=some (.pointer (some ⟨B,0,none⟩))∧w3.cell? ⟨X,0+3,none⟩=some (.slice o4 p.asserts.length c4)):=by
      have hk:∀k v,w2.cell? ⟨X,k,none⟩=some v→w3.cell? ⟨X,k,none⟩=some v:=fun k v h=>by
       have e:w3.heap[X]?=w2.heap[X]?:=by rw[hwn];exact Below.heap_setCell w2 ⟨B,5,none⟩ _ X hXB2
       rw[World.cell?_of_block (w:=w2) e];exact h
      exact⟨hk _ _ HZ2.out.1,hk _ _ HZ2.out.2⟩
     have HWN:Hid (w2.setCell ⟨B,5,none⟩ (.slice (some ⟨R,0,none⟩) p.asserts.length p.asserts.length)=w3):=hwn.symm
     have bcx:∃v,w2.cell? ⟨B,0+5,none⟩=some v:=⟨_,by rw[←HD2.out.2.2.2.2.1,cell_of_row w2 _ _ _ _ (0,0) hP2.bb];rfl⟩
     obtain⟨vx,bc⟩:=bcx
     have fz:w2.frozen? ⟨B,0+5,none⟩=false:=by rw[←HD2.out.2.2.2.2.1];exact bR hP2.bb
     clear hd2 hm2 hP2 hst2 hsz2 hrow hwn htold hd3 hx5 hXB2
     go_wp2_with fail
     refine hK.out _ _ ⟨HZ2.out,fun _=>trivial⟩ (fun hh=>?_)
     clear hK K
     try simp only[tp]
     refine tk 11 78 (.pointer (some ⟨B,0,none⟩)) rfl (.inl ⟨by rfl,?_⟩) hh ?_
     ·intro w hSw;(try dsimp only at hSw);go_simp
     try simp only[tp]
     refine tk 12 79 (.pointer (some ⟨B,5,none⟩)) rfl (.inl ⟨by rfl,?_⟩) hh ?_
     ·intro w hSw;(try dsimp only at hSw);go_simp
     try simp only[tp]
     refine aS 13 none rfl fun K hK=>?_
     go_simp
     rw[HWN.out]
     refine hK.out _ _ (Till.last HZ3.out) (fun hh=>?_)
     clear hK K
     try simp only[tp]
     refine dU (by kernel_rfl) ?_ _
     clear z5 z3 bc fz hh HCA HZ2 HZ3 HWN HD2
     have hA:=HG1.out.1.pl.keep (Below.refl _ _).drew
     have hxj:d3.X=X∧d3.B=B∧d3.fl=d.fl:=⟨by rw[HG1.out.1.fix.X,←HXB.out.1],by rw[HG1.out.1.fix.B,←HXB.out.2],HG1.out.1.fix.fl⟩
     have z5:w3.drew.cell? ⟨X,0+5,none⟩=some (.pointer (some ⟨B,0,none⟩)):=by rw[←hxj.1,←hxj.2.1];exact hA.iK
     have z3:w3.drew.cell? ⟨X,0+4,none⟩=some (.slice o5 p.checks.length c5):=by rw[←hxj.1,cell_of_row w3.drew _ _ _ _ (0,0) hA.xb,←HV.out.2.2.2,←HG1.out.1.fix.v5];rfl
     have hlm:d3.ps.length=mb.1.ps.length∧d3.ns.length=mb.1.ns.length∧d3.ks.length=mb.1.ks.length:=by rw[←HG1.out.1.m];unfold aK.m;exact⟨by simp,rfl,rfl⟩
     have hca:=A9 (y8 (SizeOf.sizeOf p.checks)) p.checks (Nat.lt_succ_self _) w0 w3.drew F3 [] d3 S o5 c5 xc hA HTP.out.2.1 HTP.out.2.2.2.1 HCS.out.1 HCS.out.2 (by rw[hlm.1];exact HLL.out.2.1) (by rw[hlm.2.1];exact HLL.out.2.2.1) (by rw[hlm.2.2];exact HLL.out.2.2.2)
     rw[hxj.1,hxj.2.2,HG1.out.1.m] at hca
     have HCA:=aA hca
     clear hA hxj hca hlm
     go_upto_region 13 with fail
     refine fI 13 (fun w'=>w'.cell? ⟨X,0+5,none⟩=some (.pointer (some ⟨B,0,none⟩))∧w'.cell? ⟨X,0+4,none⟩=some (.slice o5 p.checks.length c5)) (fun _=>True) (by kernel_rfl) ⟨z5,z3⟩ trivial (fun hh=>?_)
     refine tj 0 80 (.pointer (some ⟨X,0,none⟩)) rfl (by rintro w ⟨b0,b1⟩;go_simp) hh ?_
     refine tj 1 81 (.pointer (some ⟨X,0,none⟩)) rfl (by rintro w ⟨b0,b1⟩;go_simp) hh ?_
     refine tj 2 82 (.pointer (some ⟨X,5,none⟩)) rfl (by rintro w ⟨b0,b1⟩;go_simp) hh ?_
     refine tj 3 83 (.pointer (some ⟨B,0,none⟩)) rfl (by rintro w ⟨b0,b1⟩;go_simp) hh ?_
     refine tj 4 84 (.pointer (some ⟨X,0,none⟩)) rfl (by rintro w ⟨b0,b1⟩;go_simp) hh ?_
     refine tj 5 85 (.pointer (some ⟨X,0,none⟩)) rfl (by rintro w ⟨b0,b1⟩;go_simp) hh ?_
     refine tj 6 86 (.pointer (some ⟨X,0,none⟩)) rfl (by rintro w ⟨b0,b1⟩;go_simp) hh ?_
     refine tj 7 87 (.pointer (some ⟨X,0,none⟩)) rfl (by rintro w ⟨b0,b1⟩;go_simp) hh ?_
     refine tj 8 88 (.pointer (some ⟨X,4,none⟩)) rfl (by rintro w ⟨b0,b1⟩;go_simp) hh ?_
     refine tj 9 89 (.slice o5 p.checks.length c5) rfl (by rintro w ⟨b0,b1⟩;go_simp) hh ?_
     refine aS 10 (some 90) rfl fun K hK=>?_
     go_simp
     refine HCA.out.mono ?_
     rintro e w2 ⟨hsz2,R,F5,d2,rfl,hrow,hd2,hm2,hP2,hst2⟩
     have HD2:Hid (rT d d2∧d2.fp=(bJ p d.fl).2∧d2.is=List.range p.ins.length∧d2.X=X∧d2.B=B∧d2.va=d3.va∧d2.m=mc.1):=by
      obtain⟨_,_,_,_,_,_,e1⟩:=hd2
      have hf:=HG1.out.1.fix
      rw[e1]
      refine⟨⟨hf.X,hf.B,hf.Kp,hf.fl,hf.v1,hf.v2,hf.v3,hf.v4,hf.v5,hf.ts,hf.os⟩,HG1.out.1.fp,HG1.out.1.is,by show d3.X=X;rw[hf.X,←HXB.out.1],by show d3.B=B;rw[hf.B,←HXB.out.2],rfl,?_⟩
      rw[←e1,hm2,←HMM.out.2.2]
     obtain⟨w5,hwn⟩:∃w5,w5=w2.setCell ⟨B,6,none⟩ (.slice (some ⟨R,0,none⟩) p.checks.length p.checks.length):=⟨_,rfl⟩
     obtain⟨d5,hd3⟩:∃d5:aK,d5={ d2 with vc:=.slice (some ⟨R,0,none⟩) p.checks.length p.checks.length }:=⟨_,rfl⟩
     have htold:aG w0 F5 [] d5 w5∧aJ F5 F5 w2 w5:=by
      rw[hd3,hwn,←HD2.out.2.2.2.2.1]
      exact(hP2.told (.slice (some ⟨R,0,none⟩) p.checks.length p.checks.length)).2
     have HE:Hid (Io w0 p d F5 d5 w5):=by
      have hf:=HD2.out.1
      refine⟨htold.1,?_,?_,?_,?_,?_,?_⟩
      ·rw[hd3];exact⟨hf.X,hf.B,hf.Kp,hf.fl,hf.v1,hf.v2,hf.v3,hf.v4,hf.v5,hf.ts,hf.os⟩
      ·rw[hd3,←HMM.out.1,←HMM.out.2.1,←HMM.out.2.2];exact HD2.out.2.2.2.2.2.2
      ·rw[hd3];exact HD2.out.2.1
      ·rw[hd3];exact HD2.out.2.2.1
      ·rw[hd3,←HMM.out.1,←HMM.out.2.1]
       have h:=((HG1.out.2.keep (w':=w3.drew) (S':=F3) (fun b hF _=>⟨hF,rfl⟩)).keep hst2).keep htold.2
       have e:d2.va=d3.va:=HD2.out.2.2.2.2.2.1
       rw[←e] at h
       exact h
      ·rw[hd3,←HMM.out.1,←HMM.out.2.1]
       have h:=hrow.keep htold.2
       exact h
     have hx5:∀W,aG w0 F5 [] d2 W→W.cell? ⟨X,0+5,none⟩=some (.pointer (some ⟨B,0,none⟩))∧W.cell? ⟨X,0+4,none⟩=some (.slice o5 p.checks.length c5):=fun W hW=>by
      refine⟨by rw[←HD2.out.2.2.2.1,←HD2.out.2.2.2.2.1];exact hW.iK,?_⟩
      rw[←HD2.out.2.2.2.1,cell_of_row W _ _ _ _ (0,0) hW.xb,←HV.out.2.2.2,←HD2.out.1.v5];rfl
     have HZ2:Hid (w2.cell? ⟨X,0+5,none⟩=some (.pointer (some ⟨B,0,none⟩))∧w2.cell? ⟨X,0+4,none⟩=some (.slice o5 p.checks.length c5)):=hx5 _ hP2
     have hXB2:X≠B:=fun e=>hP2.ne (i:=0) (j:=1) (by decide) rfl rfl (q:=d2.X) rfl (by rw[HD2.out.2.2.2.1,e,←HD2.out.2.2.2.2.1];rfl)
     have HZ3:Hid (w5.cell? ⟨X,0+5,none⟩=some (.pointer (some ⟨B,0,none⟩))∧w5.cell? ⟨X,0+4,none⟩=some (.slice o5 p.checks.length c5)):=by
      have hk:∀k v,w2.cell? ⟨X,k,none⟩=some v→w5.cell? ⟨X,k,none⟩=some v:=fun k v h=>by
       have e:w5.heap[X]?=w2.heap[X]?:=by rw[hwn];exact Below.heap_setCell w2 ⟨B,6,none⟩ _ X hXB2
       rw[World.cell?_of_block (w:=w2) e];exact h
      exact⟨hk _ _ HZ2.out.1,hk _ _ HZ2.out.2⟩
     have HWN:Hid (w2.setCell ⟨B,6,none⟩ (.slice (some ⟨R,0,none⟩) p.checks.length p.checks.length)=w5):=hwn.symm
     have bcx:∃v,w2.cell? ⟨B,0+6,none⟩=some v:=⟨_,by rw[←HD2.out.2.2.2.2.1,cell_of_row w2 _ _ _ _ (0,0) hP2.bb];rfl⟩
     obtain⟨vx,bc⟩:=bcx
     have fz:w2.frozen? ⟨B,0+6,none⟩=false:=by rw[←HD2.out.2.2.2.2.1];exact bR hP2.bb
     clear hd2 hm2 hP2 hst2 hsz2 hrow hwn htold hd3 hx5 hXB2
     go_wp2_with fail
     refine hK.out _ _ ⟨HZ2.out,fun _=>trivial⟩ (fun hh=>?_)
     clear hK K
     try simp only[tp]
     refine tk 11 91 (.pointer (some ⟨B,0,none⟩)) rfl (.inl ⟨by rfl,?_⟩) hh ?_
     ·intro w hSw;(try dsimp only at hSw);go_simp
     try simp only[tp]
     refine tk 12 92 (.pointer (some ⟨B,6,none⟩)) rfl (.inl ⟨by rfl,?_⟩) hh ?_
     ·intro w hSw;(try dsimp only at hSw);go_simp
     try simp only[tp]
     refine aS 13 none rfl fun K hK=>?_
     go_simp
     rw[HWN.out]
     refine hK.out _ _ (Till.last HZ3.out) (fun hh=>?_)
     clear hK K
     try simp only[tp]
     refine dU (by kernel_rfl) ?_ _
     clear z5 z3 bc fz hh HCA HZ2 HZ3 HWN HD2
     go_end0
     exact⟨rfl,F5,d5,HE.out⟩
end Go.Proofs.YtmgfakcccfahaaaGreatDoor
