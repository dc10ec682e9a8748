/-
  package plan: term BY CONTRACT.
-/
import Derived.Test.YtmgfakcccfahaaaGreatDoorN26
namespace Go.Proofs.YtmgfakcccfahaaaGreatDoor
open Go.RowKit Go.Maps
set_option maxRecDepth 100000
set_option maxHeartbeats 4000000

def eO(op:ByteArray)(n:Int)(s:ByteArray)(o:Option Addr)(k c:Nat):Obj:=.cells #[.string op,.int .i64 n,.string s,.slice o k c] 92 (0,0)
def pO(op:ByteArray)(n:Int)(R k:Nat)(mem:Int)(late:Bool):Obj:=.cells #[.string op,.int .i64 n,.slice (some ⟨R,0,none⟩) k k,.int .i64 mem,.int .i64 0,.bool late] 185 (0,0)
theorem aG.push{w0 w:World}{F:Nat→Prop}{ex:List Own}{d:aK}(h:aG w0 F ex d w)(a:Array Value)(t:TypeId):aG w0 F (aP w.heap.size (.cells a t (0,0))::ex) d (w.alloc (.cells a t)):=by
 have hb:Bw w (w.alloc (.cells a t)):=aH
 exact⟨h.sep.alloc a t,h.aF.keep (jZ hb),h.below.trans (hb.mono h.below.size)⟩
theorem aG.pop{w0 w:World}{F:Nat→Prop}{ex:List Own}{d:aK}{c:Own}(h:aG w0 F (c::ex) d w):aG w0 F ex d w:=⟨Sep.drop (l1:=d.own w0.heap.size) h.sep,h.aF,h.below⟩
theorem aG.top{w0 w:World}{F:Nat→Prop}{ex:List Own}{d:aK}{b:Nat}{o:Obj}(h:aG w0 F (aP b o::ex) d w):w.heap[b]?=some o:=h.sep.is 10 _ rfl
theorem aG.p9{w0 w:World}{F:Nat→Prop}{ex:List Own}{d:aK}{b:Nat}{o:Obj}{c:Own}(h:aG w0 F (c::aP b o::ex) d w):w.heap[b]?=some o:=h.sep.is 11 _ rfl
theorem aG.rU{w0 w:World}{F:Nat→Prop}{ex:List Own}{d:aK}{b:Nat}{a:Array Value}{t:TypeId}(h:aG w0 F (aP b (.cells a t (0,0))::ex) d w)(k:Nat)(v:Value):aG w0 F (aP b (.cells (a.setIfInBounds k v) t (0,0))::ex) d (w.setCell ⟨b,k,none⟩ v)∧aJ F F w (w.setCell ⟨b,k,none⟩ v):=by
 have hs:=h.sep.set (i:=10) (b:=b) rfl k v
 have hst:=h.sep.stays (i:=10) (c:=aP b (.cells a t (0,0))) rfl (bW w b k v)
 exact⟨⟨hs,h.aF.keep hst,h.sep.below (i:=10) (c:=aP b (.cells a t (0,0))) rfl (bW w b k v) h.below⟩,hst⟩
theorem aK.eta(d:aK):{ d with vk:=d.vk,ks:=d.ks }=d:=rfl
def pZ:Array Value:=#[.string ⟨#[]⟩,.int .i64 0,.slice none 0 0,.int .i64 0,.int .i64 0,.bool false]
theorem aG.JZ{w0 w:World}{F:Nat→Prop}{ex:List Own}{d:aK}{q:Nat}(h:aG w0 F (aP q (.cells pZ 185 (0,0))::ex) d w)(v0 v1 v2 v3 v4 v5:Value):aG w0 F (aP q (.cells #[v0,v1,v2,v3,v4,v5] 185 (0,0))::ex) d ((((((w.setCell ⟨q,0,none⟩ v0).setCell ⟨q,1,none⟩ v1).setCell ⟨q,2,none⟩ v2).setCell ⟨q,3,none⟩ v3).setCell ⟨q,4,none⟩ v4).setCell ⟨q,5,none⟩ v5)∧aJ F F w ((((((w.setCell ⟨q,0,none⟩ v0).setCell ⟨q,1,none⟩ v1).setCell ⟨q,2,none⟩ v2).setCell ⟨q,3,none⟩ v3).setCell ⟨q,4,none⟩ v4).setCell ⟨q,5,none⟩ v5):=by
 obtain⟨h0,s0⟩:=h.rU 0 v0
 obtain⟨h1,s1⟩:=h0.rU 1 v1
 obtain⟨h2,s2⟩:=h1.rU 2 v2
 obtain⟨h3,s3⟩:=h2.rU 3 v3
 obtain⟨h4,s4⟩:=h3.rU 4 v4
 obtain⟨h5,s5⟩:=h4.rU 5 v5
 refine⟨h5,?_⟩
 have e:∀(w:World) (k:Nat) (v:Value),w.heap.size≤(w.setCell ⟨q,k,none⟩ v).heap.size:=fun w k v=>by rw[size_setCell];exact Nat.le_refl _
 exact((((s0.trans s1 (e _ _ _)).trans s2 (Nat.le_trans (e _ _ _) (e _ _ _))).trans s3 (by simp only[size_setCell];exact Nat.le_refl _)).trans s4 (by simp only[size_setCell];exact Nat.le_refl _)).trans s5 (by simp only[size_setCell];exact Nat.le_refl _)
theorem Af(l:List Nat)(x:Nat):aX (l++[x])=aX l++[.int .i64 (x:Int)]:=by unfold aX;rw[yC,List.map_append];rfl
theorem aK.L6(d:aK)(base:Nat)(ex:List Own)(x:Nat)(v:Value):((d.own base++ex).set 8 (dH base 3 1 v (d.ks.length+1) (aX d.ks++[.int .i64 (x:Int)]))).set 1 (aP d.B (.cells (#[d.vp,d.vi,d.vt,d.vk,d.vo,d.va,d.vc].setIfInBounds 3 v) 183 (0,0)))={ d with vk:=v,ks:=d.ks++[x] }.own base++ex:=by
 simp only[aK.own,List.length_append,List.length_singleton,Af]
 rfl
theorem aG.FP{w0 w:World}{F:Nat→Prop}{ex:List Own}{d:aK}(h:aG w0 F ex d w):w.ownsRow w0.heap.size 3 1 d.vk d.ks.length (aX d.ks):=h.sep.is 8 _ rfl
theorem aG.kept{w0 w w':World}{F:Nat→Prop}{ex:List Own}{d:aK}(h:aG w0 F ex d w){x g cap:Nat}(ho:w'.ownsRow w0.heap.size 3 1 (.slice (some ⟨g,0,none⟩) (d.ks.length+1) cap) (d.ks.length+1) (aX d.ks++[.int .i64 (x:Int)]))(hg:w.grownBy w' d.vk.ownBlock)(ha:d.vk.ownBlock=some g∨g=w.heap.size):aG w0 F ex { d with vk:=.slice (some ⟨g,0,none⟩) (d.ks.length+1) cap,ks:=d.ks++[x] } (w'.setCell ⟨d.B,3,none⟩ (.slice (some ⟨g,0,none⟩) (d.ks.length+1) cap))∧aJ F F w (w'.setCell ⟨d.B,3,none⟩ (.slice (some ⟨g,0,none⟩) (d.ks.length+1) cap))∧w.heap.size≤(w'.setCell ⟨d.B,3,none⟩ (.slice (some ⟨g,0,none⟩) (d.ks.length+1) cap)).heap.size:=by
 have h4:=h.sep.grow (i:=8) rfl ho hg ha
 have h5:=h4.set (i:=1) (b:=d.B) rfl 3 (.slice (some ⟨g,0,none⟩) (d.ks.length+1) cap)
 rw[aK.L6] at h5
 have hs1:=h.sep.stays (i:=8) rfl hg
 have hs2:=h4.stays (i:=1) (c:=aP d.B d.bo) rfl (bW w' d.B 3 (.slice (some ⟨g,0,none⟩) (d.ks.length+1) cap))
 exact⟨⟨h5,(h.aF.keep hs1).keep hs2,h4.below (i:=1) (c:=aP d.B d.bo) rfl (bW w' d.B 3 _) (h.sep.below (i:=8) rfl hg h.below)⟩,hs1.trans hs2 hg.size,by rw[size_setCell];exact hg.size⟩
theorem JQ{m:Nat}(IH:yL m):yL (m+1):=by
 intro op n s l hm w0 w F ex d S o c ys h hsm har hrow hex hz1 hz2 hz3
 unfold fJ at hsm
 have harL:eT l:=by unfold fA at har;exact har.2.2.2.2
 have har1:op.data.toList=fV∨op.data.toList=bQ→0<l.length:=by
  unfold fA at har
  rintro(e | e)
  ·have:=har.2.2.1 e;omega
  ·have:=har.2.2.2.1 e;omega
 have har2:op.data.toList=dD∨op.data.toList=bQ→0<l.length:=by
  unfold fA at har
  rintro(e | e)
  ·have:=har.2.1 e;omega
  ·have:=har.2.2.2.1 e;omega
 have hszl:aL (.mk op n s l)=aC l+1:=by unfold aL;rfl
 have hll:l.length≤50000:=by have:=tZ l;omega
 obtain⟨E0,hE0⟩:∃E0,E0=w.heap.size:=⟨_,rfl⟩
 obtain⟨w1,hw1⟩:∃w1,w1=w.alloc (.cells #[.string op,.int .i64 n,.string s,.slice o l.length c] 92):=⟨_,rfl⟩
 have hP1:aG w0 F (aP E0 (eO op n s o l.length c)::ex) d w1:=by rw[hw1,hE0];exact h.push _ _
 have hb1:Bw w w1:=by rw[hw1];exact aH
 have c3:w1.cell? ⟨E0,0+3,none⟩=some (.slice o l.length c):=cr hP1.top rfl
 have HTS:Hid (Calls Tryz.prog 179 #[.pointer (some ⟨d.X,0,none⟩),.slice o l.length c] w1 fun e w'=>w1.heap.size≤w'.heap.size∧∃R F' d',e=.returned (.slice (some ⟨R,0,none⟩) l.length l.length)∧aB w' F' 1 (.slice (some ⟨R,0,none⟩) l.length l.length) l.length (aX (aZ d.fl l d.m).2)∧mW w0 F (aP E0 (eO op n s o l.length c)::ex) d (aZ d.fl l d.m).1 w1 w' F' d'):=A9 IH l hm w0 w1 F _ d S o c ys hP1 hsm.2.2 harL hrow hex (by omega) (by omega) (by omega)
 have HW1:Hid (w.alloc (.cells #[.string op,.int .i64 n,.string s,.slice o l.length c] 92)=w1∧w.heap.size=E0):=⟨hw1.symm,hE0.symm⟩
 have HB1:=aA hb1
 have HAR:Hid ((op.data.toList=fV∨op.data.toList=bQ→0<l.length)∧(op.data.toList=dD∨op.data.toList=bQ→0<l.length)):=⟨har1,har2⟩
 have HSS:Hid (s.size≤maxLen):=hsm.2.1
 have HSZ:Hid (d.ps.length+aC l+1≤50000∧d.ns.length+aC l+1≤50000∧d.ks.length+aC l+1≤50000∧l.length≤50000):=by unfold Hid;omega
 clear h hsm har harL har1 har2 hrow hex hz1 hz2 hz3 hszl hll hE0 hw1 hP1 hb1 hm IH
 go_enter Tryz.func178,Tryz.ntmps178
 go_upto_region 1 with fail
 rw[HW1.out.1,HW1.out.2]
 go_wp2_with fail
 refine HTS.out.mono ?_
 rintro e w2 ⟨hsz2,R,F1,d1,rfl,hrw,hd1,hm1,hP2,hS2⟩
 have hdX:d1.X=d.X∧d1.fl=d.fl:=by obtain⟨_,_,_,_,_,_,rfl⟩:=hd1;exact⟨rfl,rfl⟩
 have hlen:=qF d.fl l d.m
 obtain⟨aF,hofs⟩:∃aF,aF=(aZ d.fl l d.m).2:=⟨_,rfl⟩
 obtain⟨m1,hm1'⟩:∃m1,m1=(aZ d.fl l d.m).1:=⟨_,rfl⟩
 rw[←hofs] at hrw hlen
 rw[←hm1'] at hm1 hlen
 have hmp:d1.ps.length=m1.ps.length∧d1.ns.length=m1.ns.length∧d1.ks.length=m1.ks.length:=by
  rw[←hm1];unfold aK.m;exact⟨by simp,rfl,rfl⟩
 have hdm:d.m.ps.length=d.ps.length∧d.m.ns.length=d.ns.length∧d.m.ks.length=d.ks.length:=by unfold aK.m;exact⟨by simp,rfl,rfl⟩
 have hin:∀k∈aF,k<d1.ps.length:=fun k hk=>by rw[hmp.1];exact hlen.2.2.2.2 k hk
 have HIL:Hid (∀W,aG w0 F1 (aP E0 (eO op n s o l.length c)::ex) d1 W→aJ F1 F1 w2 W→Calls Tryz.prog 186 #[.pointer (some ⟨d.X,0,none⟩),.agg #[.string op,.int .i64 n,.string s,.slice o l.length c],.slice (some ⟨R,0,none⟩) l.length l.length] W fun e w'=>e=.returned (.bool (rG d.fl m1.ps op s aF))∧Bw W w'):=fun W hPW hSW=>by
  have hrw':=hrw.keep hSW
  have hol:aF.length=l.length:=hlen.2.2.2.1
  have:=Oy hPW op s n (some ⟨R,0,none⟩) l.length l.length o c aF HSS.out (by rw[hol];exact hrw') (by rw[hol];have:=HSZ.out;omega) hin (fun e=>by rw[hol];exact HAR.out.1 e)
  rw[Ox,hdX.1,hdX.2,hm1,hol] at this
  exact this
 obtain⟨lb,hlb⟩:∃lb,lb=rG d.fl m1.ps op s aF:=⟨_,rfl⟩
 rw[←hlb] at HIL
 have HX2:Hid (aG w0 F1 (aP E0 (eO op n s o l.length c)::ex) d1 w2∧w1.heap.size≤w2.heap.size∧aJ F F1 w1 w2):=⟨hP2,hsz2,hS2⟩
 have HD1:Hid (∃vp vn vk ps ns ks,d1={ d with vp:=vp,vn:=vn,vk:=vk,ps:=ps,ns:=ns,ks:=ks }):=hd1
 have HRW:=aA hrw
 have HMM:Hid (d1.m=m1∧(aZ d.fl l d.m).1=m1∧(aZ d.fl l d.m).2=aF∧lb=rG d.fl m1.ps op s aF∧aF.length=l.length):=⟨hm1,hm1'.symm,hofs.symm,hlb,hlen.2.2.2.1⟩
 have HLN:Hid (d1.ps.length≤50000∧d1.ns.length≤50000∧d1.ks.length≤50000):=by have:=HSZ.out;unfold Hid;omega
 have HDX:Hid (d1.X=d.X∧d1.fl=d.fl∧d1.B=d.B):=⟨hdX.1,hdX.2,by obtain⟨_,_,_,_,_,_,rfl⟩:=hd1;rfl⟩
 clear hsz2 hrw hd1 hm1 hP2 hS2 hdX hlen hofs hm1' hmp hdm hin hlb HTS c3
 have HEC:Hid (∀{W:World},W.heap[E0]?=some (eO op n s o l.length c)→W.cell? ⟨E0,0,none⟩=some (.string op)∧W.cell? ⟨E0,0+1,none⟩=some (.int .i64 n)∧W.cell? ⟨E0,0+2,none⟩=some (.string s)∧W.cell? ⟨E0,0+3,none⟩=some (.slice o l.length c)):=fun {W} hr=>by
  refine⟨?_,?_,?_,?_⟩<;>(rw[cell_of_row W _ _ _ _ (0,0) hr];rfl)
 obtain⟨a0,a1,a2,a3⟩:=HEC.out (show w2.drew.heap[E0]?=_ from HX2.out.1.top)
 go_upto_region 2 with fail
 go_cut [6] (fun t wc=>∃q,t=.pointer (some ⟨q,0,none⟩)∧Hid (aG w0 F1 (aP q (pO op n R l.length 0 lb)::aP E0 (eO op n s o l.length c)::ex) d1 wc∧aJ F1 F1 w2 wc∧w2.heap.size≤wc.heap.size))
 case first=>
  refine fI 11 (fun w'=>w'.cell? ⟨E0,0,none⟩=some (.string op)∧w'.cell? ⟨E0,0+1,none⟩=some (.int .i64 n)∧w'.cell? ⟨E0,0+2,none⟩=some (.string s)∧w'.cell? ⟨E0,0+3,none⟩=some (.slice o l.length c)) (fun _=>True) (by kernel_rfl) ⟨a0,a1,a2,a3⟩ trivial (fun hh=>?_)
  refine tj 0 11 (.pointer (some ⟨E0,0,none⟩)) rfl (by rintro w ⟨b0,b1,b2,b3⟩;go_simp) hh ?_
  refine tj 1 12 (.string op) rfl (by rintro w ⟨b0,b1,b2,b3⟩;go_simp) hh ?_
  refine tj 2 13 (.pointer (some ⟨E0,1,none⟩)) rfl (by rintro w ⟨b0,b1,b2,b3⟩;go_simp) hh ?_
  refine tj 3 14 (.int .i64 n) rfl (by rintro w ⟨b0,b1,b2,b3⟩;go_simp) hh ?_
  refine tj 4 15 (.slice (some ⟨R,0,none⟩) l.length l.length) rfl (by rintro w ⟨b0,b1,b2,b3⟩;go_simp) hh ?_
  refine tj 5 16 (.pointer (some ⟨d.X,0,none⟩)) rfl (by rintro w ⟨b0,b1,b2,b3⟩;go_simp) hh ?_
  refine tj 6 17 (.agg #[.string op,.int .i64 n,.string s,.slice o l.length c]) rfl (by rintro w ⟨b0,b1,b2,b3⟩;go_simp) hh ?_
  refine tj 7 18 (.slice (some ⟨R,0,none⟩) l.length l.length) rfl (by rintro w ⟨b0,b1,b2,b3⟩;go_simp) hh ?_
  refine qU (rs:=[8,10]) (by kernel_rfl) (by simp) ?_
  refine gD.cons (o:=⟨some 19,_,_,_,_,_⟩) rfl (fun K hK=>?_) (gD.cons (o:=⟨some 6,_,_,_,_,_⟩) rfl (fun K hK=>?_) gD.nil)
  ·go_simp
   refine(HIL.out w2.drew (HX2.out.1.keep (Below.refl _ _).drew) (jZ (Below.refl _ _).drew)).mono ?_
   rintro e w3 ⟨rfl,hb3⟩
   have HP3:Hid (aG w0 F1 (aP E0 (eO op n s o l.length c)::ex) d1 w3∧aJ F1 F1 w2 w3∧w2.heap.size≤w3.heap.size):=⟨(HX2.out.1.keep (Below.refl _ _).drew).keep hb3,fun b hF hl=>⟨hF,hb3.block b hl⟩,hb3.size⟩
   clear hb3
   go_wp2_with fail
   refine hK.out _ _ ⟨HEC.out HP3.out.1.top,fun _=>trivial⟩ (fun hh=>?_)
   clear hK K
   try simp only[tp]
   refine tj 9 20 (.agg #[.string op,.int .i64 n,.slice (some ⟨R,0,none⟩) l.length l.length,.int .i64 0,.int .i64 0,.bool lb]) rfl (by rintro w ⟨b0,b1,b2,b3⟩;go_simp) hh ?_
   refine aS 10 (some 6) rfl fun K hK=>?_
   go_simp
   have hPz:=HP3.out.1.push pZ 185
   refine hK.out _ _ ⟨HEC.out hPz.p9,fun _=>trivial⟩ (fun hh=>?_)
   clear hK K
   try simp only[tp]
   refine aS 11 none rfl fun K hK=>?_
   go_simp
   have hPn:=HP3.out.1.push #[.string op,.int .i64 n,.slice (some ⟨R,0,none⟩) l.length l.length,.int .i64 0,.int .i64 0,.bool lb] 185
   refine hK.out _ _ (Till.last (HEC.out hPn.p9)) (fun hh=>?_)
   clear hK K
   try simp only[tp]
   refine dU (by kernel_rfl) ?_ _
   have HFIN:Hid (aG w0 F1 (aP w3.heap.size (pO op n R l.length 0 lb)::aP E0 (eO op n s o l.length c)::ex) d1 (w3.alloc (.cells #[.string op,.int .i64 n,.slice (some ⟨R,0,none⟩) l.length l.length,.int .i64 0,.int .i64 0,.bool lb] 185))∧aJ F1 F1 w2 (w3.alloc (.cells #[.string op,.int .i64 n,.slice (some ⟨R,0,none⟩) l.length l.length,.int .i64 0,.int .i64 0,.bool lb] 185))∧w2.heap.size≤(w3.alloc (.cells #[.string op,.int .i64 n,.slice (some ⟨R,0,none⟩) l.length l.length,.int .i64 0,.int .i64 0,.bool lb] 185)).heap.size):=⟨hPn,HP3.out.2.1.trans (jZ (aH)) HP3.out.2.2,by have:=HP3.out.2.2;simp;omega⟩
   clear hPz hPn hh
   go_wp2_with fail
   go_meet
   case rel=>exact⟨w3.heap.size,rfl,HFIN.out⟩
  ·go_simp
   obtain⟨wz,hwz⟩:∃wz,wz=(w2.alloc (.cells #[.string ⟨#[]⟩,.int .i64 0,.slice none 0 0,.int .i64 0,.int .i64 0,.bool false] 185)).drew:=⟨_,rfl⟩
   obtain⟨q,hq⟩:∃q,q=w2.heap.size:=⟨_,rfl⟩
   have HPZ:Hid (aG w0 F1 (aP q (.cells pZ 185 (0,0))::aP E0 (eO op n s o l.length c)::ex) d1 wz):=by rw[hwz,hq];exact(HX2.out.1.push pZ 185).keep (Below.refl _ _).drew
   have hbz:Bw w2 wz:=by rw[hwz];exact(aH).drew
   rw[←hwz,←hq]
   have HBZ:=aA hbz
   refine hK.out _ _ ⟨HEC.out HPZ.out.p9,fun _=>trivial⟩ (fun hh=>?_)
   clear hK K hwz hq hbz
   try simp only[tp]
   refine aS 8 (some 19) rfl fun K hK=>?_
   go_simp
   refine(HIL.out wz (HX2.out.1.keep HBZ.out) (jZ HBZ.out)).mono ?_
   rintro e w3 ⟨rfl,hb3⟩
   have HP3:Hid (aG w0 F1 (aP q (.cells pZ 185 (0,0))::aP E0 (eO op n s o l.length c)::ex) d1 w3∧aJ F1 F1 w2 w3∧w2.heap.size≤w3.heap.size):=⟨HPZ.out.keep hb3,(jZ HBZ.out).trans (jZ hb3) HBZ.out.size,Nat.le_trans HBZ.out.size hb3.size⟩
   clear hb3
   go_wp2_with fail
   refine hK.out _ _ ⟨HEC.out HP3.out.1.p9,fun _=>trivial⟩ (fun hh=>?_)
   clear hK K
   try simp only[tp]
   refine tj 9 20 (.agg #[.string op,.int .i64 n,.slice (some ⟨R,0,none⟩) l.length l.length,.int .i64 0,.int .i64 0,.bool lb]) rfl (by rintro w ⟨b0,b1,b2,b3⟩;go_simp) hh ?_
   refine aS 11 none rfl fun K hK=>?_
   have hrq:w3.heap[q]?=some (.cells #[.string ⟨#[]⟩,.int .i64 0,.slice none 0 0,.int .i64 0,.int .i64 0,.bool false] 185 (0,0)):=HP3.out.1.top
   have u0:w3.cell? ⟨q,0,none⟩=some (.string ⟨#[]⟩):=cr hrq rfl
   have u1:w3.cell? ⟨q,0+1,none⟩=some (.int .i64 0):=cr hrq rfl
   have u2:w3.cell? ⟨q,0+2,none⟩=some (.slice none 0 0):=cr hrq rfl
   have u3:w3.cell? ⟨q,0+3,none⟩=some (.int .i64 0):=cr hrq rfl
   have u4:w3.cell? ⟨q,0+4,none⟩=some (.int .i64 0):=cr hrq rfl
   have u5:w3.cell? ⟨q,0+5,none⟩=some (.bool false):=cr hrq rfl
   have g0:w3.frozen? ⟨q,0,none⟩=false:=bR hrq
   have g1:w3.frozen? ⟨q,0+1,none⟩=false:=bR hrq
   have g2:w3.frozen? ⟨q,0+2,none⟩=false:=bR hrq
   have g3:w3.frozen? ⟨q,0+3,none⟩=false:=bR hrq
   have g4:w3.frozen? ⟨q,0+4,none⟩=false:=bR hrq
   have g5:w3.frozen? ⟨q,0+5,none⟩=false:=bR hrq
   go_simp
   have hs6:=HP3.out.1.JZ (.string op) (.int .i64 n) (.slice (some ⟨R,0,none⟩) l.length l.length) (.int .i64 0) (.int .i64 0) (.bool lb)
   obtain⟨w8,hw8⟩:∃w8,w8=((((((w3.setCell ⟨q,0,none⟩ (.string op)).setCell ⟨q,1,none⟩ (.int .i64 n)).setCell ⟨q,2,none⟩ (.slice (some ⟨R,0,none⟩) l.length l.length)).setCell ⟨q,3,none⟩ (.int .i64 0)).setCell ⟨q,4,none⟩ (.int .i64 0)).setCell ⟨q,5,none⟩ (.bool lb)):=⟨_,rfl⟩
   have hsz8:w8.heap.size=w3.heap.size:=by rw[hw8];simp only[size_setCell]
   rw[←hw8] at hs6
   rw[←hw8]
   have HFIN:Hid (aG w0 F1 (aP q (pO op n R l.length 0 lb)::aP E0 (eO op n s o l.length c)::ex) d1 w8∧aJ F1 F1 w2 w8∧w2.heap.size≤w8.heap.size):=⟨hs6.1,HP3.out.2.1.trans hs6.2 HP3.out.2.2,by have:=HP3.out.2.2;omega⟩
   refine hK.out _ _ (Till.last (HEC.out hs6.1.p9)) (fun hh=>?_)
   clear hK K
   try simp only[tp]
   refine dU (by kernel_rfl) ?_ _
   clear hs6 hw8 hsz8 hrq u0 u1 u2 u3 u4 u5 g0 g1 g2 g3 g4 g5 hh
   go_wp2_with fail
   go_meet
   case rel=>exact⟨q,rfl,HFIN.out⟩
 case rest=>
  obtain⟨q,rfl,HQ⟩:=hcut
  rename World=>wc
  have HAD:Hid (∀(W:World) (n' mem:Int) (vk:Value) (ks:List Nat) (d2:aK),d2={ d1 with vk:=vk,ks:=ks }→lC d.fl op n s aF m1=⟨m1.ps++[⟨op,n',aF,mem,0,lb⟩],m1.ns++[s],ks⟩→aG w0 F1 (aP q (pO op n' R l.length mem lb)::aP E0 (eO op n s o l.length c)::ex) d2 W→aJ F1 F1 w2 W→w2.heap.size≤W.heap.size→Calls Tryz.prog 177 #[.pointer (some ⟨d.X,0,none⟩),.agg #[.string op,.int .i64 n',.slice (some ⟨R,0,none⟩) l.length l.length,.int .i64 mem,.int .i64 0,.bool lb],.string s] W fun e w'=>e=.returned (.int .i64 ((bY d.fl (.mk op n s l) d.m).2:Nat))∧w.heap.size≤w'.heap.size∧∃F' d',mW w0 F ex d (bY d.fl (.mk op n s l) d.m).1 w w' F' d'):=fun W n' mem vk ks d2 hd2 hpl hPW hSW hsW=>by
   subst hd2
   have hol:=HMM.out.2.2.2.2
   have hrw:=HRW.out.keep hSW
   have hpx:=hPW.pop.pop
   have hca:=Ep hpx ⟨op,n',aF,some ⟨R,0,none⟩,l.length,mem,0,lb⟩ (by rw[hol];exact hrw) s (by show d1.ps.length≤100000;have:=HLN.out;omega) (by show d1.ns.length≤100000;have:=HLN.out;omega)
   have hX:({ d1 with vk:=vk,ks:=ks }:aK).X=d.X:=HDX.out.1
   rw[hX] at hca
   simp only[hol] at hca
   refine hca.mono ?_
   rintro e w' ⟨vp,vn,rfl,hP',hsz',hS'⟩
   have hpt:bY d.fl (.mk op n s l) d.m=(lC d.fl op n s aF m1,m1.ps.length):=by unfold bY;rw[HMM.out.2.1,HMM.out.2.2.1]
   have hml:m1.ps.length=d1.ps.length:=by rw[←HMM.out.1];unfold aK.m;simp
   refine⟨by rw[hpt];show _=Ending.returned (.int .i64 ((m1.ps.length:Nat):Int));rw[hml],?_,F1,_,⟨?_,?_,hP',?_⟩⟩
   ·have h1:=HB1.out.size
    have h2:=HX2.out.2.1
    omega
   ·obtain⟨_,_,_,_,_,_,e1⟩:=HD1.out
    exact⟨_,_,_,_,_,_,by rw[e1]⟩
   ·rw[hpt]
    show _=lC d.fl op n s aF m1
    rw[hpl,←HMM.out.1]
    unfold aK.m
    simp [aW.q]
   ·refine((((jZ HB1.out).trans HX2.out.2.2 HB1.out.size).trans hSW (Nat.le_trans HB1.out.size HX2.out.2.1)).trans hS' (by have h1:=HB1.out.size;have h2:=HX2.out.2.1;omega))
  have HQC:Hid (∀{W:World} {n' mem:Int},W.heap[q]?=some (pO op n' R l.length mem lb)→W.cell? ⟨q,0,none⟩=some (.string op)∧W.cell? ⟨q,0+1,none⟩=some (.int .i64 n')∧W.cell? ⟨q,0+2,none⟩=some (.slice (some ⟨R,0,none⟩) l.length l.length)∧W.cell? ⟨q,0+3,none⟩=some (.int .i64 mem)∧W.cell? ⟨q,0+4,none⟩=some (.int .i64 0)∧W.cell? ⟨q,0+5,none⟩=some (.bool lb)):=fun {W n' mem} hr=>by
   refine⟨?_,?_,?_,?_,?_,?_⟩<;>(rw[cell_of_row W _ _ _ _ (0,0) hr];rfl)
  obtain⟨e0,e1,e2,e3⟩:=HEC.out HQ.out.1.p9
  clear a0 a1 a2 a3
  by_cases ht:op.data.toList=oM
  ·have dt:(op.toList==[116,114,117,101])=true:=by rw[ByteArray.toList_eq,ht];rfl
   have HPL:Hid (lC d.fl op n s aF m1=⟨m1.ps++[⟨op,1,aF,0,0,lb⟩],m1.ns++[s],d1.ks⟩):=by
    unfold Hid lC
    rw[if_neg (by rw[ht];decide),if_pos ht,←HMM.out.2.2.2.1]
    have:m1.ks=d1.ks:=by rw[←HMM.out.1];rfl
    rw[this]
   obtain⟨_,u1,_⟩:=HQC.out HQ.out.1.top
   have g1:wc.frozen? ⟨q,0+1,none⟩=false:=bR HQ.out.1.top
   obtain⟨w5,hw5⟩:∃w5,w5=wc.setCell ⟨q,1,none⟩ (.int .i64 1):=⟨_,rfl⟩
   have HP5:Hid (aG w0 F1 (aP q (pO op 1 R l.length 0 lb)::aP E0 (eO op n s o l.length c)::ex) d1 w5∧aJ F1 F1 w2 w5∧w2.heap.size≤w5.heap.size):=by
    have:=HQ.out.1.rU 1 (.int .i64 1)
    rw[hw5]
    exact⟨this.1,HQ.out.2.1.trans this.2 HQ.out.2.2,by rw[size_setCell];exact HQ.out.2.2⟩
   have HW5:Hid (wc.setCell ⟨q,1,none⟩ (.int .i64 1)=w5):=hw5.symm
   clear ht hw5
   have HCA5:Hid (Calls Tryz.prog 177 #[.pointer (some ⟨d.X,0,none⟩),.agg #[.string op,.int .i64 1,.slice (some ⟨R,0,none⟩) l.length l.length,.int .i64 0,.int .i64 0,.bool lb],.string s] w5 fun e w'=>e=.returned (.int .i64 ((bY d.fl (.mk op n s l) d.m).2:Nat))∧w.heap.size≤w'.heap.size∧∃F' d',mW w0 F ex d (bY d.fl (.mk op n s l) d.m).1 w w' F' d'):=HAD.out w5 1 0 d1.vk d1.ks d1 (aK.eta d1).symm HPL.out HP5.out.1 HP5.out.2.1 HP5.out.2.2
   go_upto_region 10 with fail
   rw[HW5.out]
   clear e0 e1 e2 e3 u1 g1
   obtain⟨p0,p1,p2,p3,p4,p5⟩:=HQC.out (W:=w5) HP5.out.1.top
   obtain⟨e0,e1,e2,e3⟩:=HEC.out HP5.out.1.p9
   go_wp2_with fail
   refine HCA5.out.mono ?_
   rintro e w6 ⟨rfl,hsz6,F6,d6,hp6⟩
   have HE6:Hid (w.heap.size≤w6.heap.size∧mW w0 F ex d (bY d.fl (.mk op n s l) d.m).1 w w6 F6 d6):=⟨hsz6,hp6⟩
   clear hsz6 hp6 p0 p1 p2 p3 p4 p5 e0 e1 e2 e3
   go_wp2
   go_ret
   exact⟨rfl,HE6.out.1,F6,d6,HE6.out.2⟩
  have dt:(op.toList==[116,114,117,101])=false:=by rw[ByteArray.toList_eq];exact beq_eq_false_iff_ne.2 ht
  by_cases hpf:op.data.toList=dD∨op.data.toList=bQ
  ·obtain⟨k,hk⟩:∃k,l.length=k+1:=⟨l.length-1,by have:=HAR.out.2 hpf;omega⟩
   have hol:=HMM.out.2.2.2.2
   obtain⟨x,hx⟩:∃x,aF[k]?=some x:=⟨_,List.getElem?_eq_getElem (by omega)⟩
   have hlast:aF.getLastD 0=x:=by
    have h1:aF=aF.take k++[x]:=by
     have:=List.take_append_drop k aF
     rw[List.drop_eq_getElem_cons (show k<aF.length by omega),List.drop_eq_nil_of_le (show aF.length≤k+1 by omega)] at this
     rw[List.getElem?_eq_getElem (show k<aF.length by omega)] at hx
     rw[←Option.some.inj hx]
     exact this.symm
    rw[h1]
    simp
   have HPL:Hid (lC d.fl op n s aF m1=⟨m1.ps++[⟨op,n,aF,(d1.ks.length:Nat),0,lb⟩],m1.ns++[s],d1.ks++[x]⟩):=by
    unfold Hid lC
    rw[if_pos hpf,←HMM.out.2.2.2.1,hlast]
    have:m1.ks=d1.ks:=by rw[←HMM.out.1];rfl
    rw[this]
   obtain⟨j0,hj0,jz0,jz1,jz2⟩:=info_parts Tryz.kT
   obtain⟨ok,ck,hok,_⟩:=q9 HQ.out.1.FP
   have HOK:=aA hok
   have HRC:Hid (∀{W:World},aJ F1 F1 w2 W→W.cell? ⟨R,k,none⟩=some (.int .i64 (x:Int))):=fun {W} hS=>by
    have hr:=HRW.out.keep hS
    obtain⟨b,off,cp,ev,_,_,g⟩:=hr.at (by unfold aX;rw[List.length_map,lG];omega)
    obtain⟨⟨rfl,rfl⟩,_⟩:(R=b∧0=off)∧l.length=cp:=by simpa using ev
    have:=g k (.int .i64 (x:Int)) (by unfold aX;rw[List.getElem?_map,lH hx];rfl)
    rwa [Nat.zero_add] at this
   have HXC:Hid (∀{W:World} {ex':List Own},aG w0 F1 ex' d1 W→W.cell? ⟨d.X,0+5,none⟩=some (.pointer (some ⟨d1.B,0,none⟩))):=fun {W ex'} hP=>by rw[←HDX.out.1];exact hP.iK
   have HBC:Hid (∀{W:World} {ex':List Own},aG w0 F1 ex' d1 W→W.cell? ⟨d1.B,0+3,none⟩=some (.slice ok d1.ks.length ck)):=fun {W ex'} hP=>by rw[cell_of_row W _ _ _ _ (0,0) hP.bb,←HOK.out];rfl
   have HKR:Hid (∀{W:World} {ex':List Own},aG w0 F1 ex' d1 W→W.ownsRow w0.heap.size 3 1 (.slice ok d1.ks.length ck) d1.ks.length (aX d1.ks)):=fun {W ex'} hP=>by rw[←HOK.out];exact hP.FP
   have HMX:Hid (d1.ks.length+1≤maxLen∧(d1.ks.length+1)*8≤140737488355328):=by have:=HLN.out;unfold Hid maxLen;omega
   rw[hk] at HQ HAD HQC HEC e3 ⊢
   obtain⟨_,_,_,u3,_⟩:=HQC.out HQ.out.1.top
   have g3:wc.frozen? ⟨q,0+3,none⟩=false:=bR HQ.out.1.top
   have x5:=HXC.out HQ.out.1
   have b3:=HBC.out HQ.out.1
   obtain⟨w5,hw5⟩:∃w5,w5=wc.setCell ⟨q,3,none⟩ (.int .i64 (d1.ks.length:Nat)):=⟨_,rfl⟩
   have HP5:Hid (aG w0 F1 (aP q (pO op n R (k+1) (d1.ks.length:Nat) lb)::aP E0 (eO op n s o (k+1) c)::ex) d1 w5∧aJ F1 F1 w2 w5∧w2.heap.size≤w5.heap.size):=by
    have:=HQ.out.1.rU 3 (.int .i64 (d1.ks.length:Nat))
    rw[hw5]
    exact⟨this.1,HQ.out.2.1.trans this.2 HQ.out.2.2,by rw[size_setCell];exact HQ.out.2.2⟩
   have HPd:Hid (aG w0 F1 (aP q (pO op n R (k+1) (d1.ks.length:Nat) lb)::aP E0 (eO op n s o (k+1) c)::ex) d1 w5.drew∧aJ F1 F1 w2 w5.drew):=⟨HP5.out.1.keep (Below.refl _ _).drew,HP5.out.2.1⟩
   have HW5:Hid (wc.setCell ⟨q,3,none⟩ (.int .i64 (d1.ks.length:Nat))=w5):=hw5.symm
   have NK:IntKind.i64.wrap (k:Int)=(k:Int):=by rw[IntKind.wrap_i64];have:=HSZ.out;omega
   have k0':(0:Int)≤(k:Int):=by omega
   have k1':(k:Int)<((k+1:Nat):Int):=by omega
   have k2':(k:Int)<(k:Int)+1:=by omega
   have HPF:=aA hpf
   clear ht hpf hol hx hlast hok hw5
   rcases HPF.out with hop | hop
   ·clear HPF
    have dp:(op.toList==[112,114,101])=true:=by rw[ByteArray.toList_eq,hop];rfl
    clear hop
    go_upto_region 9 with fail
    rw[HW5.out]
    clear e0 e1 e2 e3 u3 g3 x5 b3
    refine fI 21 (fun w'=>w'.cell? ⟨d.X,0+5,none⟩=some (.pointer (some ⟨d1.B,0,none⟩))∧w'.cell? ⟨R,k,none⟩=some (.int .i64 (x:Int))) (fun w'=>w'.cell? ⟨d1.B,0+3,none⟩=some (.slice ok d1.ks.length ck)) (by kernel_rfl) ⟨HXC.out HPd.out.1,HRC.out HPd.out.2⟩ (HBC.out HPd.out.1) (fun hh=>?_)
    refine tj 0 38 (.pointer (some ⟨d.X,0,none⟩)) rfl (by rintro w ⟨b0,b1⟩;go_simp) hh ?_
    refine tj 1 39 (.pointer (some ⟨d.X,0,none⟩)) rfl (by rintro w ⟨b0,b1⟩;go_simp) hh ?_
    refine tj 2 40 (.pointer (some ⟨d.X,5,none⟩)) rfl (by rintro w ⟨b0,b1⟩;go_simp) hh ?_
    refine tj 3 41 (.pointer (some ⟨d1.B,0,none⟩)) rfl (by rintro w ⟨b0,b1⟩;go_simp) hh ?_
    refine tj 4 42 (.pointer (some ⟨d.X,0,none⟩)) rfl (by rintro w ⟨b0,b1⟩;go_simp) hh ?_
    refine tj 5 43 (.pointer (some ⟨d.X,0,none⟩)) rfl (by rintro w ⟨b0,b1⟩;go_simp) hh ?_
    refine tj 6 44 (.pointer (some ⟨d.X,5,none⟩)) rfl (by rintro w ⟨b0,b1⟩;go_simp) hh ?_
    refine tj 7 45 (.pointer (some ⟨d1.B,0,none⟩)) rfl (by rintro w ⟨b0,b1⟩;go_simp) hh ?_
    refine tj 8 46 (.pointer (some ⟨d1.B,0,none⟩)) rfl (by rintro w ⟨b0,b1⟩;go_simp) hh ?_
    refine tj 9 47 (.pointer (some ⟨d1.B,3,none⟩)) rfl (by rintro w ⟨b0,b1⟩;go_simp) hh ?_
    refine oU 18 (i:=10) (oi:=⟨some 48,_,_,_,_,_⟩) (v:=.slice ok d1.ks.length ck) rfl rfl (by kernel_rfl) (by kernel_rfl) (by kernel_rfl) (by kernel_rfl) (by kernel_rfl) (by kernel_rfl) (by kernel_rfl) (fun _ _ _ h=>h) (Or.inl ⟨by rfl,?_⟩) hh ?_
    ·intro w hSw;(try dsimp only at hSw);go_simp
    try simp only[tp]
    refine tj 11 49 (.slice (some ⟨R,0,none⟩) (k+1) (k+1)) rfl (by rintro w ⟨b0,b1⟩;go_simp) hh ?_
    refine tj 12 50 (.slice (some ⟨R,0,none⟩) (k+1) (k+1)) rfl (by rintro w ⟨b0,b1⟩;go_simp) hh ?_
    refine tj 13 51 (.int .i64 ((k+1:Nat):Int)) rfl (by rintro w ⟨b0,b1⟩;go_simp) hh ?_
    refine tj 14 52 (.int .i64 (k:Int)) rfl (by rintro w ⟨b0,b1⟩;go_simp) hh ?_
    refine tj 15 53 (.pointer (some ⟨R,k,none⟩)) rfl (by rintro w ⟨b0,b1⟩;go_simp) hh ?_
    refine tj 16 54 (.int .i64 (x:Int)) rfl (by rintro w ⟨b0,b1⟩;go_simp) hh ?_
    refine aS 17 (some 55) rfl fun K hK=>?_
    go_simp
    obtain⟨wA,hwA⟩:∃wA,wA=(w5.alloc (.cells #[.int .i64 (x:Int)] 3)).drew:=⟨_,rfl⟩
    have hbA:Bw w5 wA:=by rw[hwA];exact(aH).drew
    have HPA:Hid (aG w0 F1 (aP q (pO op n R (k+1) (d1.ks.length:Nat) lb)::aP E0 (eO op n s o (k+1) c)::ex) d1 wA∧aJ F1 F1 w2 wA∧w2.heap.size≤wA.heap.size):=⟨HP5.out.1.keep hbA,HP5.out.2.1.trans (jZ hbA) HP5.out.2.2,Nat.le_trans HP5.out.2.2 hbA.size⟩
    have HNA:Hid (∀j y,[Value.int .i64 (x:Int)][j]?=some y→wA.cell? ((⟨w5.heap.size,0,none⟩:Addr).add j)=some y):=by unfold Hid;rw[hwA];exact World.news_of_block (heap_alloc_new w5 _)
    rw[←hwA]
    refine hK.out _ _ ⟨⟨HXC.out HPA.out.1,HRC.out HPA.out.2.1⟩,fun _=>HBC.out HPA.out.1⟩ (fun hh=>?_)
    clear hK K hwA hbA
    try simp only[tp]
    refine aS 18 (some 56) rfl fun K hK=>?_
    refine step_append_lies _ rfl (.tmp 48) (.tmp 55) 30 rfl w0.heap.size 3 j0 _ 1 8 Tryz.underlying30 hj0 jz0 jz1 jz2 rfl (by omega) (.slice ok d1.ks.length ck) d1.ks.length _ (by simp [Act.eval]) (HKR.out HPA.out.1) ⟨w5.heap.size,0,none⟩ 1 1 [.int .i64 (x:Int)] (by simp [Act.eval]) rfl HNA.out (by simp [Value.oneCell']) (by omega) HMX.out.1 HMX.out.2 HPA.out.1.sep.base _ rfl ?_
    intro g cap w7 hown7 hgrow hat hlt7
    have hkp:=HPA.out.1.kept (x:=x) hown7 (by rw[HOK.out];exact hgrow) (by rw[HOK.out];exact hat)
    have hst7:=HPA.out.1.sep.stays (i:=8) rfl (show wA.grownBy w7 d1.vk.ownBlock by rw[HOK.out];exact hgrow)
    have hvX:(Value.slice ok d1.ks.length ck).ownBlock≠some d1.X:=by rw[←HOK.out];exact HPA.out.1.ne (i:=0) (j:=8) (by decide) rfl rfl rfl
    have hvB:(Value.slice ok d1.ks.length ck).ownBlock≠some d1.B:=by rw[←HOK.out];exact HPA.out.1.ne (i:=1) (j:=8) (by decide) rfl rfl rfl
    have hx7:=gT hgrow hvX HPA.out.1.xb
    have hb7:=gT hgrow hvB HPA.out.1.bb
    have xc7:w7.cell? ⟨d.X,0+5,none⟩=some (.pointer (some ⟨d1.B,0,none⟩)):=by rw[←HDX.out.1,cell_of_row w7 _ _ _ _ (0,0) hx7];rfl
    have bc7:w7.cell? ⟨d1.B,0+3,none⟩=some (.slice ok d1.ks.length ck):=by rw[cell_of_row w7 _ _ _ _ (0,0) hb7,←HOK.out];rfl
    have fz7:w7.frozen? ⟨d1.B,0+3,none⟩=false:=bR hb7
    have rc7:=HRC.out (HPA.out.2.1.trans hst7 HPA.out.2.2)
    refine hK.out _ _ ⟨⟨xc7,rc7⟩,fun _=>bc7⟩ (fun hh=>?_)
    clear hK K
    try simp only[tp]
    refine tj 19 57 (.pointer (some ⟨d1.B,0,none⟩)) rfl (by rintro w ⟨b0,b1⟩;go_simp) hh ?_
    refine tj 20 58 (.pointer (some ⟨d1.B,3,none⟩)) rfl (by rintro w ⟨b0,b1⟩;go_simp) hh ?_
    refine aS 21 none rfl fun K hK=>?_
    go_simp
    obtain⟨w9,hw9⟩:∃w9,w9=w7.setCell ⟨d1.B,3,none⟩ (.slice (some ⟨g,0,none⟩) (d1.ks.length+1) cap):=⟨_,rfl⟩
    rw[←hw9] at hkp
    rw[←hw9]
    have hst9:=HPA.out.2.1.trans hkp.2.1 HPA.out.2.2
    have xc9:w9.cell? ⟨d.X,0+5,none⟩=some (.pointer (some ⟨d1.B,0,none⟩)):=by rw[←HDX.out.1];exact hkp.1.iK
    refine hK.out _ _ (Till.last ⟨xc9,HRC.out hst9⟩) (fun hh=>?_)
    clear hK K
    try simp only[tp]
    refine dU (by kernel_rfl) ?_ _
    have HP9:Hid (aG w0 F1 (aP q (pO op n R (k+1) (d1.ks.length:Nat) lb)::aP E0 (eO op n s o (k+1) c)::ex) { d1 with vk:=.slice (some ⟨g,0,none⟩) (d1.ks.length+1) cap,ks:=d1.ks++[x] } w9∧aJ F1 F1 w2 w9∧w2.heap.size≤w9.heap.size):=⟨hkp.1,hst9,Nat.le_trans HPA.out.2.2 hkp.2.2⟩
    have HCA5:Hid (Calls Tryz.prog 177 #[.pointer (some ⟨d.X,0,none⟩),.agg #[.string op,.int .i64 n,.slice (some ⟨R,0,none⟩) (k+1) (k+1),.int .i64 (d1.ks.length:Nat),.int .i64 0,.bool lb],.string s] w9 fun e w'=>e=.returned (.int .i64 ((bY d.fl (.mk op n s l) d.m).2:Nat))∧w.heap.size≤w'.heap.size∧∃F' d',mW w0 F ex d (bY d.fl (.mk op n s l) d.m).1 w w' F' d'):=HAD.out w9 n (d1.ks.length:Nat) _ _ _ rfl HPL.out HP9.out.1 HP9.out.2.1 HP9.out.2.2
    clear hkp hst7 hvX hvB hx7 hb7 xc7 bc7 fz7 rc7 hw9 hst9 xc9 hown7 hgrow hat hlt7 hh
    obtain⟨p0,p1,p2,p3,p4,p5⟩:=HQC.out (W:=w9) HP9.out.1.top
    obtain⟨e0,e1,e2,e3⟩:=HEC.out HP9.out.1.p9
    go_wp2_with fail
    refine HCA5.out.mono ?_
    rintro e w6 ⟨rfl,hsz6,F6,d6,hp6⟩
    have HE6:Hid (w.heap.size≤w6.heap.size∧mW w0 F ex d (bY d.fl (.mk op n s l) d.m).1 w w6 F6 d6):=⟨hsz6,hp6⟩
    clear hsz6 hp6 p0 p1 p2 p3 p4 p5 e0 e1 e2 e3
    go_wp2
    go_ret
    exact⟨rfl,HE6.out.1,F6,d6,HE6.out.2⟩
   ·clear HPF
    have dp:(op.toList==[112,114,101])=false:=by rw[ByteArray.toList_eq,hop];rfl
    have df:(op.toList==[102,98,121])=true:=by rw[ByteArray.toList_eq,hop];rfl
    clear hop
    go_upto_region 9 with fail
    rw[HW5.out]
    clear e0 e1 e2 e3 u3 g3 x5 b3
    refine fI 21 (fun w'=>w'.cell? ⟨d.X,0+5,none⟩=some (.pointer (some ⟨d1.B,0,none⟩))∧w'.cell? ⟨R,k,none⟩=some (.int .i64 (x:Int))) (fun w'=>w'.cell? ⟨d1.B,0+3,none⟩=some (.slice ok d1.ks.length ck)) (by kernel_rfl) ⟨HXC.out HPd.out.1,HRC.out HPd.out.2⟩ (HBC.out HPd.out.1) (fun hh=>?_)
    refine tj 0 38 (.pointer (some ⟨d.X,0,none⟩)) rfl (by rintro w ⟨b0,b1⟩;go_simp) hh ?_
    refine tj 1 39 (.pointer (some ⟨d.X,0,none⟩)) rfl (by rintro w ⟨b0,b1⟩;go_simp) hh ?_
    refine tj 2 40 (.pointer (some ⟨d.X,5,none⟩)) rfl (by rintro w ⟨b0,b1⟩;go_simp) hh ?_
    refine tj 3 41 (.pointer (some ⟨d1.B,0,none⟩)) rfl (by rintro w ⟨b0,b1⟩;go_simp) hh ?_
    refine tj 4 42 (.pointer (some ⟨d.X,0,none⟩)) rfl (by rintro w ⟨b0,b1⟩;go_simp) hh ?_
    refine tj 5 43 (.pointer (some ⟨d.X,0,none⟩)) rfl (by rintro w ⟨b0,b1⟩;go_simp) hh ?_
    refine tj 6 44 (.pointer (some ⟨d.X,5,none⟩)) rfl (by rintro w ⟨b0,b1⟩;go_simp) hh ?_
    refine tj 7 45 (.pointer (some ⟨d1.B,0,none⟩)) rfl (by rintro w ⟨b0,b1⟩;go_simp) hh ?_
    refine tj 8 46 (.pointer (some ⟨d1.B,0,none⟩)) rfl (by rintro w ⟨b0,b1⟩;go_simp) hh ?_
    refine tj 9 47 (.pointer (some ⟨d1.B,3,none⟩)) rfl (by rintro w ⟨b0,b1⟩;go_simp) hh ?_
    refine oU 18 (i:=10) (oi:=⟨some 48,_,_,_,_,_⟩) (v:=.slice ok d1.ks.length ck) rfl rfl (by kernel_rfl) (by kernel_rfl) (by kernel_rfl) (by kernel_rfl) (by kernel_rfl) (by kernel_rfl) (by kernel_rfl) (fun _ _ _ h=>h) (Or.inl ⟨by rfl,?_⟩) hh ?_
    ·intro w hSw;(try dsimp only at hSw);go_simp
    try simp only[tp]
    refine tj 11 49 (.slice (some ⟨R,0,none⟩) (k+1) (k+1)) rfl (by rintro w ⟨b0,b1⟩;go_simp) hh ?_
    refine tj 12 50 (.slice (some ⟨R,0,none⟩) (k+1) (k+1)) rfl (by rintro w ⟨b0,b1⟩;go_simp) hh ?_
    refine tj 13 51 (.int .i64 ((k+1:Nat):Int)) rfl (by rintro w ⟨b0,b1⟩;go_simp) hh ?_
    refine tj 14 52 (.int .i64 (k:Int)) rfl (by rintro w ⟨b0,b1⟩;go_simp) hh ?_
    refine tj 15 53 (.pointer (some ⟨R,k,none⟩)) rfl (by rintro w ⟨b0,b1⟩;go_simp) hh ?_
    refine tj 16 54 (.int .i64 (x:Int)) rfl (by rintro w ⟨b0,b1⟩;go_simp) hh ?_
    refine aS 17 (some 55) rfl fun K hK=>?_
    go_simp
    obtain⟨wA,hwA⟩:∃wA,wA=(w5.alloc (.cells #[.int .i64 (x:Int)] 3)).drew:=⟨_,rfl⟩
    have hbA:Bw w5 wA:=by rw[hwA];exact(aH).drew
    have HPA:Hid (aG w0 F1 (aP q (pO op n R (k+1) (d1.ks.length:Nat) lb)::aP E0 (eO op n s o (k+1) c)::ex) d1 wA∧aJ F1 F1 w2 wA∧w2.heap.size≤wA.heap.size):=⟨HP5.out.1.keep hbA,HP5.out.2.1.trans (jZ hbA) HP5.out.2.2,Nat.le_trans HP5.out.2.2 hbA.size⟩
    have HNA:Hid (∀j y,[Value.int .i64 (x:Int)][j]?=some y→wA.cell? ((⟨w5.heap.size,0,none⟩:Addr).add j)=some y):=by unfold Hid;rw[hwA];exact World.news_of_block (heap_alloc_new w5 _)
    rw[←hwA]
    refine hK.out _ _ ⟨⟨HXC.out HPA.out.1,HRC.out HPA.out.2.1⟩,fun _=>HBC.out HPA.out.1⟩ (fun hh=>?_)
    clear hK K hwA hbA
    try simp only[tp]
    refine aS 18 (some 56) rfl fun K hK=>?_
    refine step_append_lies _ rfl (.tmp 48) (.tmp 55) 30 rfl w0.heap.size 3 j0 _ 1 8 Tryz.underlying30 hj0 jz0 jz1 jz2 rfl (by omega) (.slice ok d1.ks.length ck) d1.ks.length _ (by simp [Act.eval]) (HKR.out HPA.out.1) ⟨w5.heap.size,0,none⟩ 1 1 [.int .i64 (x:Int)] (by simp [Act.eval]) rfl HNA.out (by simp [Value.oneCell']) (by omega) HMX.out.1 HMX.out.2 HPA.out.1.sep.base _ rfl ?_
    intro g cap w7 hown7 hgrow hat hlt7
    have hkp:=HPA.out.1.kept (x:=x) hown7 (by rw[HOK.out];exact hgrow) (by rw[HOK.out];exact hat)
    have hst7:=HPA.out.1.sep.stays (i:=8) rfl (show wA.grownBy w7 d1.vk.ownBlock by rw[HOK.out];exact hgrow)
    have hvX:(Value.slice ok d1.ks.length ck).ownBlock≠some d1.X:=by rw[←HOK.out];exact HPA.out.1.ne (i:=0) (j:=8) (by decide) rfl rfl rfl
    have hvB:(Value.slice ok d1.ks.length ck).ownBlock≠some d1.B:=by rw[←HOK.out];exact HPA.out.1.ne (i:=1) (j:=8) (by decide) rfl rfl rfl
    have hx7:=gT hgrow hvX HPA.out.1.xb
    have hb7:=gT hgrow hvB HPA.out.1.bb
    have xc7:w7.cell? ⟨d.X,0+5,none⟩=some (.pointer (some ⟨d1.B,0,none⟩)):=by rw[←HDX.out.1,cell_of_row w7 _ _ _ _ (0,0) hx7];rfl
    have bc7:w7.cell? ⟨d1.B,0+3,none⟩=some (.slice ok d1.ks.length ck):=by rw[cell_of_row w7 _ _ _ _ (0,0) hb7,←HOK.out];rfl
    have fz7:w7.frozen? ⟨d1.B,0+3,none⟩=false:=bR hb7
    have rc7:=HRC.out (HPA.out.2.1.trans hst7 HPA.out.2.2)
    refine hK.out _ _ ⟨⟨xc7,rc7⟩,fun _=>bc7⟩ (fun hh=>?_)
    clear hK K
    try simp only[tp]
    refine tj 19 57 (.pointer (some ⟨d1.B,0,none⟩)) rfl (by rintro w ⟨b0,b1⟩;go_simp) hh ?_
    refine tj 20 58 (.pointer (some ⟨d1.B,3,none⟩)) rfl (by rintro w ⟨b0,b1⟩;go_simp) hh ?_
    refine aS 21 none rfl fun K hK=>?_
    go_simp
    obtain⟨w9,hw9⟩:∃w9,w9=w7.setCell ⟨d1.B,3,none⟩ (.slice (some ⟨g,0,none⟩) (d1.ks.length+1) cap):=⟨_,rfl⟩
    rw[←hw9] at hkp
    rw[←hw9]
    have hst9:=HPA.out.2.1.trans hkp.2.1 HPA.out.2.2
    have xc9:w9.cell? ⟨d.X,0+5,none⟩=some (.pointer (some ⟨d1.B,0,none⟩)):=by rw[←HDX.out.1];exact hkp.1.iK
    refine hK.out _ _ (Till.last ⟨xc9,HRC.out hst9⟩) (fun hh=>?_)
    clear hK K
    try simp only[tp]
    refine dU (by kernel_rfl) ?_ _
    have HP9:Hid (aG w0 F1 (aP q (pO op n R (k+1) (d1.ks.length:Nat) lb)::aP E0 (eO op n s o (k+1) c)::ex) { d1 with vk:=.slice (some ⟨g,0,none⟩) (d1.ks.length+1) cap,ks:=d1.ks++[x] } w9∧aJ F1 F1 w2 w9∧w2.heap.size≤w9.heap.size):=⟨hkp.1,hst9,Nat.le_trans HPA.out.2.2 hkp.2.2⟩
    have HCA5:Hid (Calls Tryz.prog 177 #[.pointer (some ⟨d.X,0,none⟩),.agg #[.string op,.int .i64 n,.slice (some ⟨R,0,none⟩) (k+1) (k+1),.int .i64 (d1.ks.length:Nat),.int .i64 0,.bool lb],.string s] w9 fun e w'=>e=.returned (.int .i64 ((bY d.fl (.mk op n s l) d.m).2:Nat))∧w.heap.size≤w'.heap.size∧∃F' d',mW w0 F ex d (bY d.fl (.mk op n s l) d.m).1 w w' F' d'):=HAD.out w9 n (d1.ks.length:Nat) _ _ _ rfl HPL.out HP9.out.1 HP9.out.2.1 HP9.out.2.2
    clear hkp hst7 hvX hvB hx7 hb7 xc7 bc7 fz7 rc7 hw9 hst9 xc9 hown7 hgrow hat hlt7 hh
    obtain⟨p0,p1,p2,p3,p4,p5⟩:=HQC.out (W:=w9) HP9.out.1.top
    obtain⟨e0,e1,e2,e3⟩:=HEC.out HP9.out.1.p9
    go_wp2_with fail
    refine HCA5.out.mono ?_
    rintro e w6 ⟨rfl,hsz6,F6,d6,hp6⟩
    have HE6:Hid (w.heap.size≤w6.heap.size∧mW w0 F ex d (bY d.fl (.mk op n s l) d.m).1 w w6 F6 d6):=⟨hsz6,hp6⟩
    clear hsz6 hp6 p0 p1 p2 p3 p4 p5 e0 e1 e2 e3
    go_wp2
    go_ret
    exact⟨rfl,HE6.out.1,F6,d6,HE6.out.2⟩
  ·have dp:(op.toList==[112,114,101])=false:=by rw[ByteArray.toList_eq];exact beq_eq_false_iff_ne.2 (fun e=>hpf (.inl e))
   have df:(op.toList==[102,98,121])=false:=by rw[ByteArray.toList_eq];exact beq_eq_false_iff_ne.2 (fun e=>hpf (.inr e))
   have HPL:Hid (lC d.fl op n s aF m1=⟨m1.ps++[⟨op,n,aF,0,0,lb⟩],m1.ns++[s],d1.ks⟩):=by
    unfold Hid lC
    rw[if_neg hpf,if_neg ht,←HMM.out.2.2.2.1]
    have:m1.ks=d1.ks:=by rw[←HMM.out.1];rfl
    rw[this]
   have HP5:Hid (aG w0 F1 (aP q (pO op n R l.length 0 lb)::aP E0 (eO op n s o l.length c)::ex) d1 wc∧aJ F1 F1 w2 wc∧w2.heap.size≤wc.heap.size):=HQ.out
   clear ht hpf
   have HCA5:Hid (Calls Tryz.prog 177 #[.pointer (some ⟨d.X,0,none⟩),.agg #[.string op,.int .i64 n,.slice (some ⟨R,0,none⟩) l.length l.length,.int .i64 0,.int .i64 0,.bool lb],.string s] wc fun e w'=>e=.returned (.int .i64 ((bY d.fl (.mk op n s l) d.m).2:Nat))∧w.heap.size≤w'.heap.size∧∃F' d',mW w0 F ex d (bY d.fl (.mk op n s l) d.m).1 w w' F' d'):=HAD.out wc n 0 d1.vk d1.ks d1 (aK.eta d1).symm HPL.out HP5.out.1 HP5.out.2.1 HP5.out.2.2
   go_upto_region 10 with fail
   clear e0 e1 e2 e3
   obtain⟨p0,p1,p2,p3,p4,p5⟩:=HQC.out (W:=wc) HP5.out.1.top
   obtain⟨e0,e1,e2,e3⟩:=HEC.out HP5.out.1.p9
   go_wp2_with fail
   refine HCA5.out.mono ?_
   rintro e w6 ⟨rfl,hsz6,F6,d6,hp6⟩
   have HE6:Hid (w.heap.size≤w6.heap.size∧mW w0 F ex d (bY d.fl (.mk op n s l) d.m).1 w w6 F6 d6):=⟨hsz6,hp6⟩
   clear hsz6 hp6 p0 p1 p2 p3 p4 p5 e0 e1 e2 e3
   go_wp2
   go_ret
   exact⟨rfl,HE6.out.1,F6,d6,HE6.out.2⟩
theorem y8:∀m:Nat,yL m
 | 0=>fun _ _ _ _ h=>absurd h (Nat.not_lt_zero _)
 | m+1=>JQ (y8 m)
end Go.Proofs.YtmgfakcccfahaaaGreatDoor
