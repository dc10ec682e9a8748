/-
  package plan: a planner in memory; add BY CONTRACT.
-/
import Derived.Test.YtmgfakcccfahaaaGreatDoorN24
namespace Go.Proofs.YtmgfakcccfahaaaGreatDoor
open Go.RowKit Go.Maps
set_option maxRecDepth 100000
set_option maxHeartbeats 2000000

theorem Tryz.OM:(Tryz.prog.info? 185).map (fun i=>(i.zero,i.size,i.bytes))=some (some (.agg #[.string ⟨#[]⟩,.int .i64 0,.slice none 0 0,.int .i64 0,.int .i64 0,.bool false]),6,72):=by kernel_rfl
theorem Tryz.OG:(Tryz.prog.info? 9).map (fun i=>(i.zero,i.size,i.bytes))=some (some (.string ⟨#[]⟩),1,16):=by kernel_rfl
structure aW where
 op:ByteArray
 n:Int
 aF:List Nat
 oo:Option Addr
 oc:Nat
 mem:Int
 kind:Int
 late:Bool
def aW.cells(p:aW):List Value:=[.string p.op,.int .i64 p.n,.slice p.oo p.aF.length p.oc,.int .i64 p.mem,.int .i64 p.kind,.bool p.late]
def kP(l:List aW):List Value:=l.flatMap aW.cells
def nD(l:List ByteArray):List Value:=l.map Value.string
def aX(l:List Nat):List Value:=(cI l).map (Value.int .i64)
theorem LA(l:List aW)(p:aW):kP (l++[p])=kP l++p.cells:=by simp [kP]
theorem Nh(l:List ByteArray)(p:ByteArray):nD (l++[p])=nD l++[.string p]:=by simp [nD]
structure aK where
 X:Nat
 B:Nat
 Kp:Nat
 jB:Nat
 Kl:Nat
 gG:Nat
 fp:List UInt8→Option Int
 fl:List UInt8→Option Int
 v1:Value
 v2:Value
 v3:Value
 v4:Value
 v5:Value
 va:Value
 vc:Value
 vp:Value
 vn:Value
 vi:Value
 vt:Value
 vk:Value
 vo:Value
 ps:List aW
 ns:List ByteArray
 is:List Nat
 ts:List Nat
 ks:List Nat
 os:List Nat
def aK.xo(d:aK):Obj:=.cells #[d.v1,d.v2,d.v3,d.v4,d.v5,.pointer (some ⟨d.B,0,none⟩),.map (some d.Kp),.map (some d.Kl),d.vn] 240 (0,0)
def aK.bo(d:aK):Obj:=.cells #[d.vp,d.vi,d.vt,d.vk,d.vo,d.va,d.vc] 183 (0,0)
def aK.own(d:aK)(base:Nat):List Own:=[aP d.X d.xo,aP d.B d.bo,lF d.Kp d.jB (aY d.fp),lF d.Kl d.gG (aY d.fl),dH base 185 6 d.vp d.ps.length (kP d.ps),dH base 9 1 d.vn d.ns.length (nD d.ns),dH base 3 1 d.vi d.is.length (aX d.is),dH base 3 1 d.vt d.ts.length (aX d.ts),dH base 3 1 d.vk d.ks.length (aX d.ks),dH base 3 1 d.vo d.os.length (aX d.os)]
def yN(w:World)(F:Nat→Prop)(ps:List aW):Prop:=∀p∈ps,aB w F 1 (.slice p.oo p.aF.length p.oc) p.aF.length (aX p.aF)
theorem yN.keep{w w':World}{F F':Nat→Prop}{ps:List aW}(h:yN w F ps)(hs:aJ F F' w w'):yN w' F' ps:=fun p hp=>(h p hp).keep hs
structure aG(w0:World)(F:Nat→Prop)(ex:List Own)(d:aK)(w:World):Prop where
 sep:Sep w w0.heap.size F (d.own w0.heap.size++ex)
 aF:yN w F d.ps
 below:Bw w0 w
theorem aG.keep{w0 w w':World}{F:Nat→Prop}{ex:List Own}{d:aK}(h:aG w0 F ex d w)(hb:Bw w w'):aG w0 F ex d w':=
 ⟨h.sep.keep hb,h.aF.keep (fun b hF hl=>⟨hF,hb.block b hl⟩),h.below.trans (hb.mono h.below.size)⟩
theorem aG.xb{w0 w:World}{F:Nat→Prop}{ex:List Own}{d:aK}(h:aG w0 F ex d w):w.heap[d.X]?=some d.xo:=h.sep.is 0 _ rfl
theorem aG.bb{w0 w:World}{F:Nat→Prop}{ex:List Own}{d:aK}(h:aG w0 F ex d w):w.heap[d.B]?=some d.bo:=h.sep.is 1 _ rfl
theorem aG.parts{w0 w:World}{F:Nat→Prop}{ex:List Own}{d:aK}(h:aG w0 F ex d w):w.ownsRow w0.heap.size 185 6 d.vp d.ps.length (kP d.ps):=h.sep.is 4 _ rfl
theorem aG.names{w0 w:World}{F:Nat→Prop}{ex:List Own}{d:aK}(h:aG w0 F ex d w):w.ownsRow w0.heap.size 9 1 d.vn d.ns.length (nD d.ns):=h.sep.is 5 _ rfl
theorem aG.iK{w0 w:World}{F:Nat→Prop}{ex:List Own}{d:aK}(h:aG w0 F ex d w):w.cell? ⟨d.X,0+5,none⟩=some (.pointer (some ⟨d.B,0,none⟩)):=cr h.xb rfl
theorem aK.LX(d:aK)(base:Nat)(ex:List Own)(p:aW)(v:Value):((d.own base++ex).set 4 (dH base 185 6 v (d.ps.length+1) (kP d.ps++p.cells))).set 1 (aP d.B (.cells (#[d.vp,d.vi,d.vt,d.vk,d.vo,d.va,d.vc].setIfInBounds 0 v) 183 (0,0)))={ d with vp:=v,ps:=d.ps++[p] }.own base++ex:=by
 simp only[aK.own,List.length_append,List.length_singleton,LA]
 rfl
theorem aK.LZ(d:aK)(base:Nat)(ex:List Own)(s:ByteArray)(v:Value):((d.own base++ex).set 5 (dH base 9 1 v (d.ns.length+1) (nD d.ns++[.string s]))).set 0 (aP d.X (.cells (#[d.v1,d.v2,d.v3,d.v4,d.v5,.pointer (some ⟨d.B,0,none⟩),.map (some d.Kp),.map (some d.Kl),d.vn].setIfInBounds 8 v) 240 (0,0)))={ d with vn:=v,ns:=d.ns++[s] }.own base++ex:=by
 simp only[aK.own,List.length_append,List.length_singleton,Nh]
 rfl
theorem aG.part{w0 w w':World}{F:Nat→Prop}{ex:List Own}{d:aK}(h:aG w0 F ex d w){p:aW}(hp:aB w F 1 (.slice p.oo p.aF.length p.oc) p.aF.length (aX p.aF)){g cap:Nat}(ho:w'.ownsRow w0.heap.size 185 6 (.slice (some ⟨g,0,none⟩) (d.ps.length+1) cap) (d.ps.length+1) (kP d.ps++p.cells))(hg:w.grownBy w' d.vp.ownBlock)(ha:d.vp.ownBlock=some g∨g=w.heap.size):aG w0 F ex { d with vp:=.slice (some ⟨g,0,none⟩) (d.ps.length+1) cap,ps:=d.ps++[p] } (w'.setCell ⟨d.B,0,none⟩ (.slice (some ⟨g,0,none⟩) (d.ps.length+1) cap))∧aJ F F w (w'.setCell ⟨d.B,0,none⟩ (.slice (some ⟨g,0,none⟩) (d.ps.length+1) cap))∧w.heap.size≤(w'.setCell ⟨d.B,0,none⟩ (.slice (some ⟨g,0,none⟩) (d.ps.length+1) cap)).heap.size:=by
 have h4:=h.sep.grow (i:=4) rfl ho hg ha
 have h5:=h4.set (i:=1) (b:=d.B) rfl 0 (.slice (some ⟨g,0,none⟩) (d.ps.length+1) cap)
 rw[aK.LX] at h5
 have hs1:=h.sep.stays (i:=4) rfl hg
 have hs2:=h4.stays (i:=1) (c:=aP d.B d.bo) rfl (bW w' d.B 0 (.slice (some ⟨g,0,none⟩) (d.ps.length+1) cap))
 have hst:aJ F F w (w'.setCell ⟨d.B,0,none⟩ (.slice (some ⟨g,0,none⟩) (d.ps.length+1) cap)):=fun b hF hl=>by
  obtain⟨a1,a2⟩:=hs1 b hF hl
  obtain⟨a3,a4⟩:=hs2 b a1 (Nat.lt_of_lt_of_le hl hg.size)
  exact⟨a3,a4.trans a2⟩
 refine⟨⟨h5,fun q hq=>?_,h4.below (i:=1) (c:=aP d.B d.bo) rfl (bW w' d.B 0 _) (h.sep.below (i:=4) rfl hg h.below)⟩,hst,by rw[size_setCell];exact hg.size⟩
 rcases List.mem_append.1 hq with hq | hq
 ·exact((h.aF q hq).keep hs1).keep hs2
 ·rw[List.mem_singleton.1 hq]
  exact(hp.keep hs1).keep hs2
theorem aG.name{w0 w w':World}{F:Nat→Prop}{ex:List Own}{d:aK}(h:aG w0 F ex d w){s:ByteArray}{g cap:Nat}(ho:w'.ownsRow w0.heap.size 9 1 (.slice (some ⟨g,0,none⟩) (d.ns.length+1) cap) (d.ns.length+1) (nD d.ns++[.string s]))(hg:w.grownBy w' d.vn.ownBlock)(ha:d.vn.ownBlock=some g∨g=w.heap.size):aG w0 F ex { d with vn:=.slice (some ⟨g,0,none⟩) (d.ns.length+1) cap,ns:=d.ns++[s] } (w'.setCell ⟨d.X,8,none⟩ (.slice (some ⟨g,0,none⟩) (d.ns.length+1) cap))∧aJ F F w (w'.setCell ⟨d.X,8,none⟩ (.slice (some ⟨g,0,none⟩) (d.ns.length+1) cap))∧w.heap.size≤(w'.setCell ⟨d.X,8,none⟩ (.slice (some ⟨g,0,none⟩) (d.ns.length+1) cap)).heap.size:=by
 have h4:=h.sep.grow (i:=5) rfl ho hg ha
 have h5:=h4.set (i:=0) (b:=d.X) rfl 8 (.slice (some ⟨g,0,none⟩) (d.ns.length+1) cap)
 rw[aK.LZ] at h5
 have hs1:=h.sep.stays (i:=5) rfl hg
 have hs2:=h4.stays (i:=0) (c:=aP d.X d.xo) rfl (bW w' d.X 8 (.slice (some ⟨g,0,none⟩) (d.ns.length+1) cap))
 have hst:aJ F F w (w'.setCell ⟨d.X,8,none⟩ (.slice (some ⟨g,0,none⟩) (d.ns.length+1) cap)):=fun b hF hl=>by
  obtain⟨a1,a2⟩:=hs1 b hF hl
  obtain⟨a3,a4⟩:=hs2 b a1 (Nat.lt_of_lt_of_le hl hg.size)
  exact⟨a3,a4.trans a2⟩
 exact⟨⟨h5,(h.aF.keep hs1).keep hs2,h4.below (i:=0) (c:=aP d.X d.xo) rfl (bW w' d.X 8 _) (h.sep.below (i:=5) rfl hg h.below)⟩,hst,by rw[size_setCell];exact hg.size⟩
theorem aG.ne{w0 w:World}{F:Nat→Prop}{ex:List Own}{d:aK}(h:aG w0 F ex d w){i j:Nat}{c e:Own}(hij:i≠j)(hi:(d.own w0.heap.size++ex)[i]?=some c)(hj:(d.own w0.heap.size++ex)[j]?=some e){q:Nat}(hq:c.blk=some q):e.blk≠some q:=h.sep.ne i j c e q hij hi hj hq
theorem Ep{w0 w:World}{F:Nat→Prop}{ex:List Own}{d:aK}(h:aG w0 F ex d w)(p:aW)(hp:aB w F 1 (.slice p.oo p.aF.length p.oc) p.aF.length (aX p.aF))(name:ByteArray)(hl:d.ps.length≤100000)(hn:d.ns.length≤100000) :
  Calls Tryz.prog 177 #[.pointer (some ⟨d.X,0,none⟩),.agg #[.string p.op,.int .i64 p.n,.slice p.oo p.aF.length p.oc,.int .i64 p.mem,.int .i64 p.kind,.bool p.late],.string name] w fun e w'=>∃vp vn,e=.returned (.int .i64 (d.ps.length:Nat))∧aG w0 F ex { d with vp:=vp,vn:=vn,ps:=d.ps++[p],ns:=d.ns++[name] } w'∧w.heap.size≤w'.heap.size∧aJ F F w w':=by
 obtain⟨i0,hi0,hz0,hz1,hz2⟩:=info_parts Tryz.OM
 obtain⟨k0,hk0,ky0,ky1,ky2⟩:=info_parts Tryz.OG
 obtain⟨w1,hw1⟩:∃w1,w1=w.alloc (.cells #[.string p.op,.int .i64 p.n,.slice p.oo p.aF.length p.oc,.int .i64 p.mem,.int .i64 p.kind,.bool p.late] 185):=⟨_,rfl⟩
 have hb1:Bw w w1:=by rw[hw1];exact aH
 obtain⟨Q,hQ⟩:∃Q,Q=w.heap.size:=⟨_,rfl⟩
 have hr1:w1.heap[Q]?=some (.cells #[.string p.op,.int .i64 p.n,.slice p.oo p.aF.length p.oc,.int .i64 p.mem,.int .i64 p.kind,.bool p.late] 185 (0,0)):=by rw[hw1,hQ];exact heap_alloc_new _ _
 have hP1:=h.keep hb1
 have hPd:aG w0 F ex d w1.drew:=hP1.keep (Below.refl _ _).drew
 have HP1:=aA hP1
 have HWB:=aA hb1
 have HLQ:Hid (∀(i:Nat) (c:Own) (q:Nat),(d.own w0.heap.size++ex)[i]?=some c→c.blk=some q→q≠Q):=fun i c q hi hq=>by have:=(h.sep.lt i c q hi hq).2.1;omega
 have HPR:Hid (aB w1 F 1 (.slice p.oo p.aF.length p.oc) p.aF.length (aX p.aF)):=hp.keep (fun b hF hl=>⟨hF,hb1.block b hl⟩)
 have qc:∀{W:World},W.heap[Q]?=some (.cells #[.string p.op,.int .i64 p.n,.slice p.oo p.aF.length p.oc,.int .i64 p.mem,.int .i64 p.kind,.bool p.late] 185 (0,0))→W.cell? ⟨Q,0,none⟩=some (.string p.op)∧W.cell? ⟨Q,0+1,none⟩=some (.int .i64 p.n)∧W.cell? ⟨Q,0+2,none⟩=some (.slice p.oo p.aF.length p.oc)∧W.cell? ⟨Q,0+3,none⟩=some (.int .i64 p.mem)∧W.cell? ⟨Q,0+4,none⟩=some (.int .i64 p.kind)∧W.cell? ⟨Q,0+5,none⟩=some (.bool p.late):=fun {W} hr=>by
  refine⟨?_,?_,?_,?_,?_,?_⟩<;>(rw[cell_of_row W _ _ _ _ (0,0) hr];rfl)
 have HQC:Hid (∀{W:World},W.heap[Q]?=some (.cells #[.string p.op,.int .i64 p.n,.slice p.oo p.aF.length p.oc,.int .i64 p.mem,.int .i64 p.kind,.bool p.late] 185 (0,0))→W.cell? ⟨Q,0,none⟩=some (.string p.op)∧W.cell? ⟨Q,0+1,none⟩=some (.int .i64 p.n)∧W.cell? ⟨Q,0+2,none⟩=some (.slice p.oo p.aF.length p.oc)∧W.cell? ⟨Q,0+3,none⟩=some (.int .i64 p.mem)∧W.cell? ⟨Q,0+4,none⟩=some (.int .i64 p.kind)∧W.cell? ⟨Q,0+5,none⟩=some (.bool p.late)):=qc
 have xc:=hPd.iK
 have bc:w1.drew.cell? ⟨d.B,0,none⟩=some d.vp:=by rw[cell_of_row w1.drew _ _ _ _ (0,0) hPd.bb];rfl
 obtain⟨a0,a1,a2,a3,a4,a5⟩:=qc (show w1.drew.heap[Q]?=_ from hr1)
 have HW1:Hid (w.alloc (.cells #[.string p.op,.int .i64 p.n,.slice p.oo p.aF.length p.oc,.int .i64 p.mem,.int .i64 p.kind,.bool p.late] 185)=w1∧w.heap.size=Q):=⟨hw1.symm,hQ.symm⟩
 have HMX:Hid (d.ps.length+1≤maxLen∧(d.ps.length+1)*72≤140737488355328∧d.ns.length+1≤maxLen∧(d.ns.length+1)*16≤140737488355328):=by unfold Hid maxLen;omega
 have HR1:=aA hr1
 clear h hp hl hn hw1 hb1 hQ hr1 hP1 hPd qc
 go_enter Tryz.func177,Tryz.ntmps177
 go_upto_region 1 with fail
 rw[HW1.out.1,HW1.out.2]
 refine fI 16 (fun w'=>w'.cell? ⟨d.X,0+5,none⟩=some (.pointer (some ⟨d.B,0,none⟩))∧w'.cell? ⟨Q,0,none⟩=some (.string p.op)∧w'.cell? ⟨Q,0+1,none⟩=some (.int .i64 p.n)∧w'.cell? ⟨Q,0+2,none⟩=some (.slice p.oo p.aF.length p.oc)∧w'.cell? ⟨Q,0+3,none⟩=some (.int .i64 p.mem)∧w'.cell? ⟨Q,0+4,none⟩=some (.int .i64 p.kind)∧w'.cell? ⟨Q,0+5,none⟩=some (.bool p.late)) (fun w'=>w'.cell? ⟨d.B,0,none⟩=some d.vp) (by kernel_rfl) ⟨xc,a0,a1,a2,a3,a4,a5⟩ bc (fun hh=>?_)
 refine tj 0 7 (.pointer (some ⟨d.X,0,none⟩)) rfl (by rintro w ⟨b0,b1,b2,b3,b4,b5,b6⟩;go_simp) hh ?_
 refine tj 1 8 (.pointer (some ⟨d.X,0,none⟩)) rfl (by rintro w ⟨b0,b1,b2,b3,b4,b5,b6⟩;go_simp) hh ?_
 refine tj 2 9 (.pointer (some ⟨d.X,5,none⟩)) rfl (by rintro w ⟨b0,b1,b2,b3,b4,b5,b6⟩;go_simp) hh ?_
 refine tj 3 10 (.pointer (some ⟨d.B,0,none⟩)) rfl (by rintro w ⟨b0,b1,b2,b3,b4,b5,b6⟩;go_simp) hh ?_
 refine tj 4 11 (.pointer (some ⟨d.X,0,none⟩)) rfl (by rintro w ⟨b0,b1,b2,b3,b4,b5,b6⟩;go_simp) hh ?_
 refine tj 5 12 (.pointer (some ⟨d.X,0,none⟩)) rfl (by rintro w ⟨b0,b1,b2,b3,b4,b5,b6⟩;go_simp) hh ?_
 refine tj 6 13 (.pointer (some ⟨d.X,5,none⟩)) rfl (by rintro w ⟨b0,b1,b2,b3,b4,b5,b6⟩;go_simp) hh ?_
 refine tj 7 14 (.pointer (some ⟨d.B,0,none⟩)) rfl (by rintro w ⟨b0,b1,b2,b3,b4,b5,b6⟩;go_simp) hh ?_
 refine tj 8 15 (.pointer (some ⟨d.B,0,none⟩)) rfl (by rintro w ⟨b0,b1,b2,b3,b4,b5,b6⟩;go_simp) hh ?_
 refine tj 9 16 (.pointer (some ⟨d.B,0,none⟩)) rfl (by rintro w ⟨b0,b1,b2,b3,b4,b5,b6⟩;go_simp) hh ?_
 refine oU 13 (i:=10) (oi:=⟨some 17,_,_,_,_,_⟩) (v:=d.vp) rfl rfl (by kernel_rfl) (by kernel_rfl) (by kernel_rfl) (by kernel_rfl) (by kernel_rfl) (by kernel_rfl) (by kernel_rfl) (fun _ _ _ h=>h) (Or.inl ⟨by rfl,?_⟩) hh ?_
 ·intro w hSw;(try dsimp only at hSw);go_simp
 try simp only[tp]
 refine tj 11 18 (.agg #[.string p.op,.int .i64 p.n,.slice p.oo p.aF.length p.oc,.int .i64 p.mem,.int .i64 p.kind,.bool p.late]) rfl (by rintro w ⟨b0,b1,b2,b3,b4,b5,b6⟩;go_simp) hh ?_
 refine aS 12 (some 19) rfl fun K hK=>?_
 go_simp
 obtain⟨wA,hwA⟩:∃wA,wA=(w1.alloc (.cells #[.string p.op,.int .i64 p.n,.slice p.oo p.aF.length p.oc,.int .i64 p.mem,.int .i64 p.kind,.bool p.late] 185)).drew:=⟨_,rfl⟩
 have hbA:Bw w1 wA:=by rw[hwA];exact(aH).drew
 have hPA:=HP1.out.keep hbA
 have hrA:=aN hbA HR1.out
 have hnA:∀k x,[Value.string p.op,.int .i64 p.n,.slice p.oo p.aF.length p.oc,.int .i64 p.mem,.int .i64 p.kind,.bool p.late][k]?=some x→wA.cell? ((⟨w1.heap.size,0,none⟩:Addr).add k)=some x:=by rw[hwA];exact World.news_of_block (heap_alloc_new w1 _)
 have hqA:=HQC.out hrA
 have bcA:wA.cell? ⟨d.B,0,none⟩=some d.vp:=cr hPA.bb rfl
 rw[←hwA]
 refine hK.out _ _ ⟨⟨hPA.iK,hqA⟩,fun _=>bcA⟩ (fun hh=>?_)
 clear hK K
 try simp only[tp]
 refine aS 13 (some 20) rfl fun K hK=>?_
 refine step_append_lies _ rfl (.tmp 17) (.tmp 19) 181 rfl w0.heap.size 185 i0 _ 6 72 Tryz.underlying181 hi0 hz0 hz1 hz2 rfl (by omega) d.vp d.ps.length _ (by simp [Act.eval]) hPA.parts ⟨w1.heap.size,0,none⟩ 1 1 [.string p.op,.int .i64 p.n,.slice p.oo p.aF.length p.oc,.int .i64 p.mem,.int .i64 p.kind,.bool p.late] (by simp [Act.eval]) rfl hnA (by simp [Value.oneCell']) (by omega) HMX.out.1 HMX.out.2.1 hPA.sep.base _ rfl ?_
 intro g cap w7 hown7 hgrow hat hlt7
 have hQl:Q<wA.heap.size:=(bN hrA).1
 have hvQ:d.vp.ownBlock≠some Q:=fun e=>HLQ.out 4 _ Q rfl e rfl
 have hvX:d.vp.ownBlock≠some d.X:=hPA.ne (i:=0) (j:=4) (by decide) rfl rfl rfl
 have hvB:d.vp.ownBlock≠some d.B:=hPA.ne (i:=1) (j:=4) (by decide) rfl rfl rfl
 have hr7:=gT hgrow hvQ hrA
 have hx7:=gT hgrow hvX hPA.xb
 have hb7:=gT hgrow hvB hPA.bb
 have xc7:w7.cell? ⟨d.X,0+5,none⟩=some (.pointer (some ⟨d.B,0,none⟩)):=cr hx7 rfl
 have bc7:w7.cell? ⟨d.B,0,none⟩=some d.vp:=cr hb7 rfl
 have fz7:w7.frozen? ⟨d.B,0,none⟩=false:=bR hb7
 have HF:Hid (aG w0 F ex { d with vp:=.slice (some ⟨g,0,none⟩) (d.ps.length+1) cap,ps:=d.ps++[p] } (w7.setCell ⟨d.B,0,none⟩ (.slice (some ⟨g,0,none⟩) (d.ps.length+1) cap))):=(hPA.part (HPR.out.keep (fun b hF hl=>⟨hF,hbA.block b hl⟩)) hown7 hgrow hat).1
 have HFS:Hid (aJ F F w (w7.setCell ⟨d.B,0,none⟩ (.slice (some ⟨g,0,none⟩) (d.ps.length+1) cap))∧w.heap.size≤(w7.setCell ⟨d.B,0,none⟩ (.slice (some ⟨g,0,none⟩) (d.ps.length+1) cap)).heap.size):=by
  have hp:=(hPA.part (HPR.out.keep (fun b hF hl=>⟨hF,hbA.block b hl⟩)) hown7 hgrow hat).2
  have hwA:Bw w wA:=HWB.out.trans (hbA.mono HWB.out.size)
  refine⟨fun b hF hl=>?_,Nat.le_trans hwA.size hp.2⟩
  obtain⟨a1,a2⟩:=hp.1 b hF (Nat.lt_of_lt_of_le hl hwA.size)
  exact⟨a1,a2.trans (hwA.block b hl)⟩
 refine hK.out _ _ ⟨⟨xc7,HQC.out hr7⟩,fun _=>bc7⟩ (fun hh=>?_)
 clear hK K
 try simp only[tp]
 refine tj 14 21 (.pointer (some ⟨d.B,0,none⟩)) rfl (by rintro w ⟨b0,b1,b2,b3,b4,b5,b6⟩;go_simp) hh ?_
 refine tj 15 22 (.pointer (some ⟨d.B,0,none⟩)) rfl (by rintro w ⟨b0,b1,b2,b3,b4,b5,b6⟩;go_simp) hh ?_
 refine aS 16 none rfl fun K hK=>?_
 go_simp
 have hXB:d.X≠d.B:=fun e=>hPA.ne (i:=0) (j:=1) (by decide) rfl rfl rfl (by rw[e];rfl)
 have hQB:Q≠d.B:=fun e=>HLQ.out 1 _ d.B rfl rfl e.symm
 have hset:∀q,q≠d.B→(w7.setCell ⟨d.B,0,none⟩ (.slice (some ⟨g,0,none⟩) (d.ps.length+1) cap)).heap[q]?=w7.heap[q]?:=fun q hq=>Below.heap_setCell w7 ⟨d.B,0,none⟩ _ q hq
 have xc8:(w7.setCell ⟨d.B,0,none⟩ (.slice (some ⟨g,0,none⟩) (d.ps.length+1) cap)).cell? ⟨d.X,0+5,none⟩=some (.pointer (some ⟨d.B,0,none⟩)):=HF.out.iK
 refine hK.out _ _ (Till.last ⟨xc8,HQC.out ((hset Q hQB).trans hr7)⟩) (fun hh=>?_)
 clear hK K
 try simp only[tp]
 refine dU (by kernel_rfl) ?_ _
 obtain⟨w8,hw8⟩:∃w8,w8=w7.setCell ⟨d.B,0,none⟩ (.slice (some ⟨g,0,none⟩) (d.ps.length+1) cap):=⟨_,rfl⟩
 rw[←hw8] at HF HFS
 rw[←hw8]
 have nc:w8.cell? ⟨d.X,0+8,none⟩=some d.vn:=cr HF.out.xb rfl
 clear hown7 hgrow hat hlt7 hvQ hvX hvB hr7 hx7 hb7 xc7 bc7 fz7 hXB hQB hset xc8 hw8 hqA bcA hnA hrA hPA hbA hwA hQl hh xc bc a0 a1 a2 a3 a4 a5
 obtain⟨d2,hd2⟩:∃d2:aK,d2={ d with vp:=.slice (some ⟨g,0,none⟩) (d.ps.length+1) cap,ps:=d.ps++[p] }:=⟨_,rfl⟩
 have HN8:Hid (aG w0 F ex d2 (w8.alloc (.cells #[.string name] 9))):=by rw[hd2];exact HF.out.keep (aH)
 have HD2:Hid (d2.X=d.X∧d2.vn=d.vn∧d2.ns=d.ns):=by rw[hd2];exact⟨rfl,rfl,rfl⟩
 have HNR:Hid ((w8.alloc (.cells #[.string name] 9)).ownsRow w0.heap.size 9 1 d.vn d.ns.length (nD d.ns)):=by have:=HN8.out.names;rwa [HD2.out.2.1,HD2.out.2.2] at this
 have HNW:Hid (∀k x,[Value.string name][k]?=some x→(w8.alloc (.cells #[.string name] 9)).cell? ((⟨w8.heap.size,0,none⟩:Addr).add k)=some x):=World.news_of_block (heap_alloc_new w8 _)
 have HXA:Hid ((w8.alloc (.cells #[.string name] 9)).heap[d.X]?=some { d with vp:=.slice (some ⟨g,0,none⟩) (d.ps.length+1) cap,ps:=d.ps++[p] }.xo):=by have:=HN8.out.xb;rw[hd2] at this;exact this
 have HVX:Hid (d.vn.ownBlock≠some d.X):=by have:=HN8.out.ne (i:=0) (j:=5) (by decide) rfl rfl rfl;rw[hd2] at this;exact this
 have HBS:Hid (w0.heap.size≤(w8.alloc (.cells #[.string name] 9)).heap.size):=HN8.out.sep.base
 go_upto_region 3 with(at_builtin;refine wpList_append_lies _ rfl _ _ 23 rfl w0.heap.size 9 k0 _ 1 16 Tryz.underlying23 hk0 ky0 ky1 ky2 rfl (by omega) d.vn d.ns.length _ rfl HNR.out ⟨w8.heap.size,0,none⟩ 1 1 _ rfl rfl HNW.out (by simp [Value.oneCell']) (by omega) HMX.out.2.2.1 HMX.out.2.2.2 HBS.out _ rfl ?_;intro g2 cap2 w9 hown9 hgrow9 hat9 hlt9;have hx9:=gT hgrow9 HVX.out HXA.out;have n9:w9.cell? ⟨d.X,0+8,none⟩=some d.vn:=(cr hx9 rfl);have f9:w9.frozen? ⟨d.X,0+8,none⟩=false:=bR hx9)
 have hfin:aG w0 F ex { d2 with vn:=.slice (some ⟨g2,0,none⟩) (d2.ns.length+1) cap2,ns:=d2.ns++[name] } (w9.setCell ⟨d2.X,8,none⟩ (.slice (some ⟨g2,0,none⟩) (d2.ns.length+1) cap2)):=(HN8.out.name (by rw[HD2.out.2.2];exact hown9) (by rw[HD2.out.2.1];exact hgrow9) (by rw[HD2.out.2.1];exact hat9)).1
 have hfs2:=(HN8.out.name (by rw[HD2.out.2.2];exact hown9) (by rw[HD2.out.2.1];exact hgrow9) (by rw[HD2.out.2.1];exact hat9)).2
 rw[HD2.out.1,HD2.out.2.2] at hfs2
 rw[hd2] at hfin
 obtain⟨wZ,hwZ⟩:∃wZ,wZ=w9.setCell ⟨d.X,8,none⟩ (.slice (some ⟨g2,0,none⟩) (d.ns.length+1) cap2):=⟨_,rfl⟩
 have HFN:Hid (aG w0 F ex { d with vp:=.slice (some ⟨g,0,none⟩) (d.ps.length+1) cap,vn:=.slice (some ⟨g2,0,none⟩) (d.ns.length+1) cap2,ps:=d.ps++[p],ns:=d.ns++[name] } wZ):=by rw[hwZ];exact hfin
 have HFE:Hid (w.heap.size≤wZ.heap.size∧aJ F F w wZ):=by
  have hba:Bw w8 (w8.alloc (.cells #[.string name] 9)):=aH
  rw[hwZ]
  refine⟨Nat.le_trans HFS.out.2 (Nat.le_trans hba.size hfs2.2),fun b hF hl=>?_⟩
  obtain⟨a1,a2⟩:=HFS.out.1 b hF hl
  have hl8:=Nat.lt_of_lt_of_le hl HFS.out.2
  obtain⟨a3,a4⟩:=hfs2.1 b a1 (Nat.lt_of_lt_of_le hl8 hba.size)
  exact⟨a3,a4.trans ((hba.block b hl8).trans a2)⟩
 have xZ:wZ.cell? ⟨d.X,0+5,none⟩=some (.pointer (some ⟨d.B,0,none⟩)):=HFN.out.iK
 have bZ:wZ.cell? ⟨d.B,0,none⟩=some (.slice (some ⟨g,0,none⟩) (d.ps.length+1) cap):=cr HFN.out.bb rfl
 rw[←hwZ]
 clear hfin hfs2 hwZ hown9 hgrow9 hat9 hlt9 hx9 n9 f9 nc hd2 HN8 HD2 HNR HNW HXA HVX HBS HF
 have N4:Hid (wrap64 (d.ps.length:Int)=(d.ps.length:Int)):=by have:=HMX.out.1;unfold maxLen at this;unfold Hid wrap64;omega
 go_wp2
 go_ret
 exact⟨_,_,by simp;exact N4.out,HFN.out,HFE.out⟩
end Go.Proofs.YtmgfakcccfahaaaGreatDoor
