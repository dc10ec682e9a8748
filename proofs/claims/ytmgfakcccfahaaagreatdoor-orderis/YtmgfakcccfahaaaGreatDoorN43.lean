/-
  lustrumlaw1.FlatOf BY CONTRACT: the same program in new memory, and plain.
-/
import Derived.Test.YtmgfakcccfahaaaGreatDoorN42
namespace Go.Proofs.YtmgfakcccfahaaaGreatDoor
open Go.RowKit
set_option maxRecDepth 100000
set_option maxHeartbeats 8000000

def eT(w:World)(F:Nat→Prop)(v:Value)(l:List Ex):Prop:=∃xs,aB w F 4 v l.length xs∧aI w F l xs
theorem eT.keep{w w':World}{F F':Nat→Prop}{v:Value}{l:List Ex}(h:eT w F v l)(hs:aP F F' w w'):eT w' F' v l:=by
 obtain⟨xs,h1,h2⟩:=h
 exact⟨xs,h1.keep hs,h2.keep hs⟩
theorem cells5{w:World}{U:Nat}{x0 x1 x2 x3 x4:Value}{t:TypeId}(h:w.heap[U]?=some (.cells #[x0,x1,x2,x3,x4] t (0,0))):(w.frozen? ⟨U,0,none⟩=false∧w.frozen? ⟨U,0+1,none⟩=false∧w.frozen? ⟨U,0+2,none⟩=false∧w.frozen? ⟨U,0+3,none⟩=false∧w.frozen? ⟨U,0+4,none⟩=false)∧w.cell? ⟨U,0,none⟩=some x0∧w.cell? ⟨U,0+1,none⟩=some x1∧w.cell? ⟨U,0+2,none⟩=some x2∧w.cell? ⟨U,0+3,none⟩=some x3∧w.cell? ⟨U,0+4,none⟩=some x4:=by
 refine⟨⟨dW h,dW h,dW h,dW h,dW h⟩,?_,?_,?_,?_,?_⟩<;>(rw[cell_of_row w _ _ _ _ (0,0) h];rfl)
theorem Tryz.MJ:(Tryz.prog.info? 95).map (fun i=>(i.zero,i.size,i.bytes))=some (some (.agg #[.string ⟨#[]⟩,.int .i64 0,.string ⟨#[]⟩,.int .i64 0,.string ⟨#[]⟩,.slice none 0 0]),6,88):=by kernel_rfl
theorem Tryz.MF:(Tryz.prog.info? 9).map (fun i=>(i.zero,i.size,i.bytes))=some (some (.string ⟨#[]⟩),1,16):=by kernel_rfl
theorem Lp(l:List Ex):∀u∈gU l,u.oneCell'=true:=by
 intro u hu
 unfold gU at hu
 obtain⟨e,_,rfl⟩:=List.mem_map.1 hu
 rfl
def kG(base U:Nat)(v:Value)(w:World):Nat→Prop:=fun b=>((From base b∧b≠U)∧Off v b)∧Pl w b
structure tN(w:World)(p:Pg)(B T U:Nat)(o1 o2 o3 o4 o5:Option Addr)(c1 c2 c3 c4 c5:Nat)(v1 v2 v4 v5:Value)(j:Nat)(lo:Option Addr)(lc:Nat)(wr:World):Prop where
 box:wr.heap[B]?=some (.cells #[.slice o1 p.ins.length c1,.slice o2 p.outs.length c2,.slice o3 p.fs.length c3,.slice o4 p.asserts.length c4,.slice o5 p.checks.length c5] 27 (0,0))
 top:wr.heap[T]?=some (.cells #[.slice none 0 0,.slice none 0 0,.slice none 0 0,.slice none 0 0,.slice none 0 0] 39 (0,0))
 blk:wr.heap[U]?=some (.cells #[v1,v2,.slice lo j lc,v4,v5] 39 (0,0))
 fs:∃cells,wr.ownsRow (U+1) 95 6 (.slice lo j lc) j cells∧cB wr (kG (w.heap.size+2) U (.slice lo j lc) wr) (p.fs.take j) cells
 ins:aB wr (kG (w.heap.size+2) U (.slice lo j lc) wr) 2 v1 p.ins.length (bR p.ins)
 outs:aB wr (kG (w.heap.size+2) U (.slice lo j lc) wr) 1 v2 p.outs.length (gU p.outs)
 asserts:∃xs,aB wr (kG (w.heap.size+2) U (.slice lo j lc) wr) 4 v4 p.asserts.length xs∧aI wr (kG (w.heap.size+2) U (.slice lo j lc) wr) p.asserts xs
 checks:∃xs,aB wr (kG (w.heap.size+2) U (.slice lo j lc) wr) 4 v5 p.checks.length xs∧aI wr (kG (w.heap.size+2) U (.slice lo j lc) wr) p.checks xs
 below:Bw w wr
 size:U+1≤wr.heap.size
 U2:w.heap.size+2≤U
theorem cB.append{w:World}{S:Nat→Prop}{fs gs:List Fw}{xs ys:List Value}(h:cB w S fs xs)(g:cB w S gs ys):cB w S (fs++gs) (xs++ys):=by
 induction h with
 | nil=>exact g
 | cons name kind e fs xs zs h1 _ ih=>
  have:=cB.cons name kind e (fs++gs) xs (zs++ys) h1 ih
  simpa using this
def dA(base U:Nat)(w:World):Nat→Prop:=fun b=>(From base b∧b≠U)∧Pl w b
theorem zC{base:Nat}{w w':World}(hb:Bw w w'):aP (bJ base w) (bJ base w') w w':=aP.pl (S:=From base) (S':=From base) fun b h hl=>⟨h,hb.block b hl⟩
theorem oQ{base U:Nat}{w w':World}(hb:Bw w w'):aP (dA base U w) (dA base U w') w w':=aP.pl (S:=fun b=>From base b∧b≠U) (S':=fun b=>From base b∧b≠U) fun b h hl=>⟨h,hb.block b hl⟩
theorem zB{base H:Nat}{w:World}(h:base≤H):aP (bJ H w) (bJ base w) w w:=fun _ hb _=>⟨⟨Nat.le_trans h hb.1,hb.2⟩,rfl⟩
theorem qX{base H U:Nat}{w:World}(h:base≤H)(hU:U<H):aP (bJ H w) (dA base U w) w w:=fun b hb _=>⟨⟨⟨Nat.le_trans h hb.1,fun e=>by have h1:H≤b:=hb.1;omega⟩,hb.2⟩,rfl⟩
theorem qY{base U:Nat}{w w':World}(hU:U=w.heap.size)(hb:Bw w w'):aP (bJ base w) (dA base U w') w w':=fun b h hl=>by
 obtain⟨cs,t,hc⟩:=h.2
 exact⟨⟨⟨h.1,by omega⟩,cs,t,(hb.block b hl).trans hc⟩,hb.block b hl⟩
theorem zA{base U:Nat}{w w':World}(hg:w.grownBy w' (some U)):aP (dA base U w) (dA base U w') w w':=aP.pl (S:=fun b=>From base b∧b≠U) (S':=fun b=>From base b∧b≠U) fun b h hl=>⟨h,hg.block b hl (fun e=>h.2 (Option.some.inj e))⟩
structure Fs(w:World)(p:Pg)(B T U:Nat)(o1 o2 o3 o4 o5:Option Addr)(c1 c2 c3 c4 c5:Nat)(v1 v4 v5:Value)(wr:World):Prop where
 box:wr.heap[B]?=some (.cells #[.slice o1 p.ins.length c1,.slice o2 p.outs.length c2,.slice o3 p.fs.length c3,.slice o4 p.asserts.length c4,.slice o5 p.checks.length c5] 27 (0,0))
 top:wr.heap[T]?=some (.cells #[.slice none 0 0,.slice none 0 0,.slice none 0 0,.slice none 0 0,.slice none 0 0] 39 (0,0))
 blk:wr.heap[U]?=some (.cells #[v1,.slice none 0 0,.slice none 0 0,v4,v5] 39 (0,0))
 ins:aB wr (dA (w.heap.size+2) U wr) 2 v1 p.ins.length (bR p.ins)
 asserts:∃xs,aB wr (dA (w.heap.size+2) U wr) 4 v4 p.asserts.length xs∧aI wr (dA (w.heap.size+2) U wr) p.asserts xs
 checks:∃xs,aB wr (dA (w.heap.size+2) U wr) 4 v5 p.checks.length xs∧aI wr (dA (w.heap.size+2) U wr) p.checks xs
 below:Bw w wr
 size:U+1≤wr.heap.size
 U2:w.heap.size+2≤U
 MB:p.ins.length=0→v1=.slice none 0 0
theorem vV{w w1 W wF:World}{p:Pg}{B T U:Nat}{o1 o2 o3 o4 o5 s1 s4 s5:Option Addr}{c1 c2 c3 c4 c5 t1 t4 t5:Nat}(hB:Bw w w1∧B=w.heap.size∧T=w.heap.size+1∧w1.heap.size=w.heap.size+2∧w1.heap[B]?=some (.cells #[.slice o1 p.ins.length c1,.slice o2 p.outs.length c2,.slice o3 p.fs.length c3,.slice o4 p.asserts.length c4,.slice o5 p.checks.length c5] 27 (0,0))∧w1.heap[T]?=some (.cells #[.slice none 0 0,.slice none 0 0,.slice none 0 0,.slice none 0 0,.slice none 0 0] 39 (0,0)))(hW:Bw w1 W)(hU:U<W.heap.size∧W.heap[U]?=some (.cells #[.slice none 0 0,.slice none 0 0,.slice none 0 0,.slice none 0 0,.slice none 0 0] 39 (0,0))∧w1.heap.size≤U)(hV:aB W (dA (w.heap.size+2) U W) 2 (.slice s1 p.ins.length t1) p.ins.length (bR p.ins))(hA:eT W (dA (w.heap.size+2) U W) (.slice s4 p.asserts.length t4) p.asserts)(hE:eT W (dA (w.heap.size+2) U W) (.slice s5 p.checks.length t5) p.checks)(hZ:p.ins.length=0→s1=none∧t1=0)
  (hwF:wF=((((W.setCell ⟨U,0,none⟩ (.slice s1 p.ins.length t1)).setCell ⟨U,1,none⟩ (.slice none 0 0)).setCell ⟨U,2,none⟩ (.slice none 0 0)).setCell ⟨U,3,none⟩ (.slice s4 p.asserts.length t4)).setCell ⟨U,4,none⟩ (.slice s5 p.checks.length t5)):Bw w1 wF∧Fs w p B T U o1 o2 o3 o4 o5 c1 c2 c3 c4 c5 (.slice s1 p.ins.length t1) (.slice s4 p.asserts.length t4) (.slice s5 p.checks.length t5) wF:=by
 have hgF:W.grownBy wF (some U):=by
  rw[hwF]
  exact dQ (dQ (dQ (dQ (kQ W U 0 _) (kQ _ U 1 _)) (kQ _ U 2 _)) (kQ _ U 3 _)) (kQ _ U 4 _)
 have hrF:wF.heap[U]?=some (.cells #[.slice s1 p.ins.length t1,.slice none 0 0,.slice none 0 0,.slice s4 p.asserts.length t4,.slice s5 p.checks.length t5] 39 (0,0)):=by
  rw[hwF]
  exact heap_setCell_same _ U 4 _ _ _ (heap_setCell_same _ U 3 _ _ _ (heap_setCell_same _ U 2 _ _ _ (heap_setCell_same _ U 1 _ _ _ (heap_setCell_same W U 0 _ _ _ hU.2.1))))
 have hbF:Bw w1 wF:=hW.grown hgF hW.size (fun k hk=>by obtain rfl:=Option.some.inj hk;exact hU.2.2)
 exact⟨hbF,aG hbF hB.2.2.2.2.1,aG hbF hB.2.2.2.2.2,hrF,hV.keep (zA hgF),hA.keep (zA hgF),hE.keep (zA hgF),hB.1.trans (hbF.mono hB.1.size),Nat.le_trans hU.1 hgF.size,by have:=hU.2.2;have:=hB.2.2.2.1;omega,fun e=>by obtain⟨a,b⟩:=hZ e;rw[a,b,e]⟩
theorem Fit.xJ{N:Nat}:∀{l m:List Ex},Fit N (l++m)→Fit N l∧Fit N m
 | [],m,h=>⟨.nil,h⟩
 | e::l,m,h=>by
  cases h with
  | cons op n s es _ h1 h2 h3=>
   obtain⟨a,b⟩:=Fit.xJ h3
   exact⟨.cons op n s es l h1 h2 a,b⟩
theorem Nz{p:Pg}(h:Fit 2199023255552 (aD p)):Fit 2199023255552 p.asserts∧Fit 2199023255552 p.checks∧∀(j:Nat) (hj:j<p.fs.length) op n s es,p.fs[j].e=.mk op n s es→es.length≤2199023255552∧Fit 2199023255552 es:=by
 unfold aD at h
 obtain⟨h1,h2⟩:=Fit.xJ h
 obtain⟨h3,h4⟩:=Fit.xJ h2
 exact⟨h3,h4,fun j hj op n s es e=>h1.at (i:=j) (by simpa using hj) (by simpa using e)⟩
theorem rW{w w':World}(hb:Bw w w'){k:Nat}{o:Obj}(h:w.heap[k]?=some o):w'.heap[k]?=some o:=by
 rw[hb.block k (bE h).1];exact h
theorem Np(w:World)(S:Nat→Prop)(p:Pg)(o1 o2 o3 o4 o5:Option Addr)(c1 c2 c3 c4 c5:Nat)(h:fE w S p (.slice o1 p.ins.length c1) (.slice o2 p.outs.length c2) (.slice o3 p.fs.length c3) (.slice o4 p.asserts.length c4) (.slice o5 p.checks.length c5))(hs:p.ins.length≤2097152∧p.outs.length≤2097152∧p.fs.length≤2097152∧p.asserts.length≤2097152∧p.checks.length≤2097152)(hfa:Fit 2199023255552 (aD p)) :
  Calls Tryz.prog 10 #[.agg #[.slice o1 p.ins.length c1,.slice o2 p.outs.length c2,.slice o3 p.fs.length c3,.slice o4 p.asserts.length c4,.slice o5 p.checks.length c5]] w fun e w'=>∃q1 q2 q3 q4 q5 d1 d2 d3 d4 d5,e=.returned (.agg #[.slice q1 p.ins.length d1,.slice q2 p.outs.length d2,.slice q3 p.fs.length d3,.slice q4 p.asserts.length d4,.slice q5 p.checks.length d5])∧fE w' (bJ w.heap.size w') p (.slice q1 p.ins.length d1) (.slice q2 p.outs.length d2) (.slice q3 p.fs.length d3) (.slice q4 p.asserts.length d4) (.slice q5 p.checks.length d5)∧(p.ins.length=0→q1=none∧d1=0)∧Bw w w':=by
 obtain⟨w1,hw1⟩:∃w1,w1=(w.alloc (.cells #[.slice o1 p.ins.length c1,.slice o2 p.outs.length c2,.slice o3 p.fs.length c3,.slice o4 p.asserts.length c4,.slice o5 p.checks.length c5] 27)).alloc (.cells #[.slice none 0 0,.slice none 0 0,.slice none 0 0,.slice none 0 0,.slice none 0 0] 39):=⟨_,rfl⟩
 obtain⟨B,hB⟩:∃B,B=w.heap.size:=⟨_,rfl⟩
 obtain⟨T,hT⟩:∃T,T=w.heap.size+1:=⟨_,rfl⟩
 have hbA:Bw w (w.alloc (.cells #[.slice o1 p.ins.length c1,.slice o2 p.outs.length c2,.slice o3 p.fs.length c3,.slice o4 p.asserts.length c4,.slice o5 p.checks.length c5] 27)):=aH
 have hb1:Bw w w1:=by rw[hw1];exact hbA.alloc hbA.size _
 have hrB:w1.heap[B]?=some (.cells #[.slice o1 p.ins.length c1,.slice o2 p.outs.length c2,.slice o3 p.fs.length c3,.slice o4 p.asserts.length c4,.slice o5 p.checks.length c5] 27 (0,0)):=by rw[hw1,hB];exact qD _ (heap_alloc_new _ _)
 have hrT:w1.heap[T]?=some (.cells #[.slice none 0 0,.slice none 0 0,.slice none 0 0,.slice none 0 0,.slice none 0 0] 39 (0,0)):=by rw[hw1,hT];exact dX w _ _
 have HB:Hid (Bw w w1∧B=w.heap.size∧T=w.heap.size+1∧w1.heap.size=w.heap.size+2∧w1.heap[B]?=some (.cells #[.slice o1 p.ins.length c1,.slice o2 p.outs.length c2,.slice o3 p.fs.length c3,.slice o4 p.asserts.length c4,.slice o5 p.checks.length c5] 27 (0,0))∧w1.heap[T]?=some (.cells #[.slice none 0 0,.slice none 0 0,.slice none 0 0,.slice none 0 0,.slice none 0 0] 39 (0,0))):=⟨hb1,hB,hT,by rw[hw1,World.size_alloc,World.size_alloc],hrB,hrT⟩
 have HC:Hid (∀W,Bw w1 W→W.cell? ⟨B,0,none⟩=some (.slice o1 p.ins.length c1)∧W.cell? ⟨B,0+1,none⟩=some (.slice o2 p.outs.length c2)∧W.cell? ⟨B,0+2,none⟩=some (.slice o3 p.fs.length c3)∧W.cell? ⟨B,0+3,none⟩=some (.slice o4 p.asserts.length c4)∧W.cell? ⟨B,0+4,none⟩=some (.slice o5 p.checks.length c5)):=fun W hW=>by
  have hr:=aG hW hrB
  refine⟨?_,?_,?_,?_,?_⟩<;>(rw[cell_of_row W _ _ _ _ (0,0) hr];rfl)
 have HP:Hid (fE w S p (.slice o1 p.ins.length c1) (.slice o2 p.outs.length c2) (.slice o3 p.fs.length c3) (.slice o4 p.asserts.length c4) (.slice o5 p.checks.length c5)∧(p.ins.length≤2097152∧p.outs.length≤2097152∧p.fs.length≤2097152∧p.asserts.length≤2097152∧p.checks.length≤2097152)):=⟨h,hs⟩
 have HFT:Hid (Fit 2199023255552 p.asserts∧Fit 2199023255552 p.checks∧∀(j:Nat) (hj:j<p.fs.length) op n s es,p.fs[j].e=.mk op n s es→es.length≤2199023255552∧Fit 2199023255552 es):=Nz hfa
 have HVA:Hid (∀W,Bw w W→Calls Tryz.prog 38 #[.slice o1 p.ins.length c1] W fun e w'=>(∃so sc,e=.returned (.slice so p.ins.length sc)∧aB w' (bJ W.heap.size w') 2 (.slice so p.ins.length sc) p.ins.length (bR p.ins)∧(p.ins.length=0→so=none∧sc=0))∧Bw W w'):=fun W hW=>FT W (fun _=>True) o1 c1 p.ins (h.ins.keep (fun b _ hl=>⟨trivial,hW.block b hl⟩)) (by omega)
 have HEA:Hid (∀W,Bw w W→Calls Tryz.prog 39 #[.slice o4 p.asserts.length c4] W fun e w'=>∃so sc,e=.returned (.slice so p.asserts.length sc)∧(∃ys',aB w' (bJ W.heap.size w') 4 (.slice so p.asserts.length sc) p.asserts.length ys'∧aI w' (bJ W.heap.size w') p.asserts ys')∧Bw W w'):=fun W hW=>by
  obtain⟨x4,h4,g4⟩:=h.asserts
  exact Ec W (fun _=>True) o4 c4 p.asserts.length p.asserts x4 rfl (h4.keep (fun b _ hl=>⟨trivial,hW.block b hl⟩)) (g4.keep (fun b _ hl=>⟨trivial,hW.block b hl⟩)) HFT.out.1 hs.2.2.2.1
 have HEC:Hid (∀W,Bw w W→Calls Tryz.prog 39 #[.slice o5 p.checks.length c5] W fun e w'=>∃so sc,e=.returned (.slice so p.checks.length sc)∧(∃ys',aB w' (bJ W.heap.size w') 4 (.slice so p.checks.length sc) p.checks.length ys'∧aI w' (bJ W.heap.size w') p.checks ys')∧Bw W w'):=fun W hW=>by
  obtain⟨x5,h5,g5⟩:=h.checks
  exact Ec W (fun _=>True) o5 c5 p.checks.length p.checks x5 rfl (h5.keep (fun b _ hl=>⟨trivial,hW.block b hl⟩)) (g5.keep (fun b _ hl=>⟨trivial,hW.block b hl⟩)) HFT.out.2.1 hs.2.2.2.2
 have HW1:Hid ((w.alloc (.cells #[.slice o1 p.ins.length c1,.slice o2 p.outs.length c2,.slice o3 p.fs.length c3,.slice o4 p.asserts.length c4,.slice o5 p.checks.length c5] 27)).alloc (.cells #[.slice none 0 0,.slice none 0 0,.slice none 0 0,.slice none 0 0,.slice none 0 0] 39)=w1∧w.heap.size=B∧w.heap.size+1=T):=⟨hw1.symm,hB.symm,hT.symm⟩
 obtain⟨a0,_,_,a3,a4⟩:=HC.out w1 (Below.refl _ _)
 clear h hs hfa hw1 hB hT hbA hb1 hrB hrT
 go_enter Tryz.func10,Tryz.ntmps10
 go_upto_region 1 with fail
 have HS:Hid (∀W,Bw w1 W→W.cell? ⟨B,0,none⟩=some (.slice o1 p.ins.length c1)∧W.cell? ⟨B,0+3,none⟩=some (.slice o4 p.asserts.length c4)∧W.cell? ⟨B,0+4,none⟩=some (.slice o5 p.checks.length c5)):=fun W hW=>⟨(HC.out W hW).1,(HC.out W hW).2.2.2.1,(HC.out W hW).2.2.2.2⟩
 rw[HW1.out.1]
 simp only[HW1.out.2.1]
 have HW:Hid (Bw w1 w1.drew):=(Below.refl _ _).drew
 have hS0:=HS.out w1.drew HW.out
 clear a0 a3 a4
 go_cut [3] (fun u wc=>∃U,u=.pointer (some ⟨U,0,none⟩)∧Hid (∃v1 v4 v5,Fs w p B T U o1 o2 o3 o4 o5 c1 c2 c3 c4 c5 v1 v4 v5 wc))
 case first=>
  refine nG 11 (fun W=>W.cell? ⟨B,0,none⟩=some (.slice o1 p.ins.length c1)∧W.cell? ⟨B,0+3,none⟩=some (.slice o4 p.asserts.length c4)∧W.cell? ⟨B,0+4,none⟩=some (.slice o5 p.checks.length c5)) (fun _=>True) (by kernel_rfl) hS0 trivial (fun hh=>?_)
  refine tj 0 5 (.pointer (some ⟨B,0,none⟩)) rfl (by rintro w ⟨e1,e2,e3⟩;go_simp) hh ?_
  refine tj 1 6 (.slice o1 p.ins.length c1) rfl (by rintro w ⟨e1,e2,e3⟩;go_simp) hh ?_
  refine tj 3 8 (.pointer (some ⟨B,0+3,none⟩)) rfl (by rintro w ⟨e1,e2,e3⟩;go_simp) hh ?_
  refine tj 4 9 (.slice o4 p.asserts.length c4) rfl (by rintro w ⟨e1,e2,e3⟩;go_simp) hh ?_
  refine tj 6 11 (.pointer (some ⟨B,0+4,none⟩)) rfl (by rintro w ⟨e1,e2,e3⟩;go_simp) hh ?_
  refine tj 7 12 (.slice o5 p.checks.length c5) rfl (by rintro w ⟨e1,e2,e3⟩;go_simp) hh ?_
  refine j6 (rs:=[2,10]) (by kernel_rfl) (by simp) ?_
  refine dB.cons (o:=⟨some 7,_,_,_,_,_⟩) rfl (fun K hK=>?_) (dB.cons (o:=⟨some 3,_,_,_,_,_⟩) rfl (fun K hK=>?_) dB.nil)
  ·go_simp
   refine(HVA.out w1.drew (HB.out.1.trans (HW.out.mono HB.out.1.size))).mono ?_
   rintro e x2 ⟨⟨s1,t1,rfl,hr,hz⟩,hb2⟩
   have NHV:Hid (aB x2 (bJ (w.heap.size+2) x2) 2 (.slice s1 p.ins.length t1) p.ins.length (bR p.ins)):=hr.keep (zB (show w.heap.size+2≤w1.drew.heap.size from by rw[←HB.out.2.2.2.1];exact HW.out.size))
   have HZ:=aA hz
   have NW:Hid (Bw w1 x2):=HW.out.trans (hb2.mono HW.out.size)
   clear hr hb2 HW hz
   have HV:=NHV
   have HW:=NW
   clear NW NHV
   go_wp2_with fail
   refine hK.out _ _ ⟨HS.out x2 HW.out,fun _=>trivial⟩ (fun hh=>?_)
   clear hK K
   try simp only[tp]
   refine j6 (rs:=[5,10]) (by kernel_rfl) (by simp) ?_
   refine dB.cons (o:=⟨some 10,_,_,_,_,_⟩) rfl (fun K hK=>?_) (dB.cons (o:=⟨some 3,_,_,_,_,_⟩) rfl (fun K hK=>?_) dB.nil)
   ·go_simp
    refine(HEA.out x2 (HB.out.1.trans (HW.out.mono HB.out.1.size))).mono ?_
    rintro e x3 ⟨s4,t4,rfl,hr,hb3⟩
    have NHV:Hid (aB x3 (bJ (w.heap.size+2) x3) 2 (.slice s1 p.ins.length t1) p.ins.length (bR p.ins)):=HV.out.keep (zC hb3)
    have NHA:Hid (eT x3 (bJ (w.heap.size+2) x3) (.slice s4 p.asserts.length t4) p.asserts):=eT.keep hr (zB (show w.heap.size+2≤x2.heap.size from by rw[←HB.out.2.2.2.1];exact HW.out.size))
    have NW:Hid (Bw w1 x3):=HW.out.trans (hb3.mono HW.out.size)
    clear hr hb3 HW HV
    have HV:=NHV
    have HA:=NHA
    have HW:=NW
    clear NW NHV NHA
    go_wp2_with fail
    refine hK.out _ _ ⟨HS.out x3 HW.out,fun _=>trivial⟩ (fun hh=>?_)
    clear hK K
    try simp only[tp]
    refine j6 (rs:=[8,10]) (by kernel_rfl) (by simp) ?_
    refine dB.cons (o:=⟨some 13,_,_,_,_,_⟩) rfl (fun K hK=>?_) (dB.cons (o:=⟨some 3,_,_,_,_,_⟩) rfl (fun K hK=>?_) dB.nil)
    ·go_simp
     refine(HEC.out x3 (HB.out.1.trans (HW.out.mono HB.out.1.size))).mono ?_
     rintro e x4 ⟨s5,t5,rfl,hr,hb4⟩
     have NHV:Hid (aB x4 (bJ (w.heap.size+2) x4) 2 (.slice s1 p.ins.length t1) p.ins.length (bR p.ins)):=HV.out.keep (zC hb4)
     have NHA:Hid (eT x4 (bJ (w.heap.size+2) x4) (.slice s4 p.asserts.length t4) p.asserts):=HA.out.keep (zC hb4)
     have NHE:Hid (eT x4 (bJ (w.heap.size+2) x4) (.slice s5 p.checks.length t5) p.checks):=eT.keep hr (zB (show w.heap.size+2≤x3.heap.size from by rw[←HB.out.2.2.2.1];exact HW.out.size))
     have NW:Hid (Bw w1 x4):=HW.out.trans (hb4.mono HW.out.size)
     clear hr hb4 HW HV HA
     have HV:=NHV
     have HA:=NHA
     have HE:=NHE
     have HW:=NW
     clear NW NHV NHA NHE
     go_wp2_with fail
     refine hK.out _ _ ⟨HS.out x4 HW.out,fun _=>trivial⟩ (fun hh=>?_)
     clear hK K
     try simp only[tp]
     refine tj 9 14 (.agg #[.slice s1 p.ins.length t1,.slice none 0 0,.slice none 0 0,.slice s4 p.asserts.length t4,.slice s5 p.checks.length t5]) rfl (by rintro w ⟨e1,e2,e3⟩;go_simp) hh ?_
     refine dY 10 (some 3) rfl fun K hK=>?_
     go_simp
     obtain⟨U,hU⟩:∃U,U=x4.heap.size:=⟨_,rfl⟩
     obtain⟨x5,hw2⟩:∃x5,x5=x4.alloc (.cells #[.slice none 0 0,.slice none 0 0,.slice none 0 0,.slice none 0 0,.slice none 0 0] 39):=⟨_,rfl⟩
     have hb5:Bw x4 x5:=by rw[hw2];exact aH
     have HU:Hid (U<x5.heap.size∧x5.heap[U]?=some (.cells #[.slice none 0 0,.slice none 0 0,.slice none 0 0,.slice none 0 0,.slice none 0 0] 39 (0,0))∧w1.heap.size≤U):=⟨by rw[hw2,hU,World.size_alloc];omega,by rw[hw2,hU];exact heap_alloc_new _ _,by rw[hU];exact HW.out.size⟩
     have NHV:Hid (aB x5 (dA (w.heap.size+2) U x5) 2 (.slice s1 p.ins.length t1) p.ins.length (bR p.ins)):=HV.out.keep (qY hU hb5)
     have NHA:Hid (eT x5 (dA (w.heap.size+2) U x5) (.slice s4 p.asserts.length t4) p.asserts):=HA.out.keep (qY hU hb5)
     have NHE:Hid (eT x5 (dA (w.heap.size+2) U x5) (.slice s5 p.checks.length t5) p.checks):=HE.out.keep (qY hU hb5)
     have NW:Hid (Bw w1 x5):=HW.out.trans (hb5.mono HW.out.size)
     try rw[←hw2]
     try rw[←hU]
     clear HW hb5 hw2 hU HV HA HE
     have HV:=NHV
     have HA:=NHA
     have HE:=NHE
     have HW:=NW
     clear NW NHV NHA NHE
     refine hK.out _ _ ⟨HS.out x5 HW.out,fun _=>trivial⟩ (fun hh=>?_)
     clear hK K
     try simp only[tp]
     refine dY 11 none rfl fun K hK=>?_
     obtain⟨⟨fz0,fz1,fz2,fz3,fz4⟩,cz0,cz1,cz2,cz3,cz4⟩:=cells5 HU.out.2.1
     go_simp
     obtain⟨wF,hwF⟩:∃wF,wF=((((x5.setCell ⟨U,0,none⟩ (.slice s1 p.ins.length t1)).setCell ⟨U,1,none⟩ (.slice none 0 0)).setCell ⟨U,2,none⟩ (.slice none 0 0)).setCell ⟨U,3,none⟩ (.slice s4 p.asserts.length t4)).setCell ⟨U,4,none⟩ (.slice s5 p.checks.length t5):=⟨_,rfl⟩
     try rw[←hwF]
     obtain⟨hbF,hF0⟩:=vV HB.out HW.out HU.out HV.out HA.out HE.out HZ.out hwF
     have HF:=aA hF0
     clear hF0
     refine hK.out _ _ (Till.last (HS.out wF hbF)) (fun hh=>?_)
     clear hK K
     try simp only[tp]
     refine kH (by kernel_rfl) ?_ _
     clear hh fz0 fz1 fz2 fz3 fz4 cz0 cz1 cz2 cz3 cz4 hwF hbF
     go_wp2_with fail
     go_meet
     case rel=>exact⟨U,rfl,_,_,_,HF.out⟩
    ·go_simp
     obtain⟨U,hU⟩:∃U,U=x3.heap.size:=⟨_,rfl⟩
     obtain⟨x6,hw2⟩:∃x6,x6=x3.alloc (.cells #[.slice none 0 0,.slice none 0 0,.slice none 0 0,.slice none 0 0,.slice none 0 0] 39):=⟨_,rfl⟩
     have hb6:Bw x3 x6:=by rw[hw2];exact aH
     have HU:Hid (U<x6.heap.size∧x6.heap[U]?=some (.cells #[.slice none 0 0,.slice none 0 0,.slice none 0 0,.slice none 0 0,.slice none 0 0] 39 (0,0))∧w1.heap.size≤U):=⟨by rw[hw2,hU,World.size_alloc];omega,by rw[hw2,hU];exact heap_alloc_new _ _,by rw[hU];exact HW.out.size⟩
     have NHV:Hid (aB x6 (dA (w.heap.size+2) U x6) 2 (.slice s1 p.ins.length t1) p.ins.length (bR p.ins)):=HV.out.keep (qY hU hb6)
     have NHA:Hid (eT x6 (dA (w.heap.size+2) U x6) (.slice s4 p.asserts.length t4) p.asserts):=HA.out.keep (qY hU hb6)
     have NW:Hid (Bw w1 x6):=HW.out.trans (hb6.mono HW.out.size)
     try rw[←hw2]
     try rw[←hU]
     clear HW hb6 hw2 hU HV HA
     have HV:=NHV
     have HA:=NHA
     have HW:=NW
     clear NW NHV NHA
     refine hK.out _ _ ⟨HS.out x6 HW.out,fun _=>trivial⟩ (fun hh=>?_)
     clear hK K
     try simp only[tp]
     refine dY 8 (some 13) rfl fun K hK=>?_
     go_simp
     refine(HEC.out x6 (HB.out.1.trans (HW.out.mono HB.out.1.size))).mono ?_
     rintro e x7 ⟨s5,t5,rfl,hr,hb7⟩
     have NHV:Hid (aB x7 (dA (w.heap.size+2) U x7) 2 (.slice s1 p.ins.length t1) p.ins.length (bR p.ins)):=HV.out.keep (oQ hb7)
     have NHA:Hid (eT x7 (dA (w.heap.size+2) U x7) (.slice s4 p.asserts.length t4) p.asserts):=HA.out.keep (oQ hb7)
     have NHE:Hid (eT x7 (dA (w.heap.size+2) U x7) (.slice s5 p.checks.length t5) p.checks):=eT.keep hr (qX (show w.heap.size+2≤x6.heap.size from by rw[←HB.out.2.2.2.1];exact HW.out.size) HU.out.1)
     have NW:Hid (Bw w1 x7):=HW.out.trans (hb7.mono HW.out.size)
     have NU:Hid (U<x7.heap.size∧x7.heap[U]?=some (.cells #[.slice none 0 0,.slice none 0 0,.slice none 0 0,.slice none 0 0,.slice none 0 0] 39 (0,0))∧w1.heap.size≤U):=⟨Nat.lt_of_lt_of_le HU.out.1 hb7.size,aG hb7 HU.out.2.1,HU.out.2.2⟩
     clear hr hb7 HW HU HV HA
     have HV:=NHV
     have HA:=NHA
     have HE:=NHE
     have HW:=NW
     have HU:=NU
     clear NW NU NHV NHA NHE
     go_wp2_with fail
     refine hK.out _ _ ⟨HS.out x7 HW.out,fun _=>trivial⟩ (fun hh=>?_)
     clear hK K
     try simp only[tp]
     refine tj 9 14 (.agg #[.slice s1 p.ins.length t1,.slice none 0 0,.slice none 0 0,.slice s4 p.asserts.length t4,.slice s5 p.checks.length t5]) rfl (by rintro w ⟨e1,e2,e3⟩;go_simp) hh ?_
     refine dY 11 none rfl fun K hK=>?_
     obtain⟨⟨fz0,fz1,fz2,fz3,fz4⟩,cz0,cz1,cz2,cz3,cz4⟩:=cells5 HU.out.2.1
     go_simp
     obtain⟨wF,hwF⟩:∃wF,wF=((((x7.setCell ⟨U,0,none⟩ (.slice s1 p.ins.length t1)).setCell ⟨U,1,none⟩ (.slice none 0 0)).setCell ⟨U,2,none⟩ (.slice none 0 0)).setCell ⟨U,3,none⟩ (.slice s4 p.asserts.length t4)).setCell ⟨U,4,none⟩ (.slice s5 p.checks.length t5):=⟨_,rfl⟩
     try rw[←hwF]
     obtain⟨hbF,hF0⟩:=vV HB.out HW.out HU.out HV.out HA.out HE.out HZ.out hwF
     have HF:=aA hF0
     clear hF0
     refine hK.out _ _ (Till.last (HS.out wF hbF)) (fun hh=>?_)
     clear hK K
     try simp only[tp]
     refine kH (by kernel_rfl) ?_ _
     clear hh fz0 fz1 fz2 fz3 fz4 cz0 cz1 cz2 cz3 cz4 hwF hbF
     go_wp2_with fail
     go_meet
     case rel=>exact⟨U,rfl,_,_,_,HF.out⟩
   ·go_simp
    obtain⟨U,hU⟩:∃U,U=x2.heap.size:=⟨_,rfl⟩
    obtain⟨x8,hw2⟩:∃x8,x8=x2.alloc (.cells #[.slice none 0 0,.slice none 0 0,.slice none 0 0,.slice none 0 0,.slice none 0 0] 39):=⟨_,rfl⟩
    have hb8:Bw x2 x8:=by rw[hw2];exact aH
    have HU:Hid (U<x8.heap.size∧x8.heap[U]?=some (.cells #[.slice none 0 0,.slice none 0 0,.slice none 0 0,.slice none 0 0,.slice none 0 0] 39 (0,0))∧w1.heap.size≤U):=⟨by rw[hw2,hU,World.size_alloc];omega,by rw[hw2,hU];exact heap_alloc_new _ _,by rw[hU];exact HW.out.size⟩
    have NHV:Hid (aB x8 (dA (w.heap.size+2) U x8) 2 (.slice s1 p.ins.length t1) p.ins.length (bR p.ins)):=HV.out.keep (qY hU hb8)
    have NW:Hid (Bw w1 x8):=HW.out.trans (hb8.mono HW.out.size)
    try rw[←hw2]
    try rw[←hU]
    clear HW hb8 hw2 hU HV
    have HV:=NHV
    have HW:=NW
    clear NW NHV
    refine hK.out _ _ ⟨HS.out x8 HW.out,fun _=>trivial⟩ (fun hh=>?_)
    clear hK K
    try simp only[tp]
    refine dY 5 (some 10) rfl fun K hK=>?_
    go_simp
    refine(HEA.out x8 (HB.out.1.trans (HW.out.mono HB.out.1.size))).mono ?_
    rintro e x9 ⟨s4,t4,rfl,hr,hb9⟩
    have NHV:Hid (aB x9 (dA (w.heap.size+2) U x9) 2 (.slice s1 p.ins.length t1) p.ins.length (bR p.ins)):=HV.out.keep (oQ hb9)
    have NHA:Hid (eT x9 (dA (w.heap.size+2) U x9) (.slice s4 p.asserts.length t4) p.asserts):=eT.keep hr (qX (show w.heap.size+2≤x8.heap.size from by rw[←HB.out.2.2.2.1];exact HW.out.size) HU.out.1)
    have NW:Hid (Bw w1 x9):=HW.out.trans (hb9.mono HW.out.size)
    have NU:Hid (U<x9.heap.size∧x9.heap[U]?=some (.cells #[.slice none 0 0,.slice none 0 0,.slice none 0 0,.slice none 0 0,.slice none 0 0] 39 (0,0))∧w1.heap.size≤U):=⟨Nat.lt_of_lt_of_le HU.out.1 hb9.size,aG hb9 HU.out.2.1,HU.out.2.2⟩
    clear hr hb9 HW HU HV
    have HV:=NHV
    have HA:=NHA
    have HW:=NW
    have HU:=NU
    clear NW NU NHV NHA
    go_wp2_with fail
    refine hK.out _ _ ⟨HS.out x9 HW.out,fun _=>trivial⟩ (fun hh=>?_)
    clear hK K
    try simp only[tp]
    refine dY 8 (some 13) rfl fun K hK=>?_
    go_simp
    refine(HEC.out x9 (HB.out.1.trans (HW.out.mono HB.out.1.size))).mono ?_
    rintro e x10 ⟨s5,t5,rfl,hr,hb10⟩
    have NHV:Hid (aB x10 (dA (w.heap.size+2) U x10) 2 (.slice s1 p.ins.length t1) p.ins.length (bR p.ins)):=HV.out.keep (oQ hb10)
    have NHA:Hid (eT x10 (dA (w.heap.size+2) U x10) (.slice s4 p.asserts.length t4) p.asserts):=HA.out.keep (oQ hb10)
    have NHE:Hid (eT x10 (dA (w.heap.size+2) U x10) (.slice s5 p.checks.length t5) p.checks):=eT.keep hr (qX (show w.heap.size+2≤x9.heap.size from by rw[←HB.out.2.2.2.1];exact HW.out.size) HU.out.1)
    have NW:Hid (Bw w1 x10):=HW.out.trans (hb10.mono HW.out.size)
    have NU:Hid (U<x10.heap.size∧x10.heap[U]?=some (.cells #[.slice none 0 0,.slice none 0 0,.slice none 0 0,.slice none 0 0,.slice none 0 0] 39 (0,0))∧w1.heap.size≤U):=⟨Nat.lt_of_lt_of_le HU.out.1 hb10.size,aG hb10 HU.out.2.1,HU.out.2.2⟩
    clear hr hb10 HW HU HV HA
    have HV:=NHV
    have HA:=NHA
    have HE:=NHE
    have HW:=NW
    have HU:=NU
    clear NW NU NHV NHA NHE
    go_wp2_with fail
    refine hK.out _ _ ⟨HS.out x10 HW.out,fun _=>trivial⟩ (fun hh=>?_)
    clear hK K
    try simp only[tp]
    refine tj 9 14 (.agg #[.slice s1 p.ins.length t1,.slice none 0 0,.slice none 0 0,.slice s4 p.asserts.length t4,.slice s5 p.checks.length t5]) rfl (by rintro w ⟨e1,e2,e3⟩;go_simp) hh ?_
    refine dY 11 none rfl fun K hK=>?_
    obtain⟨⟨fz0,fz1,fz2,fz3,fz4⟩,cz0,cz1,cz2,cz3,cz4⟩:=cells5 HU.out.2.1
    go_simp
    obtain⟨wF,hwF⟩:∃wF,wF=((((x10.setCell ⟨U,0,none⟩ (.slice s1 p.ins.length t1)).setCell ⟨U,1,none⟩ (.slice none 0 0)).setCell ⟨U,2,none⟩ (.slice none 0 0)).setCell ⟨U,3,none⟩ (.slice s4 p.asserts.length t4)).setCell ⟨U,4,none⟩ (.slice s5 p.checks.length t5):=⟨_,rfl⟩
    try rw[←hwF]
    obtain⟨hbF,hF0⟩:=vV HB.out HW.out HU.out HV.out HA.out HE.out HZ.out hwF
    have HF:=aA hF0
    clear hF0
    refine hK.out _ _ (Till.last (HS.out wF hbF)) (fun hh=>?_)
    clear hK K
    try simp only[tp]
    refine kH (by kernel_rfl) ?_ _
    clear hh fz0 fz1 fz2 fz3 fz4 cz0 cz1 cz2 cz3 cz4 hwF hbF
    go_wp2_with fail
    go_meet
    case rel=>exact⟨U,rfl,_,_,_,HF.out⟩
  ·go_simp
   obtain⟨U,hU⟩:∃U,U=w1.heap.size:=⟨_,rfl⟩
   obtain⟨x11,hw2⟩:∃x11,x11=(w1.alloc (.cells #[.slice none 0 0,.slice none 0 0,.slice none 0 0,.slice none 0 0,.slice none 0 0] 39)).drew:=⟨_,rfl⟩
   have hb11:Bw w1 x11:=by rw[hw2];exact(aH).drew
   have HU:Hid (U<x11.heap.size∧x11.heap[U]?=some (.cells #[.slice none 0 0,.slice none 0 0,.slice none 0 0,.slice none 0 0,.slice none 0 0] 39 (0,0))∧w1.heap.size≤U):=⟨by rw[hw2,hU];show _<(w1.alloc _).heap.size;rw[World.size_alloc];omega,by rw[hw2,hU];exact heap_alloc_new w1 _,by rw[hU];exact Nat.le_refl _⟩
   have NW:Hid (Bw w1 x11):=hb11
   try rw[←hw2]
   try rw[←hU]
   clear HW hb11 hw2 hU
   have HW:=NW
   clear NW
   refine hK.out _ _ ⟨HS.out x11 HW.out,fun _=>trivial⟩ (fun hh=>?_)
   clear hK K
   try simp only[tp]
   refine dY 2 (some 7) rfl fun K hK=>?_
   go_simp
   refine(HVA.out x11 (HB.out.1.trans (HW.out.mono HB.out.1.size))).mono ?_
   rintro e x12 ⟨⟨s1,t1,rfl,hr,hz⟩,hb12⟩
   have NHV:Hid (aB x12 (dA (w.heap.size+2) U x12) 2 (.slice s1 p.ins.length t1) p.ins.length (bR p.ins)):=hr.keep (qX (show w.heap.size+2≤x11.heap.size from by rw[←HB.out.2.2.2.1];exact HW.out.size) HU.out.1)
   have HZ:=aA hz
   have NW:Hid (Bw w1 x12):=HW.out.trans (hb12.mono HW.out.size)
   have NU:Hid (U<x12.heap.size∧x12.heap[U]?=some (.cells #[.slice none 0 0,.slice none 0 0,.slice none 0 0,.slice none 0 0,.slice none 0 0] 39 (0,0))∧w1.heap.size≤U):=⟨Nat.lt_of_lt_of_le HU.out.1 hb12.size,aG hb12 HU.out.2.1,HU.out.2.2⟩
   clear hr hb12 HW HU hz
   have HV:=NHV
   have HW:=NW
   have HU:=NU
   clear NW NU NHV
   go_wp2_with fail
   refine hK.out _ _ ⟨HS.out x12 HW.out,fun _=>trivial⟩ (fun hh=>?_)
   clear hK K
   try simp only[tp]
   refine dY 5 (some 10) rfl fun K hK=>?_
   go_simp
   refine(HEA.out x12 (HB.out.1.trans (HW.out.mono HB.out.1.size))).mono ?_
   rintro e x13 ⟨s4,t4,rfl,hr,hb13⟩
   have NHV:Hid (aB x13 (dA (w.heap.size+2) U x13) 2 (.slice s1 p.ins.length t1) p.ins.length (bR p.ins)):=HV.out.keep (oQ hb13)
   have NHA:Hid (eT x13 (dA (w.heap.size+2) U x13) (.slice s4 p.asserts.length t4) p.asserts):=eT.keep hr (qX (show w.heap.size+2≤x12.heap.size from by rw[←HB.out.2.2.2.1];exact HW.out.size) HU.out.1)
   have NW:Hid (Bw w1 x13):=HW.out.trans (hb13.mono HW.out.size)
   have NU:Hid (U<x13.heap.size∧x13.heap[U]?=some (.cells #[.slice none 0 0,.slice none 0 0,.slice none 0 0,.slice none 0 0,.slice none 0 0] 39 (0,0))∧w1.heap.size≤U):=⟨Nat.lt_of_lt_of_le HU.out.1 hb13.size,aG hb13 HU.out.2.1,HU.out.2.2⟩
   clear hr hb13 HW HU HV
   have HV:=NHV
   have HA:=NHA
   have HW:=NW
   have HU:=NU
   clear NW NU NHV NHA
   go_wp2_with fail
   refine hK.out _ _ ⟨HS.out x13 HW.out,fun _=>trivial⟩ (fun hh=>?_)
   clear hK K
   try simp only[tp]
   refine dY 8 (some 13) rfl fun K hK=>?_
   go_simp
   refine(HEC.out x13 (HB.out.1.trans (HW.out.mono HB.out.1.size))).mono ?_
   rintro e x14 ⟨s5,t5,rfl,hr,hb14⟩
   have NHV:Hid (aB x14 (dA (w.heap.size+2) U x14) 2 (.slice s1 p.ins.length t1) p.ins.length (bR p.ins)):=HV.out.keep (oQ hb14)
   have NHA:Hid (eT x14 (dA (w.heap.size+2) U x14) (.slice s4 p.asserts.length t4) p.asserts):=HA.out.keep (oQ hb14)
   have NHE:Hid (eT x14 (dA (w.heap.size+2) U x14) (.slice s5 p.checks.length t5) p.checks):=eT.keep hr (qX (show w.heap.size+2≤x13.heap.size from by rw[←HB.out.2.2.2.1];exact HW.out.size) HU.out.1)
   have NW:Hid (Bw w1 x14):=HW.out.trans (hb14.mono HW.out.size)
   have NU:Hid (U<x14.heap.size∧x14.heap[U]?=some (.cells #[.slice none 0 0,.slice none 0 0,.slice none 0 0,.slice none 0 0,.slice none 0 0] 39 (0,0))∧w1.heap.size≤U):=⟨Nat.lt_of_lt_of_le HU.out.1 hb14.size,aG hb14 HU.out.2.1,HU.out.2.2⟩
   clear hr hb14 HW HU HV HA
   have HV:=NHV
   have HA:=NHA
   have HE:=NHE
   have HW:=NW
   have HU:=NU
   clear NW NU NHV NHA NHE
   go_wp2_with fail
   refine hK.out _ _ ⟨HS.out x14 HW.out,fun _=>trivial⟩ (fun hh=>?_)
   clear hK K
   try simp only[tp]
   refine tj 9 14 (.agg #[.slice s1 p.ins.length t1,.slice none 0 0,.slice none 0 0,.slice s4 p.asserts.length t4,.slice s5 p.checks.length t5]) rfl (by rintro w ⟨e1,e2,e3⟩;go_simp) hh ?_
   refine dY 11 none rfl fun K hK=>?_
   obtain⟨⟨fz0,fz1,fz2,fz3,fz4⟩,cz0,cz1,cz2,cz3,cz4⟩:=cells5 HU.out.2.1
   go_simp
   obtain⟨wF,hwF⟩:∃wF,wF=((((x14.setCell ⟨U,0,none⟩ (.slice s1 p.ins.length t1)).setCell ⟨U,1,none⟩ (.slice none 0 0)).setCell ⟨U,2,none⟩ (.slice none 0 0)).setCell ⟨U,3,none⟩ (.slice s4 p.asserts.length t4)).setCell ⟨U,4,none⟩ (.slice s5 p.checks.length t5):=⟨_,rfl⟩
   try rw[←hwF]
   obtain⟨hbF,hF0⟩:=vV HB.out HW.out HU.out HV.out HA.out HE.out HZ.out hwF
   have HF:=aA hF0
   clear hF0
   refine hK.out _ _ (Till.last (HS.out wF hbF)) (fun hh=>?_)
   clear hK K
   try simp only[tp]
   refine kH (by kernel_rfl) ?_ _
   clear hh fz0 fz1 fz2 fz3 fz4 cz0 cz1 cz2 cz3 cz4 hwF hbF
   go_wp2_with fail
   go_meet
   case rel=>exact⟨U,rfl,_,_,_,HF.out⟩
 case rest=>
  obtain⟨U,rfl,HF⟩:=hcut
  rename World=>wc
  obtain⟨v1,v4,v5,hf⟩:=HF.out
  obtain⟨i1,hj0,hj1,hj2,hj3⟩:=info_parts Tryz.MF
  have HF0:=aA hf
  have hbx:=hf.box
  have hbl:=hf.blk
  have b1:wc.cell? ⟨B,0+1,none⟩=some (.slice o2 p.outs.length c2):=cr hbx rfl
  have u1:wc.cell? ⟨U,0+1,none⟩=some (.slice none 0 0):=cr hbl rfl
  have HOR:Hid (aB wc (fun _=>True) 1 (.slice o2 p.outs.length c2) p.outs.length (gU p.outs)):=HP.out.1.outs.keep (fun b _ hl=>⟨trivial,hf.below.block b hl⟩)
  have HMO:Hid (0+p.outs.length≤maxLen∧(0+p.outs.length)*16≤140737488355328):=by have:=HP.out.2.2.1;unfold Hid maxLen;omega
  have HTB:Hid (T=B+1):=by unfold Hid;rw[HB.out.2.1,HB.out.2.2.1]
  clear hf HF hbx hbl
  go_upto_region 3 with(first | (at_builtin;refine tZ wc rfl _ _ 23 rfl wc.heap.size 9 i1 _ 1 16 Tryz.underlying23 hj0 hj1 hj2 hj3 rfl (by omega) (.slice none 0 0) 0 [] rfl (World.ownsRow_nil _ _ _ _) _ o2 p.outs.length c2 (gU p.outs) rfl HOR.out (Lp _) HMO.out.1 HMO.out.2 (Nat.le_refl _) ?_;intro v2 w2 hown2 hgrow2 hat2;obtain⟨q2,d2,rfl⟩:=uS hown2;have HB2:Hid (Bw wc w2):=⟨hgrow2.os,hgrow2.tape,hgrow2.output,hgrow2.size,fun b hl=>hgrow2.block b hl (fun e=>by cases e)⟩;have f1:w2.frozen? ⟨U,0+1,none⟩=false:=dW (aG HB2.out HF0.out.blk);have f2:w2.cell? ⟨U,0+1,none⟩=some (.slice none 0 0):=aF HB2.out u1) | fail)
  have hown2':=hown2
  rw[Nat.zero_add,List.nil_append] at hown2'
  obtain⟨w3,hw3⟩:∃w3,w3=w2.setCell ⟨U,1,none⟩ (.slice q2 p.outs.length d2):=⟨_,rfl⟩
  try simp only[Nat.zero_add]
  try rw[←hw3]
  have hg3:w2.grownBy w3 (some U):=by rw[hw3];exact kQ w2 U 1 _
  have hr3:w3.heap[U]?=some (.cells #[v1,.slice q2 p.outs.length d2,.slice none 0 0,v4,v5] 39 (0,0)):=by rw[hw3];exact heap_setCell_same w2 U 1 _ _ _ (aG HB2.out HF0.out.blk)
  have HS3:Hid (tN w p B T U o1 o2 o3 o4 o5 c1 c2 c3 c4 c5 v1 (.slice q2 p.outs.length d2) v4 v5 0 none 0 w3):=by
   have hf:=HF0.out
   have hb2:=HB2.out
   have hU:=hf.size
   have hU2:=hf.U2
   have st:aP (dA (w.heap.size+2) U wc) (kG (w.heap.size+2) U (.slice none 0 0) w3) wc w3:=by
    refine aP.pl (S:=fun b=>From (w.heap.size+2) b∧b≠U) (S':=fun b=>(From (w.heap.size+2) b∧b≠U)∧Off (.slice none 0 0) b) fun b hb hl=>⟨⟨hb,fun e=>by simp [Value.ownBlock] at e⟩,?_⟩
    rw[hg3.block b (Nat.lt_of_lt_of_le hl hb2.size) (fun e=>hb.2 (Option.some.inj e)),hb2.block b hl]
   have hbw:Bw w w3:=by
    have h2:Bw w w2:=hf.below.trans (hb2.mono hf.below.size)
    exact h2.grown hg3 h2.size (fun k hk=>by obtain rfl:=Option.some.inj hk;omega)
   have far:∀k o,k≠U→wc.heap[k]?=some o→w3.heap[k]?=some o:=fun k o hk ho=>by
    rw[hg3.block k (bE (rW hb2 ho)).1 (fun e=>hk (Option.some.inj e))]
    exact rW hb2 ho
   refine⟨far B _ (by have:=HB.out.2.1;omega) hf.box,far T _ (by have:=HB.out.2.2.1;omega) hf.top,hr3,⟨[],World.ownsRow_nil _ _ _ _,.nil⟩,hf.ins.keep st,?_,?_,?_,hbw,Nat.le_trans hf.size (Nat.le_trans hb2.size hg3.size),hU2⟩
   ·have hr:=aB.sD hown2'
    refine hr.keep fun b hb hl=>?_
    have hbb:wc.heap.size≤b:=hb.1
    obtain⟨cs,t,hc⟩:=hb.2
    have e:=hg3.block b hl (fun e=>by have:=Option.some.inj e;omega)
    exact⟨⟨⟨⟨show w.heap.size+2≤b by omega,by omega⟩,fun e=>by simp [Value.ownBlock] at e⟩,cs,t,e.trans hc⟩,e⟩
   ·obtain⟨xs,h1,h2⟩:=hf.asserts;exact⟨xs,h1.keep st,h2.keep st⟩
   ·obtain⟨xs,h1,h2⟩:=hf.checks;exact⟨xs,h1.keep st,h2.keep st⟩
  have HIZ:Hid (p.ins.length=0→v1=.slice none 0 0):=HF0.out.MB
  clear hown2 hown2' hgrow2 hat2 hw3 hg3 hr3 f1 f2 b1 u1 HOR HMO HF0 HB2
  obtain⟨v2,hv2⟩:∃v2,v2=Value.slice q2 p.outs.length d2:=⟨_,rfl⟩
  rw[←hv2] at HS3
  clear hv2
  obtain⟨N,hN⟩:∃N,N=p.fs.length:=⟨_,rfl⟩
  have HN:Hid (N=p.fs.length∧N≤2097152):=⟨hN,by have:=HP.out.2.2.2.1;omega⟩
  clear hN
  go_wp2
  go_loopw [4] (fun t wr=>∃(j:Nat) (lo:Option Addr) (lc:Nat),j≤N∧t=.int .i64 j∧Hid (tN w p B T U o1 o2 o3 o4 o5 c1 c2 c3 c4 c5 v1 v2 v4 v5 j lo lc wr)) (fun t _=>N-(intOf t).toNat)
  case atStart=>exact⟨0,none,0,Nat.zero_le _,rfl,HS3.out⟩
  case round=>
   obtain⟨j,lo,lc,hj,rfl,HR⟩:=hrel
   have hbx:=HR.out.box
   have b2:wr.cell? ⟨B,0+2,none⟩=some (.slice o3 p.fs.length c3):=cr hbx rfl
   rw[←HN.out.1] at b2
   clear hbx
   by_cases hjl:j<N
   ·obtain⟨x3,h3,g3⟩:=HP.out.1.fs
    rw[←HN.out.1] at h3
    have hjf:j<p.fs.length:=by have:=HN.out.1;omega
    obtain⟨name,kind,op,n,s,es,oo,cc,zs,ej,k0,k1,k2,k3,k4,k5,r1,r2⟩:=g3.at hjf
    have hb:=HR.out.below
    obtain⟨b,off,c',ev,_,_,gg⟩:=h3.at (by rw[h3.1];omega)
    obtain⟨rfl,rfl⟩:o3=some ⟨b,off,none⟩∧c3=c':=by simpa using ev
    have y0:=gg _ _ k0
    have y1:=gg _ _ k1
    have y2:=gg _ _ k2
    have y3:=gg _ _ k3
    have y4:=gg _ _ k4
    have y5:=gg _ _ k5
    rw[←Nat.add_assoc] at y1 y2 y3 y4 y5
    obtain⟨hfl,hff⟩:=HFT.out.2.2 j hjf op n s es (by rw[ej])
    have HEX:Hid (∀W,Bw w W→Calls Tryz.prog 40 #[.agg #[.string op,.int .i64 n,.string s,.slice oo es.length cc]] W fun e w'=>(∃so sc ys',e=.returned (.agg #[.string op,.int .i64 n,.string s,.slice so es.length sc])∧aB w' (bJ W.heap.size w') 4 (.slice so es.length sc) es.length ys'∧aI w' (bJ W.heap.size w') es ys')∧Bw W w'):=fun W hW=>zO _ op n s es (Nat.lt_succ_self _) hfl hff W (fun _=>True) oo cc zs (r1.keep (fun b _ hl=>⟨trivial,hW.block b hl⟩)) (r2.keep (fun b _ hl=>⟨trivial,hW.block b hl⟩))
    have HTK:Hid (p.fs.take (j+1)=p.fs.take j++[⟨name,kind,.mk op n s es⟩]):=by unfold Hid;rw[List.take_succ_eq_append_getElem hjf,ej]
    have HRR:Hid (tN w p B T U o1 o2 (some ⟨b,off,none⟩) o4 o5 c1 c2 c3 c4 c5 v1 v2 v4 v5 j lo lc wr):=HR.out
    have HSW:Hid (∀W,Bw w W→W.heap[B]?=some (.cells #[.slice o1 p.ins.length c1,.slice o2 p.outs.length c2,.slice (some ⟨b,off,none⟩) p.fs.length c3,.slice o4 p.asserts.length c4,.slice o5 p.checks.length c5] 27 (0,0))→W.cell? ⟨B,0+2,none⟩=some (.slice (some ⟨b,off,none⟩) N c3)∧W.cell? ⟨b,off+j*6,none⟩=some (.string name)∧W.cell? ⟨b,off+j*6+1,none⟩=some (.int .i64 kind)∧W.cell? ⟨b,off+j*6+2,none⟩=some (.string op)∧W.cell? ⟨b,off+j*6+3,none⟩=some (.int .i64 n)∧W.cell? ⟨b,off+j*6+4,none⟩=some (.string s)∧W.cell? ⟨b,off+j*6+5,none⟩=some (.slice oo es.length cc)):=fun W hW hB=>⟨by rw[cell_of_row W _ _ _ _ (0,0) hB,←HN.out.1];rfl,aF hW y0,aF hW y1,aF hW y2,aF hW y3,aF hW y4,aF hW y5⟩
    have HTW:Hid (∀W,Bw wr W→W.cell? ⟨U,0+2,none⟩=some (.slice lo j lc)∧W.frozen? ⟨U,0+2,none⟩=false∧W.heap[U]?=some (.cells #[v1,v2,.slice lo j lc,v4,v5] 39 (0,0))):=fun W hW=>by
     have hr:=rW hW HRR.out.blk
     exact⟨cr hr rfl,dW hr,hr⟩
    have hS0:=HSW.out wr.drew HRR.out.below.drew HRR.out.box
    have HSB:Hid (∀W,Bw wr W→(W.cell? ⟨B,0+2,none⟩=some (.slice (some ⟨b,off,none⟩) N c3)∧W.cell? ⟨b,off+j*6,none⟩=some (.string name)∧W.cell? ⟨b,off+j*6+1,none⟩=some (.int .i64 kind)∧W.cell? ⟨b,off+j*6+2,none⟩=some (.string op)∧W.cell? ⟨b,off+j*6+3,none⟩=some (.int .i64 n)∧W.cell? ⟨b,off+j*6+4,none⟩=some (.string s)∧W.cell? ⟨b,off+j*6+5,none⟩=some (.slice oo es.length cc))):=fun W hW=>HSW.out W (HRR.out.below.trans (hW.mono HRR.out.below.size)) (rW hW HRR.out.box)
    have hT0:=(HTW.out wr.drew (Below.refl _ _).drew).1
    have i0':(0:Int)≤(j:Int):=by omega
    have i1':(j:Int)<(N:Int):=by omega
    have N4:Hid (wrap64 ((j:Int)+1)=(j:Int)+1):=by have:=HN.out.2;unfold Hid wrap64;omega
    have HM:Hid (j+1≤maxLen∧(j+1)*88≤140737488355328):=by have:=HN.out.2;unfold Hid maxLen;omega
    have HJ:=aA hjl
    clear h3 g3 ej k0 k1 k2 k3 k4 k5 r1 r2 ev gg y0 y1 y2 y3 y4 y5 hfl hff hb hjf hjl hj HR
    obtain⟨i2,hm0,hm1,hm2,hm3⟩:=info_parts Tryz.MJ
    obtain⟨cells,hown,hfx⟩:=HRR.out.fs
    have HOWN:Hid (wr.ownsRow (U+1) 95 6 (.slice lo j lc) j cells∧cB wr (kG (w.heap.size+2) U (.slice lo j lc) wr) (p.fs.take j) cells):=⟨hown,hfx⟩
    clear hown hfx
    go_upto_region 6 with fail
    clear b2
    refine nG 25 (fun W=>W.cell? ⟨B,0+2,none⟩=some (.slice (some ⟨b,off,none⟩) N c3)∧W.cell? ⟨b,off+j*6,none⟩=some (.string name)∧W.cell? ⟨b,off+j*6+1,none⟩=some (.int .i64 kind)∧W.cell? ⟨b,off+j*6+2,none⟩=some (.string op)∧W.cell? ⟨b,off+j*6+3,none⟩=some (.int .i64 n)∧W.cell? ⟨b,off+j*6+4,none⟩=some (.string s)∧W.cell? ⟨b,off+j*6+5,none⟩=some (.slice oo es.length cc)) (fun W=>W.cell? ⟨U,0+2,none⟩=some (.slice lo j lc)) (by kernel_rfl) hS0 hT0 (fun hh=>?_)
    refine tj 0 28 (.pointer (some ⟨U,0+2,none⟩)) rfl (by rintro w ⟨s0,s1,s2,s3,s4,s5,s6⟩;go_simp) hh ?_
    refine wZ (i:=1) 23 (oi:=⟨some 29,_,_,_,_,_⟩) (v:=.slice lo j lc) rfl (by kernel_rfl) (by kernel_rfl) (by kernel_rfl) (by kernel_rfl) (by kernel_rfl) (by kernel_rfl) (by kernel_rfl) (by kernel_rfl) (fun _ _ _ h=>h) (Or.inl ⟨by kernel_rfl,?_⟩) hh ?_
    ·intro w hSw;(try dsimp only at hSw);go_simp
    try simp only[tp]
    refine tj 2 30 (.pointer (some ⟨B,0+2,none⟩)) rfl (by rintro w ⟨s0,s1,s2,s3,s4,s5,s6⟩;go_simp) hh ?_
    refine tj 3 31 (.slice (some ⟨b,off,none⟩) N c3) rfl (by rintro w ⟨s0,s1,s2,s3,s4,s5,s6⟩;go_simp) hh ?_
    refine tj 4 32 (.int .i64 (j:Nat)) rfl (by rintro w ⟨s0,s1,s2,s3,s4,s5,s6⟩;go_simp) hh ?_
    refine tj 5 33 (.pointer (some ⟨b,off+j*6,none⟩)) rfl (by rintro w ⟨s0,s1,s2,s3,s4,s5,s6⟩;go_simp) hh ?_
    refine tj 6 34 (.pointer (some ⟨b,off+j*6,none⟩)) rfl (by rintro w ⟨s0,s1,s2,s3,s4,s5,s6⟩;go_simp) hh ?_
    refine tj 7 35 (.string name) rfl (by rintro w ⟨s0,s1,s2,s3,s4,s5,s6⟩;go_simp) hh ?_
    refine tj 8 36 (.pointer (some ⟨B,0+2,none⟩)) rfl (by rintro w ⟨s0,s1,s2,s3,s4,s5,s6⟩;go_simp) hh ?_
    refine tj 9 37 (.slice (some ⟨b,off,none⟩) N c3) rfl (by rintro w ⟨s0,s1,s2,s3,s4,s5,s6⟩;go_simp) hh ?_
    refine tj 10 38 (.int .i64 (j:Nat)) rfl (by rintro w ⟨s0,s1,s2,s3,s4,s5,s6⟩;go_simp) hh ?_
    refine tj 11 39 (.pointer (some ⟨b,off+j*6,none⟩)) rfl (by rintro w ⟨s0,s1,s2,s3,s4,s5,s6⟩;go_simp) hh ?_
    refine tj 12 40 (.pointer (some ⟨b,off+j*6+1,none⟩)) rfl (by rintro w ⟨s0,s1,s2,s3,s4,s5,s6⟩;go_simp) hh ?_
    refine tj 13 41 (.int .i64 kind) rfl (by rintro w ⟨s0,s1,s2,s3,s4,s5,s6⟩;go_simp) hh ?_
    refine tj 14 42 (.pointer (some ⟨B,0+2,none⟩)) rfl (by rintro w ⟨s0,s1,s2,s3,s4,s5,s6⟩;go_simp) hh ?_
    refine tj 15 43 (.slice (some ⟨b,off,none⟩) N c3) rfl (by rintro w ⟨s0,s1,s2,s3,s4,s5,s6⟩;go_simp) hh ?_
    refine tj 16 44 (.int .i64 (j:Nat)) rfl (by rintro w ⟨s0,s1,s2,s3,s4,s5,s6⟩;go_simp) hh ?_
    refine tj 17 45 (.pointer (some ⟨b,off+j*6,none⟩)) rfl (by rintro w ⟨s0,s1,s2,s3,s4,s5,s6⟩;go_simp) hh ?_
    refine tj 18 46 (.pointer (some ⟨b,off+j*6+2,none⟩)) rfl (by rintro w ⟨s0,s1,s2,s3,s4,s5,s6⟩;go_simp) hh ?_
    refine tj 19 47 (.agg #[.string op,.int .i64 n,.string s,.slice oo es.length cc]) rfl (by rintro w ⟨s0,s1,s2,s3,s4,s5,s6⟩;go_simp) hh ?_
    refine dY 20 (some 48) rfl fun K hK=>?_
    go_simp
    refine(HEX.out wr.drew HRR.out.below.drew).mono ?_
    rintro e w4 ⟨⟨so',sc',ys',rfl,hr4,hx4⟩,hb4'⟩
    have hb4:Bw wr w4:=(Below.refl _ _).drew.trans hb4'
    have HR4:Hid (aB w4 (bJ wr.heap.size w4) 4 (.slice so' es.length sc') es.length ys'∧aI w4 (bJ wr.heap.size w4) es ys'∧Bw wr w4):=⟨hr4,hx4,hb4⟩
    clear hr4 hx4 hb4 hb4'
    go_wp2_with fail
    refine hK.out _ _ ⟨HSB.out w4 HR4.out.2.2,fun _=>(HTW.out w4 HR4.out.2.2).1⟩ (fun hh=>?_)
    clear hK K
    try simp only[tp]
    refine tj 21 49 (.agg #[.string name,.int .i64 kind,.string op,.int .i64 n,.string s,.slice so' es.length sc']) rfl (by rintro w ⟨s0,s1,s2,s3,s4,s5,s6⟩;go_simp) hh ?_
    refine dY 22 (some 50) rfl fun K hK=>?_
    go_simp
    obtain⟨w5,hw5⟩:∃w5,w5=w4.alloc (.cells #[.string name,.int .i64 kind,.string op,.int .i64 n,.string s,.slice so' es.length sc'] 95):=⟨_,rfl⟩
    obtain⟨Q,hQ⟩:∃Q,Q=w4.heap.size:=⟨_,rfl⟩
    have hb5:Bw w4 w5:=by rw[hw5];exact aH
    have HB5:Hid (Bw w4 w5∧Bw wr w5∧w5.heap.size=w4.heap.size+1):=⟨hb5,HR4.out.2.2.trans (hb5.mono HR4.out.2.2.size),by rw[hw5,World.size_alloc]⟩
    have HN5:Hid (∀k y,[.string name,.int .i64 kind,.string op,.int .i64 n,.string s,.slice so' es.length sc'][k]?=some y→w5.cell? ((⟨Q,0,none⟩:Addr).add k)=some y):=by unfold Hid;rw[hw5,hQ];exact World.news_of_block (heap_alloc_new w4 _)
    have HO5:Hid (w5.ownsRow (U+1) 95 6 (.slice lo j lc) j cells∧U+1≤w5.heap.size):=⟨l9 HOWN.out.1 HB5.out.2.1,Nat.le_trans HRR.out.size HB5.out.2.1.size⟩
    rw[←hw5,←hQ]
    refine hK.out _ _ ⟨HSB.out w5 HB5.out.2.1,fun _=>(HTW.out w5 HB5.out.2.1).1⟩ (fun hh=>?_)
    clear hK K hw5 hQ hb5 hS0 hT0
    try simp only[tp]
    refine dY 23 (some 51) rfl fun K hK=>?_
    refine step_append_lies _ rfl (.tmp 29) (.tmp 50) 36 rfl (U+1) 95 i2 _ 6 88 Tryz.underlying36 hm0 hm1 hm2 hm3 rfl (by omega) (.slice lo j lc) j _ (by simp [Act.eval]) HO5.out.1 ⟨Q,0,none⟩ 1 1 [.string name,.int .i64 kind,.string op,.int .i64 n,.string s,.slice so' es.length sc'] (by simp [Act.eval]) rfl HN5.out (by simp [Value.oneCell']) (by omega) HM.out.1 HM.out.2 HO5.out.2 _ rfl ?_
    intro g cap w6 hown6 hgrow hat hlt6
    have hlt:∀k,(Value.slice lo j lc).ownBlock=some k→U+1≤k∧k<wr.heap.size:=fun k hk=>HOWN.out.1.lt k hk
    have hb6:∀k o,k≤U→wr.heap[k]?=some o→w6.heap[k]?=some o:=fun k o hk ho=>by
     have h5:=rW HB5.out.2.1 ho
     rw[hgrow.block k (bE h5).1 (fun e=>by have:=(hlt k e.symm).1;omega)]
     exact h5
    have hr6:=hb6 U _ (Nat.le_refl _) HRR.out.blk
    have hc6:w6.cell? ⟨U,0+2,none⟩=some (.slice lo j lc):=cr hr6 rfl
    have hf6:w6.frozen? ⟨U,0+2,none⟩=false:=dW hr6
    have hbw6:Bw w w6:=by
     have h5:Bw w w5:=HRR.out.below.trans (HB5.out.2.1.mono HRR.out.below.size)
     exact h5.grown hgrow h5.size (fun k hk=>by have:=(hlt k hk).1;have:=HRR.out.U2;omega)
    have hBU:B≤U:=by have:=HRR.out.U2;have:=HB.out.2.1;omega
    have hTU:T≤U:=by have:=HRR.out.U2;have:=HB.out.2.2.1;omega
    have hS6:(fun W:World=>W.cell? ⟨B,0+2,none⟩=some (.slice (some ⟨b,off,none⟩) N c3)∧W.cell? ⟨b,off+j*6,none⟩=some (.string name)∧W.cell? ⟨b,off+j*6+1,none⟩=some (.int .i64 kind)∧W.cell? ⟨b,off+j*6+2,none⟩=some (.string op)∧W.cell? ⟨b,off+j*6+3,none⟩=some (.int .i64 n)∧W.cell? ⟨b,off+j*6+4,none⟩=some (.string s)∧W.cell? ⟨b,off+j*6+5,none⟩=some (.slice oo es.length cc)) w6:=by
     exact HSW.out w6 hbw6 (hb6 B _ hBU HRR.out.box)
    refine hK.out _ _ ⟨hS6,fun _=>hc6⟩ (fun hh=>?_)
    clear hK K
    try simp only[tp]
    refine tj 24 52 (.pointer (some ⟨U,0+2,none⟩)) rfl (by rintro w ⟨s0,s1,s2,s3,s4,s5,s6⟩;go_simp) hh ?_
    refine dY 25 none rfl fun K hK=>?_
    go_simp
    obtain⟨w7,hw7⟩:∃w7,w7=w6.setCell ⟨U,2,none⟩ (.slice (some ⟨g,0,none⟩) (j+1) cap):=⟨_,rfl⟩
    try rw[←hw7]
    have hg7:w6.grownBy w7 (some U):=by rw[hw7];exact kQ w6 U 2 _
    have hr7:w7.heap[U]?=some (.cells #[v1,v2,.slice (some ⟨g,0,none⟩) (j+1) cap,v4,v5] 39 (0,0)):=by rw[hw7];exact heap_setCell_same w6 U 2 _ _ _ hr6
    have hb7:∀k o,k<U→wr.heap[k]?=some o→w7.heap[k]?=some o:=fun k o hk ho=>by
     have h6:=hb6 k o (Nat.le_of_lt hk) ho
     rw[hg7.block k (bE h6).1 (fun e=>by have:=Option.some.inj e;omega)]
     exact h6
    have hbw7:Bw w w7:=hbw6.grown hg7 hbw6.size (fun k hk=>by obtain rfl:=Option.some.inj hk;have:=HRR.out.U2;omega)
    have eq5:∀b,b<w5.heap.size→b≠U→Off (.slice lo j lc) b→w7.heap[b]?=w5.heap[b]?:=fun b hl hU ho=>by
     rw[hg7.block b (Nat.lt_of_lt_of_le hl hgrow.size) (fun e=>hU (Option.some.inj e)),hgrow.block b hl (fun e=>ho e.symm)]
    have st:aP (kG (w.heap.size+2) U (.slice lo j lc) wr) (kG (w.heap.size+2) U (.slice (some ⟨g,0,none⟩) (j+1) cap) w7) wr w7:=by
     refine aP.pl (S:=fun b=>(From (w.heap.size+2) b∧b≠U)∧Off (.slice lo j lc) b) (S':=fun b=>(From (w.heap.size+2) b∧b≠U)∧Off (.slice (some ⟨g,0,none⟩) (j+1) cap) b) fun b hb hl=>?_
     have hl5:b<w5.heap.size:=Nat.lt_of_lt_of_le hl HB5.out.2.1.size
     refine⟨⟨hb.1,(uX hgrow hat rfl b hb.2 hl5).1⟩,?_⟩
     rw[eq5 b hl5 hb.1.2 hb.2,HB5.out.2.1.block b hl]
    have stn:aP (bJ wr.heap.size w4) (kG (w.heap.size+2) U (.slice (some ⟨g,0,none⟩) (j+1) cap) w7) w4 w7:=by
     refine aP.pl (S:=From wr.heap.size) (S':=fun b=>(From (w.heap.size+2) b∧b≠U)∧Off (.slice (some ⟨g,0,none⟩) (j+1) cap) b) fun b hb hl=>?_
     have hb':wr.heap.size≤b:=hb
     have hl5:b<w5.heap.size:=Nat.lt_of_lt_of_le hl HB5.out.1.size
     have hUs:=HRR.out.size
     have hU2:=HRR.out.U2
     have ho:Off (.slice lo j lc) b:=fun e=>by have:=(hlt b e).2;omega
     refine⟨⟨⟨show w.heap.size+2≤b by omega,by omega⟩,(uX hgrow hat rfl b ho hl5).1⟩,?_⟩
     rw[eq5 b hl5 (by omega) ho,HB5.out.1.block b hl]
    have HNX:Hid (tN w p B T U o1 o2 (some ⟨b,off,none⟩) o4 o5 c1 c2 c3 c4 c5 v1 v2 v4 v5 (j+1) (some ⟨g,0,none⟩) cap w7):=by
     have hf:=HRR.out
     refine⟨hb7 B _ (by have:=hf.U2;have:=HB.out.2.1;omega) hf.box,hb7 T _ (by have:=hf.U2;have:=HB.out.2.2.1;omega) hf.top,hr7,⟨_,gP hown6 (fun k hk=>hg7.block k (hown6.lt k hk).2 (fun e=>by obtain rfl:=Option.some.inj e;have:=(hown6.lt _ hk).1;omega)),?_⟩,hf.ins.keep st,hf.outs.keep st,?_,?_,hbw7,Nat.le_trans hf.size (Nat.le_trans HB5.out.2.1.size (Nat.le_trans hgrow.size hg7.size)),hf.U2⟩
     ·rw[HTK.out]
      exact(HOWN.out.2.keep st).append (.cons name kind (.mk op n s es) [] _ [] (.cons op n s es [] _ ys' [] (HR4.out.1.keep stn) (HR4.out.2.1.keep stn) .nil) .nil)
     ·obtain⟨xs,h1,h2⟩:=hf.asserts;exact⟨xs,h1.keep st,h2.keep st⟩
     ·obtain⟨xs,h1,h2⟩:=hf.checks;exact⟨xs,h1.keep st,h2.keep st⟩
    refine hK.out _ _ (Till.last (HSW.out w7 hbw7 HNX.out.box)) (fun hh=>?_)
    clear hK K
    try simp only[tp]
    refine kH (by kernel_rfl) ?_ _
    clear hh hS6 hc6 hf6 hr6 hb6 hlt hown6 hgrow hat hlt6 hw7 hg7 hr7 hb7 hbw6 hbw7 eq5 st stn hBU hTU
    go_wp2
    exact⟨⟨j+1,some ⟨g,0,none⟩,cap,HJ.out,by (try rw[N4.out]);rfl,HNX.out⟩,by (try rw[N4.out]);have:=HJ.out;simp [intOf];omega⟩
   ·obtain rfl:N=j:=by omega
    have HF:Hid (tN w p B T U o1 o2 o3 o4 o5 c1 c2 c3 c4 c5 v1 v2 v4 v5 N lo lc wr):=HR.out
    obtain⟨qa,da,rfl⟩:=HF.out.ins.form
    obtain⟨qb,db,rfl⟩:=HF.out.outs.form
    obtain⟨xa,hxa,hya⟩:=HF.out.asserts
    obtain⟨qc,dc,rfl⟩:=hxa.form
    obtain⟨xb,hxb,hyb⟩:=HF.out.checks
    obtain⟨qd,dd,rfl⟩:=hxb.form
    clear hxa hya hxb hyb hj hjl HR
    have hbl:=HF.out.blk
    have htp:=HF.out.top
    rw[HTB.out] at htp
    have u0:wr.cell? ⟨U,0,none⟩=some (.slice qa p.ins.length da):=cr hbl rfl
    have u1:wr.cell? ⟨U,0+1,none⟩=some (.slice qb p.outs.length db):=cr hbl rfl
    have u2:wr.cell? ⟨U,0+2,none⟩=some (.slice lo N lc):=cr hbl rfl
    have u3:wr.cell? ⟨U,0+3,none⟩=some (.slice qc p.asserts.length dc):=cr hbl rfl
    have u4:wr.cell? ⟨U,0+4,none⟩=some (.slice qd p.checks.length dd):=cr hbl rfl
    have t0:wr.cell? ⟨B+1,0,none⟩=some (.slice none 0 0):=cr htp rfl
    have t1:wr.cell? ⟨B+1,0+1,none⟩=some (.slice none 0 0):=cr htp rfl
    have t2:wr.cell? ⟨B+1,0+2,none⟩=some (.slice none 0 0):=cr htp rfl
    have t3:wr.cell? ⟨B+1,0+3,none⟩=some (.slice none 0 0):=cr htp rfl
    have t4:wr.cell? ⟨B+1,0+4,none⟩=some (.slice none 0 0):=cr htp rfl
    have f0:wr.frozen? ⟨B+1,0,none⟩=false:=dW htp
    have f1:wr.frozen? ⟨B+1,0+1,none⟩=false:=dW htp
    have f2:wr.frozen? ⟨B+1,0+2,none⟩=false:=dW htp
    have f3:wr.frozen? ⟨B+1,0+3,none⟩=false:=dW htp
    have f4:wr.frozen? ⟨B+1,0+4,none⟩=false:=dW htp
    have HTP:=aA htp
    clear hbl htp
    go_wp2
    obtain⟨wE,hwE⟩:∃wE,wE=((((wr.setCell ⟨B+1,0,none⟩ (.slice qa p.ins.length da)).setCell ⟨B+1,1,none⟩ (.slice qb p.outs.length db)).setCell ⟨B+1,2,none⟩ (.slice lo N lc)).setCell ⟨B+1,3,none⟩ (.slice qc p.asserts.length dc)).setCell ⟨B+1,4,none⟩ (.slice qd p.checks.length dd):=⟨_,rfl⟩
    rw[←hwE]
    have hrE:wE.heap[B+1]?=some (.cells #[.slice qa p.ins.length da,.slice qb p.outs.length db,.slice lo N lc,.slice qc p.asserts.length dc,.slice qd p.checks.length dd] 39 (0,0)):=by
     rw[hwE]
     exact heap_setCell_same _ (B+1) 4 _ _ _ (heap_setCell_same _ (B+1) 3 _ _ _ (heap_setCell_same _ (B+1) 2 _ _ _ (heap_setCell_same _ (B+1) 1 _ _ _ (heap_setCell_same wr (B+1) 0 _ _ _ HTP.out))))
    have hg:wr.grownBy wE (some (B+1)):=by
     rw[hwE]
     exact dQ (dQ (dQ (dQ (kQ wr (B+1) 0 _) (kQ _ (B+1) 1 _)) (kQ _ (B+1) 2 _)) (kQ _ (B+1) 3 _)) (kQ _ (B+1) 4 _)
    have e0:wE.cell? ⟨B+1,0,none⟩=some (.slice qa p.ins.length da):=cr hrE rfl
    have e1:wE.cell? ⟨B+1,0+1,none⟩=some (.slice qb p.outs.length db):=cr hrE rfl
    have e2:wE.cell? ⟨B+1,0+2,none⟩=some (.slice lo N lc):=cr hrE rfl
    have e3:wE.cell? ⟨B+1,0+3,none⟩=some (.slice qc p.asserts.length dc):=cr hrE rfl
    have e4:wE.cell? ⟨B+1,0+4,none⟩=some (.slice qd p.checks.length dd):=cr hrE rfl
    have hBw:=HB.out.2.1
    have hU2:=HF.out.U2
    have stE:∀b,w.heap.size+2≤b→Pl wr b→b<wr.heap.size→bJ w.heap.size wE b∧wE.heap[b]?=wr.heap[b]?:=fun b h1 h2 hl=>by
     obtain⟨cs,t,hc⟩:=h2
     have e:=hg.block b hl (fun e=>by have:=Option.some.inj e;omega)
     exact⟨⟨show w.heap.size≤b by omega,cs,t,e.trans hc⟩,e⟩
    have st:aP (kG (w.heap.size+2) U (.slice lo N lc) wr) (bJ w.heap.size wE) wr wE:=fun b hb hl=>stE b hb.1.1.1 hb.2 hl
    have HPE:Hid (fE wE (bJ w.heap.size wE) p (.slice qa p.ins.length da) (.slice qb p.outs.length db) (.slice lo p.fs.length lc) (.slice qc p.asserts.length dc) (.slice qd p.checks.length dd)∧(p.ins.length=0→qa=none∧da=0)∧Bw w wE):=by
     have hf:=HF.out
     refine⟨⟨hf.ins.keep st,hf.outs.keep st,?_,?_,?_⟩,fun e=>?_,hf.below.grown hg hf.below.size (fun k hk=>by obtain rfl:=Option.some.inj hk;omega)⟩
     ·obtain⟨cells,h1,h2⟩:=hf.fs
      refine⟨cells,?_,?_⟩
      ·rw[←HN.out.1]
       exact(aB.sD h1).keep fun b hb hl=>stE b (by have h:U+1≤b:=hb.1;omega) hb.2 hl
      ·rw[List.take_of_length_le (by have:=HN.out.1;omega)] at h2
       exact h2.keep st
     ·obtain⟨xs,h1,h2⟩:=hf.asserts;exact⟨xs,h1.keep st,h2.keep st⟩
     ·obtain⟨xs,h1,h2⟩:=hf.checks;exact⟨xs,h1.keep st,h2.keep st⟩
     ·have h:=HIZ.out e
      obtain⟨h1,_,h2⟩:=Value.slice.inj h
      exact⟨h1,h2⟩
    refine bodyPost_ret (v:=.agg #[.slice qa p.ins.length da,.slice qb p.outs.length db,.slice lo N lc,.slice qc p.asserts.length dc,.slice qd p.checks.length dd]) ?_ rfl ?_
    ·simp [results,e0,e1,e2,e3,e4,go_sem]
    ·exact⟨qa,qb,lo,qc,qd,da,db,lc,dc,dd,by rw[←HN.out.1],HPE.out⟩
end Go.Proofs.YtmgfakcccfahaaaGreatDoor
