/-
  THE NINE SENTINELS' TEXTS behind 'lustrum: '.
-/
import Derived.Laws.CopyRow
import Derived.Deep.CutRange
import Derived.Test.YtmgfakcccfahaaaGreatDoorN41
namespace Go.Proofs.YtmgfakcccfahaaaGreatDoor
open Go.RowKit
def short:Nat→ByteArray
 | 0=>⟨#[116,101,120,116]⟩
 | 1=>⟨#[98,111,117,110,100]⟩
 | 2=>⟨#[115,104,97,112,101]⟩
 | 3=>⟨#[110,97,109,101]⟩
 | 4=>⟨#[116,121,112,101]⟩
 | 5=>⟨#[99,121,99,108,101]⟩
 | 6=>⟨#[102,105,114,115,116]⟩
 | 7=>⟨#[112,114,111,111,102]⟩
 | _=>⟨#[110,111,110,101]⟩
open Go.Maps
inductive rG:FuncId→Array Value→Prop
 | c1:rG 111 #[]
 | c2:rG 112 #[]
 | c3:rG 114 #[]
 | c4 (p:Nat):rG 116 #[.pointer (some ⟨p,0,none⟩)]
 | c5 (p:Nat):rG 118 #[.pointer (some ⟨p,0,none⟩)]
 | c6 (p:Nat):rG 120 #[.pointer (some ⟨p,0,none⟩)]
instance (p:Pq):Decidable (xX p):=by unfold xX;infer_instance
def O4(q:jJ)(x:Nat)(v:Int):Prop:=uP (gJ q.ps x) v (gJ q.ps x)=true
structure E9(q:jJ)(mem:List (Int×Int)):Prop where
 len:mem.length=q.ks.length
 val:∀(m y:Nat),q.ks[m]?=some y→O4 q y (yK mem m)
structure E8(nb nn:Int):Prop where
 b:nb=0∨nb=1
 n:-128≤nn∧nn≤127
theorem K9{nb nn k:Int}(h:E8 nb nn)(hk:k=1∨k=2):uP k (sI nb nn k) k=true:=by
 have:=h.b
 have:=h.n
 rcases hk with rfl | rfl
 ·unfold sI uP
  simp
  omega
 ·unfold sI uP
  simp
  omega
theorem bW{p:Pq}{a b:Nat}{l:List Nat}(h:p.dO=a::b::l):BZ p 1=b:=by unfold BZ;rw[h];rfl
structure Tk where
 out:List (Int×Int)
 ok:Bool
 tr:Bool
 ch:List Bool
theorem Lu{q:jJ}{v:Nat→Int}{m y:Nat}(h:q.ks[m]?=some y):yK (q.ks.map fun x=>(gJ q.ps x,v x)) m=v y:=by
 unfold yK
 rw[Int.toNat_natCast,List.getElem?_map,h]
 rfl
theorem EQ.right{q:jJ}(hq:O6 q){inp:List (Int×Int)}{wk:(Nat→Int)→Pq→Int×Bool}{Rd:Nat→Int→Prop}{g:Nat→Int}{tr:Bool}(h:EQ q inp wk Rd q.ts.length g tr)(hil:inp.length=q.is.length)(hRi:∀(i x:Nat) (v:Int×Int),q.is[i]?=some x→inp[i]?=some v→Rd x v.2){x:Nat}(hx:x<q.ps.length):Rd x (g x):=by
 rcases hq.Gr.all x hx with hb | ht
 ·obtain⟨i,hi⟩:=List.mem_iff_getElem?.1 ((hq.is x hx).1 hb)
  have hl:=(aX hi).1
  obtain⟨v,hv⟩:∃v,inp[i]?=some v:=⟨_,List.getElem?_eq_getElem (by omega)⟩
  rw[h.ins i x v hi hv]
  exact hRi i x v hi hv
 ·exact(h.val x (by rw[List.take_length];exact ht)).2
theorem E9.start{q:jJ}(hp:EY q){nb nn:Int}(hn:E8 nb nn):E9 q (q.ks.map fun x=>(gJ q.ps x,sI nb nn (gJ q.ps x))):=
 ⟨by rw[List.length_map],fun m y h=>by
  rw[Lu (v:=fun x=>sI nb nn (gJ q.ps x)) h]
  exact K9 hn (Mf hp (hp.ks y (List.mem_of_getElem? h)).1)⟩
def O0(w:World)(F:Nat→Prop)(t:Tk)(x0 x1 x2 x3:Option Value):Prop:=
 ∃so sc co cc,x0=some (.slice so t.out.length sc)∧x1=some (.bool t.ok)∧x2=some (.bool t.tr)∧x3=some (.slice co t.ch.length cc)∧aB w F 2 (.slice so t.out.length sc) t.out.length (oG t.out)∧aB w F 1 (.slice co t.ch.length cc) t.ch.length (t.ch.map Value.bool)
def EX(w:World)(F:Nat→Prop)(l:List Tk)(xs:List Value):Prop:=
 xs.length=l.length*4∧∀(k:Nat) (t:Tk),l[k]?=some t→O0 w F t xs[k*4]? xs[k*4+1]? xs[k*4+2]? xs[k*4+3]?
theorem EX.nil(w:World)(F:Nat→Prop):EX w F [] []:=⟨rfl,fun k t hk=>by simp at hk⟩
def Off(v:Value):Nat→Prop:=fun b=>v.ownBlock≠some b
theorem uX{w w':World}{v v':Value}{g n c:Nat}(hg:w.grownBy w' v.ownBlock)(ha:v.ownBlock=some g∨g=w.heap.size)(hv:v'=.slice (some ⟨g,0,none⟩) n c):aP (Off v) (Off v') w w':=by
 subst hv
 intro b hb hl
 refine⟨fun e=>?_,hg.block b hl (fun e=>hb e.symm)⟩
 have e':g=b:=by simpa [Value.ownBlock] using e
 rcases ha with ha | ha
 ·exact hb (by rw[ha,e'])
 ·omega
end Go.Proofs.YtmgfakcccfahaaaGreatDoor
namespace Go.Proofs.YtmgfakcccfahaaaGreatDoor
open Go.RowKit
set_option maxRecDepth 100000
set_option maxHeartbeats 4000000

def lS(base:Nat)(v:Value):Nat→Prop:=fun b=>From base b∧Off v b
theorem Nh{base g n c:Nat}{w w':World}{v:Value}(hg:w.grownBy w' v.ownBlock)(ha:v.ownBlock=some g∨g=w.heap.size):aP (lS base v) (lS base (.slice (some ⟨g,0,none⟩) n c)) w w':=fun b hb hl=>by
 obtain⟨h1,h2⟩:=uX (n:=n) (c:=c) hg ha rfl b hb.2 hl
 exact⟨⟨hb.1,h1⟩,h2⟩
theorem DK{base:Nat}{w w':World}{v:Value}(hb:Bw w w'):aP (lS base v) (lS base v) w w':=fun b h hl=>⟨h,hb.block b hl⟩
theorem Ng{base H g n c:Nat}{w w':World}{v:Value}(hH:base≤H)(hu:∀k,v.ownBlock=some k→k<H)(hg:w.grownBy w' v.ownBlock)(ha:v.ownBlock=some g∨g=w.heap.size):aP (From H) (lS base (.slice (some ⟨g,0,none⟩) n c)) w w':=fun b hb hl=>by
 have hb':H≤b:=hb
 have ho:Off v b:=fun e=>by have:=hu b e;omega
 obtain⟨h1,h2⟩:=uX (n:=n) (c:=c) hg ha rfl b ho hl
 exact⟨⟨Nat.le_trans hH hb',h1⟩,h2⟩
theorem Ec(w:World)(S:Nat→Prop)(o:Option Addr)(c n:Nat)(l:List Ex)(ys:List Value)(hn:n=l.length)(h1:aB w S 4 (.slice o n c) n ys)(h2:aI w S l ys)(hf:Fit 2199023255552 l)(hl:n≤2097152) :
  Calls Tryz.prog 39 #[.slice o n c] w fun e w'=>∃so sc,e=.returned (.slice so n sc)∧(∃ys',aB w' (bJ w.heap.size w') 4 (.slice so n sc) n ys'∧aI w' (bJ w.heap.size w') l ys')∧Bw w w':=by
 obtain⟨i0,hi0,hz0,hz1,hz2⟩:=info_parts Tryz.qA
 have H1:Hid (aB w S 4 (.slice o n c) n ys∧aI w S l ys∧n=l.length∧n≤2097152∧Fit 2199023255552 l):=⟨h1,h2,hn,hl,hf⟩
 clear h1 h2 hf hn hl
 go_enter Tryz.func39,Tryz.ntmps39
 go_wp2
 go_loopw [3,4] (fun v t wr=>∃(j:Nat) (so:Option Addr) (sc:Nat),j≤n∧t=.int .i64 j∧v=.slice so j sc∧Hid (∃cells,wr.ownsRow w.heap.size 92 4 (.slice so j sc) j cells∧aI wr (fun b=>lS w.heap.size (.slice so j sc) b∧Pl wr b) (l.take j) cells∧Bw w wr)) (fun _ t _=>n-(intOf t).toNat)
 case atStart=>exact⟨0,none,0,Nat.zero_le _,rfl,rfl,[],World.ownsRow_nil _ _ _ _,.nil,Below.refl _ _⟩
 case round=>
  obtain⟨j,so,sc,hj,rfl,rfl,HR⟩:=hrel
  by_cases hjl:j<n
  ·obtain⟨cells,hown,hex,hb⟩:=HR.out
   have hjt:j<l.length:=by have:=H1.out.2.2.1;omega
   obtain⟨op,nn,s,es,oo,cc,zs,ej,x0,x1,x2,x3,r1,r2⟩:=H1.out.2.1.at hjt
   obtain⟨hfl,hff⟩:=H1.out.2.2.2.2.at hjt ej
   obtain⟨b,off,c',ev,_,_,gg⟩:=(H1.out.1.keep (S':=fun _=>True) (fun b _ hl=>⟨trivial,hb.block b hl⟩)).at (by rw[H1.out.1.1];omega)
   obtain⟨rfl,rfl⟩:o=some ⟨b,off,none⟩∧c=c':=by simpa using ev
   have y0:=gg _ _ x0
   have y1:=gg _ _ x1
   have y2:=gg _ _ x2
   have y3:=gg _ _ x3
   rw[←Nat.add_assoc] at y1 y2 y3
   have HEX:Hid (Calls Tryz.prog 40 #[.agg #[.string op,.int .i64 nn,.string s,.slice oo es.length cc]] wr fun e w'=>(∃so sc ys',e=.returned (.agg #[.string op,.int .i64 nn,.string s,.slice so es.length sc])∧aB w' (bJ wr.heap.size w') 4 (.slice so es.length sc) es.length ys'∧aI w' (bJ wr.heap.size w') es ys')∧Bw wr w'):=zO _ op nn s es (Nat.lt_succ_self _) hfl hff wr (fun _=>True) oo cc zs (r1.keep (fun b _ hl=>⟨trivial,hb.block b hl⟩)) (r2.keep (fun b _ hl=>⟨trivial,hb.block b hl⟩))
   have HT:Hid (l.take (j+1)=l.take j++[.mk op nn s es]):=by unfold Hid;rw[List.take_succ_eq_append_getElem hjt,ej]
   have HRR:Hid (wr.ownsRow w.heap.size 92 4 (.slice so j sc) j cells∧aI wr (fun b=>lS w.heap.size (.slice so j sc) b∧Pl wr b) (l.take j) cells∧Bw w wr):=⟨hown,hex,hb⟩
   have i0':(0:Int)≤(j:Int):=by omega
   have i1':(j:Int)<(n:Int):=by omega
   have HJ:=aA hjl
   have N4:Hid (wrap64 ((j:Int)+1)=(j:Int)+1):=by have:=H1.out.2.2.2.1;unfold Hid wrap64;omega
   have HM:Hid (j+1≤maxLen∧(j+1)*64≤140737488355328):=by have:=H1.out.2.2.2.1;unfold Hid maxLen;omega
   clear ej x0 x1 x2 x3 r1 r2 ev gg hfl hff hown hex hb hjl hj hjt HR
   go_wp2_with (first | (go_at_call 40;refine HEX.out.mono ?_;rintro e w4 ⟨⟨so',sc',ys',rfl,hr4,hx4⟩,hb4⟩;have HR4:Hid (aB w4 (bJ wr.heap.size w4) 4 (.slice so' es.length sc') es.length ys'∧aI w4 (bJ wr.heap.size w4) es ys'∧Bw wr w4):=⟨hr4,hx4,hb4⟩;have hba:Bw w4 (w4.alloc (.cells #[.string op,.int .i64 nn,.string s,.slice so' es.length sc'] 92)):=aH;have HOW:Hid ((w4.alloc (.cells #[.string op,.int .i64 nn,.string s,.slice so' es.length sc'] 92)).ownsRow w.heap.size 92 4 (.slice so j sc) j cells∧w.heap.size≤(w4.alloc (.cells #[.string op,.int .i64 nn,.string s,.slice so' es.length sc'] 92)).heap.size∧Bw w4 (w4.alloc (.cells #[.string op,.int .i64 nn,.string s,.slice so' es.length sc'] 92))):=⟨l9 (l9 HRR.out.1 hb4) hba,Nat.le_trans (Nat.le_trans HRR.out.2.2.size hb4.size) hba.size,hba⟩;have HN':Hid _:=World.news_of_block (heap_alloc_new w4 (.cells #[.string op,.int .i64 nn,.string s,.slice so' es.length sc'] 92));clear hr4 hx4 hb4 hba) | (at_builtin;refine wpList_append_lies _ rfl _ _ 37 rfl w.heap.size 92 i0 _ 4 64 Tryz.underlying37 hi0 hz0 hz1 hz2 rfl (by omega) (.slice so j sc) j cells rfl HOW.out.1 ⟨w4.heap.size,0,none⟩ 1 1 [.string op,.int .i64 nn,.string s,.slice so' es.length sc'] rfl rfl HN'.out (by simp [Value.oneCell']) (by omega) HM.out.1 HM.out.2 HOW.out.2.1 _ rfl ?_;intro g cap w6 hown6 hgrow hat hlt6) | fail)
   have hb6:Bw w w6:=by
    have h5:Bw w (w4.alloc (.cells #[.string op,.int .i64 nn,.string s,.slice so' es.length sc'] 92)):=(HRR.out.2.2.trans (HR4.out.2.2.mono HRR.out.2.2.size)).trans (HOW.out.2.2.mono (Nat.le_trans HRR.out.2.2.size HR4.out.2.2.size))
    exact h5.grown hgrow h5.size (fun k hk=>(HRR.out.1.lt k hk).1)
   have hsz:wr.heap.size≤w4.heap.size:=HR4.out.2.2.size
   have st0:aP (lS w.heap.size (.slice so j sc)) (lS w.heap.size (.slice (some ⟨g,0,none⟩) (j+1) cap)) wr w6:=(DK HR4.out.2.2).trans ((DK HOW.out.2.2).trans (Nh hgrow hat) HOW.out.2.2.size) hsz
   have st1:aP (From wr.heap.size) (lS w.heap.size (.slice (some ⟨g,0,none⟩) (j+1) cap)) w4 w6:=aP.trans (G:=From wr.heap.size) (fun b hb hl=>⟨hb,HOW.out.2.2.block b hl⟩) (Ng HRR.out.2.2.size (fun k hk=>(HRR.out.1.lt k hk).2) hgrow hat) HOW.out.2.2.size
   have HNX:Hid (∃cells,w6.ownsRow w.heap.size 92 4 (.slice (some ⟨g,0,none⟩) (j+1) cap) (j+1) cells∧aI w6 (fun b=>lS w.heap.size (.slice (some ⟨g,0,none⟩) (j+1) cap) b∧Pl w6 b) (l.take (j+1)) cells∧Bw w w6):=by
    refine⟨_,hown6,?_,hb6⟩
    rw[HT.out]
    exact(HRR.out.2.1.keep st0.pl).append (.cons _ _ _ es [] _ ys' [] (HR4.out.1.keep st1.pl) (HR4.out.2.1.keep st1.pl) .nil)
   clear st0 st1 hb6 hown6 hgrow hat hlt6 hsz
   go_wp2
   exact⟨⟨j+1,_,_,HJ.out,by rw[N4.out];rfl,rfl,HNX.out⟩,by rw[N4.out];have:=HJ.out;simp [intOf];omega⟩
  ·obtain rfl:n=j:=by omega
   have HE:Hid (∃ys',aB wr (bJ w.heap.size wr) 4 (.slice so n sc) n ys'∧aI wr (bJ w.heap.size wr) l ys'):=by
    obtain⟨cells,hown,hex,hb⟩:=HR.out
    rw[List.take_of_length_le (by have:=H1.out.2.2.1;omega)] at hex
    exact⟨cells,aB.sD hown,hex.keep (fun b hb _=>⟨⟨hb.1.1,hb.2⟩,rfl⟩)⟩
   have HBB:Hid (Bw w wr):=by obtain⟨_,_,_,hb⟩:=HR.out;exact hb
   clear hj hjl HR
   go_wp2
   go_ret
   exact⟨so,sc,rfl,HE.out,HBB.out⟩
end Go.Proofs.YtmgfakcccfahaaaGreatDoor
