/-
  lustrumlaw1.varsOf, ExprOf, exprsOf BY THEIR CONTRACTS: in new memory, and plain.
-/
import Derived.Test.YtmgfakcccfahaaaGreatDoorN27
import Derived.Test.YtmgfakcccfahaaaGreatDoorN45
set_option maxRecDepth 100000
set_option maxHeartbeats 4000000
namespace Go.Proofs.YtmgfakcccfahaaaGreatDoor
open Go.RowKit
attribute [local go_sem ↓] Go.wp_at_zero Go.wp_at_succ

def Pl(w:World)(b:Nat):Prop:=∃cs t,w.heap[b]?=some (.cells cs t (0,0))
def dA(base:Nat)(w:World):Nat→Prop:=fun b=>From base b∧Pl w b
theorem aJ.pl{S S':Nat→Prop}{w w':World}(h:aJ S S' w w'):aJ (fun b=>S b∧Pl w b) (fun b=>S' b∧Pl w' b) w w':=fun b hb hl=>by
 obtain⟨h1,h2⟩:=h b hb.1 hl
 obtain⟨cs,t,hc⟩:=hb.2
 exact⟨⟨h1,cs,t,h2.trans hc⟩,h2⟩
theorem aB.xK{w:World}{base size n:Nat}{e:TypeId}{v:Value}{xs:List Value}(h:w.ownsRow base e size v n xs):aB w (dA base w) size v n xs:=by
 have h0:=aB.iH h
 obtain⟨h1,h2,o,c,rfl,h3,h4⟩:=h0
 refine⟨h1,h2,o,c,rfl,fun k x hx=>?_,h4⟩
 obtain⟨b,off,rfl,hb,hc⟩:=h3 k x hx
 refine⟨b,off,rfl,⟨hb,?_⟩,hc⟩
 rcases h.2 with⟨e,_⟩ | ⟨g,cap,cur,e,_,hg,_⟩
 ·simp at e
 ·obtain⟨rfl,_⟩:b=g∧_:=by simpa [and_assoc] using e
  exact⟨cur,_,hg⟩
theorem I6(w:World)(S:Nat→Prop)(o:Option Addr)(c:Nat)(vs:List Ex)(h:aB w S 2 (.slice o vs.length c) vs.length (dQ vs))(hn:vs.length≤5864062014805) :
  Calls Tryz.prog 38 #[.slice o vs.length c] w fun e w'=>(∃so sc,e=.returned (.slice so vs.length sc)∧aB w' (dA w.heap.size w') 2 (.slice so vs.length sc) vs.length (dQ vs)∧(vs.length=0→so=none∧sc=0))∧Bw w w':=by
 obtain⟨i0,hi0,hz0,hz1,hz2⟩:=info_parts Tryz.BQ
 have H:=aA h
 clear h
 go_enter Tryz.func38,Tryz.ntmps38
 go_wp2
 go_loopw [3,4] (fun v t wr=>∃(i:Nat) (so:Option Addr) (sc:Nat),i≤vs.length∧t=.int .i64 i∧v=.slice so i sc∧wr.ownsRow w.heap.size 157 2 (.slice so i sc) i (dQ (vs.take i))∧Bw w wr∧(i=0→so=none∧sc=0)) (fun _ t _=>vs.length-(intOf t).toNat)
 case atStart=>exact⟨0,none,0,Nat.zero_le _,rfl,rfl,World.ownsRow_nil _ _ _ _,Below.refl _ _,fun _=>⟨rfl,rfl⟩⟩
 case round=>
  obtain⟨i,so,sc,hi,rfl,rfl,hown,hb,hz⟩:=hrel
  have HZ:=aA hz
  clear hz
  by_cases hlt:i<vs.length
  ·obtain⟨b,off,rfl,_,g⟩:=Bj H.out (by rw[yX];omega)
   have c0:=aD hb (g _ _ (wU hlt).1)
   have c1:=aD hb (g _ _ (wU hlt).2)
   rw[←Nat.add_assoc] at c1
   have i0':(0:Int)≤(i:Int):=by omega
   have i1:(i:Int)<(vs.length:Int):=by omega
   have hn63:i+1≤maxLen:=by unfold maxLen;omega
   have hby:(i+1)*24≤140737488355328:=by omega
   have hdr:(wr.drew).ownsRow w.heap.size 157 2 (.slice so i sc) i (dQ (vs.take i)):=hown
   have HO:Hid (∀o,(wr.drew.alloc o).ownsRow w.heap.size 157 2 (.slice so i sc) i (dQ (vs.take i))):=fun o=>hdr.alloc o
   have hnb:(wr.drew.alloc (.cells #[.string vs[i].op,.int .i64 vs[i].n] 157)).heap[wr.heap.size]?=some (.cells #[.string vs[i].op,.int .i64 vs[i].n] 157):=by
    show (wr.heap.push _)[wr.heap.size]?=_
    simp
   have HN':Hid _:=World.news_of_block hnb
   have hrow:Hid (∀k,(Value.slice so i sc).ownBlock=some k→w.heap.size≤k∧k<wr.heap.size):=fun k hk=>Et hown hk
   have hsz:w.heap.size≤(wr.drew.alloc (.cells #[.string vs[i].op,.int .i64 vs[i].n] 157)).heap.size:=Nat.le_trans hb.size (by show _≤(wr.heap.push _).size;simp)
   clear hnb hdr g
   go_wp2
   go_region_law (refine step_append_lies _ rfl (.tmp 11) (.tmp 23) 35 rfl w.heap.size 157 i0 _ 2 24 Tryz.underlying35 hi0 hz0 hz1 hz2 rfl (by omega) (.slice so i sc) i (dQ (vs.take i)) (by simp [Act.eval]) (HO.out _) ⟨wr.heap.size,0,none⟩ 1 1 [.string vs[i].op,.int .i64 vs[i].n] (by simp [Act.eval]) rfl HN'.out (by simp [Value.oneCell']) (by omega) hn63 hby hsz _ rfl (fun g cap w3 hown3 hgrow hat hlt3=>?_))
   all_goals
    rw[←I7 vs i hlt] at hown3
    have hB3:Bw w w3:=((hb.alloc hb.size _).drew).grown hgrow (Nat.le_trans hb.size (by show _≤(wr.heap.push _).size;simp)) (fun k hk=>(hrow.out k hk).1)
    clear HO HN' hrow hsz hgrow hat hown c0 c1
    go_wp2
    exact⟨⟨i+1,some ⟨g,0,none⟩,cap,by omega,by go_num,rfl,hown3,hB3,fun e=>absurd e (by omega)⟩,by simp [intOf];omega⟩
  ·go_wp2
   go_ret
   obtain rfl:i=vs.length:=by omega
   rw[List.take_length] at hown
   exact⟨⟨_,_,rfl,aB.xK hown,HZ.out⟩,hb⟩

theorem Ci:∀(m:Nat) (op:ByteArray) (n:Int) (s:ByteArray) (l:List Ex),SizeOf.sizeOf l<m→l.length≤2199023255552→Fit 2199023255552 l→∀(w:World) (S:Nat→Prop) (o:Option Addr) (c:Nat) (ys:List Value),aB w S 4 (.slice o l.length c) l.length ys→aQ w S l ys →
  Calls Tryz.prog 40 #[.agg #[.string op,.int .i64 n,.string s,.slice o l.length c]] w fun e w'=>(∃so sc ys',e=.returned (.agg #[.string op,.int .i64 n,.string s,.slice so l.length sc])∧aB w' (dA w.heap.size w') 4 (.slice so l.length sc) l.length ys'∧aQ w' (dA w.heap.size w') l ys')∧Bw w w'
 | 0,_,_,_,_,h=>absurd h (Nat.not_lt_zero _)
 | m+1,op,n,s,l,hm=>by
  intro hl hf w S o c ys h1 h2
  obtain⟨i0,hi0,hz0,hz1,hz2⟩:=info_parts Tryz.OQ
  have IH:=Ci m
  have H1:=aA h1
  have H2:=aA h2
  clear h1 h2
  go_enter Tryz.func40,Tryz.ntmps40
  have hbA:Bw w (((w.alloc (.cells #[.string op,.int .i64 n,.string s,.slice o l.length c] 79)).alloc tY).alloc (rW op n s (.slice none 0 0))):=((aH).alloc (by simp) _).alloc (by simp;omega) _
  have HA:Hid ((((w.alloc (.cells #[.string op,.int .i64 n,.string s,.slice o l.length c] 79)).alloc tY).alloc (rW op n s (.slice none 0 0))).heap[w.heap.size]?=some (.cells #[.string op,.int .i64 n,.string s,.slice o l.length c] 79)):=tC _ (tC _ (heap_alloc_new w _))
  have HB:Hid ((((w.alloc (.cells #[.string op,.int .i64 n,.string s,.slice o l.length c] 79)).alloc tY).alloc (rW op n s (.slice none 0 0))).heap[w.heap.size+1]?=some tY):=tC _ (iG w _ _)
  have HC:Hid ((((w.alloc (.cells #[.string op,.int .i64 n,.string s,.slice o l.length c] 79)).alloc tY).alloc (rW op n s (.slice none 0 0))).heap[w.heap.size+1+1]?=some (rW op n s (.slice none 0 0))):=heap_alloc_new' (by simp) _
  go_wp2
  go_loopw [4] (fun t wr=>∃(i:Nat) (so:Option Addr) (sc:Nat) (cells:List Value),i≤l.length∧t=.int .i64 i∧Bw w wr∧w.heap.size+1+1+1≤wr.heap.size∧Hid (wr.heap[w.heap.size]?=some (.cells #[.string op,.int .i64 n,.string s,.slice o l.length c] 79))∧Hid (wr.heap[w.heap.size+1]?=some tY)∧Hid (wr.heap[w.heap.size+1+1]?=some (rW op n s (.slice so i sc)))∧Hid (wr.ownsRow (w.heap.size+1+1+1) 92 4 (.slice so i sc) i cells)∧Hid (aQ wr (fun k=>(w.heap.size+1+1+1≤k∧(Value.slice so i sc).ownBlock≠some k)∧Pl wr k) (l.take i) cells)) (fun t _=>l.length-(intOf t).toNat)
  case atStart=>exact⟨0,none,0,[],Nat.zero_le _,rfl,hbA,by simp,HA,HB,HC,World.ownsRow_nil _ _ _ _,.nil⟩
  case round=>
   clear HA HB HC hbA
   obtain⟨i,so,sc,cells,hi,rfl,hb,hsz,HAr,HBr,HCr,HO,HI⟩:=hrel
   obtain⟨_,_,_,a3,_⟩:=jK HAr.out
   obtain⟨d0,d1,d2,d3,df⟩:=jK HCr.out
   by_cases hlt:i<l.length
   ·obtain⟨op',n',s',es,oo,cc,zs,e,x0,x1,x2,x3,r1,r2⟩:=H2.out.at hlt
    obtain⟨p,f,rfl,_,g⟩:=Bj H1.out (by have:=H1.out.1;omega)
    have x0:=aD hb (g _ _ x0)
    have x1:=aD hb (g _ _ x1)
    have x2:=aD hb (g _ _ x2)
    have x3:=aD hb (g _ _ x3)
    rw[←Nat.add_assoc] at x1 x2 x3
    have i0':(0:Int)≤(i:Int):=by omega
    have i1:(i:Int)<(l.length:Int):=by omega
    have hsp:=qV hlt e
    obtain⟨hfl,hff⟩:=hf.at hlt e
    have Hr:Hid (Calls Tryz.prog 40 #[.agg #[.string op',.int .i64 n',.string s',.slice oo es.length cc]] wr.drew fun e w'=>(∃so sc ys',e=.returned (.agg #[.string op',.int .i64 n',.string s',.slice so es.length sc])∧aB w' (dA wr.drew.heap.size w') 4 (.slice so es.length sc) es.length ys'∧aQ w' (dA wr.drew.heap.size w') es ys')∧Bw wr.drew w'):=IH op' n' s' es (by omega) hfl hff wr.drew S oo cc zs (r1.keep (aJ.below hb.drew (fun k hk=>hk))) (r2.keep (aJ.below hb.drew (fun k hk=>hk)))
    have hn63:i+1≤maxLen:=by unfold maxLen;omega
    have hby:(i+1)*64≤140737488355328:=by omega
    have hrw:Hid (∀k,(Value.slice so i sc).ownBlock=some k→w.heap.size+1+1+1≤k∧k<wr.heap.size):=fun k hk=>Et HO.out hk
    have e':Hid (l[i]=.mk op' n' s' es):=e
    clear g r1 r2 IH hsp hfl hff e
    go_wp2
    go_region_law (first
     | (refine step_append_lies _ rfl (.tmp 20) (.tmp 27) 37 rfl (w.heap.size+1+1+1) 92 i0 _ 4 64 Tryz.underlying37 hi0 hz0 hz1 hz2 rfl (by omega) (.slice so i sc) i cells (by simp [Act.eval]) HO4.out ⟨w4.heap.size,0,none⟩ 1 1 [.string op',.int .i64 n',.string s',.slice so' es.length sc'] (by simp [Act.eval]) rfl HN'.out (by simp [Value.oneCell']) (by omega) hn63 hby (by rw[World.size_alloc];omega) (w4.heap.size+1) (by simp) ?_;intro g2 cap w5 hown5 hgrow hat hlt5;have HC5:Hid _:=BU hgrow (b:=w.heap.size+1+1) (fun hk=>by have:=(hrw.out _ hk).1;omega) (tC _ HC4.out);have q3:=(jK HC5.out).2.2.2.1;have qf:=(jK HC5.out).2.2.2.2 3)
     | (refine J2 rfl 40 #[.agg #[.string op',.int .i64 n',.string s',.slice oo es.length cc]] (by kernel_rfl) ?_;refine Hr.out.mono ?_;rintro e w4 ⟨⟨so',sc',ys',rfl,hrow',hin'⟩,hb4⟩;have hs4:wr.heap.size≤w4.heap.size:=hb4.size;have hb4':Bw wr w4:=(Below.refl _ _).drew.trans hb4;have HC4:Hid _:=aN hb4' HCr.out;obtain⟨v0,v1,v2,v3,vf⟩:=jK HC4.out;have hltc:w.heap.size+1+1<w4.heap.size:=(by omega);have HO4:Hid _:=(Es (ba:=w.heap.size+1+1) HO.out (Mv.of_below hb4') (by omega)).alloc (.cells #[.string op',.int .i64 n',.string s',.slice so' es.length sc'] 92);have HN':Hid _:=World.news_of_block (heap_alloc_new w4 (.cells #[.string op',.int .i64 n',.string s',.slice so' es.length sc'] 92));dsimp only))
    all_goals
     have hbg:Below (w.heap.size+1+1) w4 w5:=((Below.refl _ _).alloc (by omega) _).grown hgrow (by simp;omega) (fun k hk=>by have:=(hrw.out k hk).1;omega)
     have hbs:=hbg.size
     have HB5:Hid ((w5.setCell ⟨w.heap.size+1+1,3,none⟩ (.slice (some ⟨g2,0,none⟩) (i+1) cap)).heap[w.heap.size+1]?=some tY):=(Below.heap_setCell _ _ _ _ (by show w.heap.size+1≠w.heap.size+1+1;omega)).trans (BU hgrow (fun hk=>by have:=(hrw.out _ hk).1;omega) (tC _ (aN hb4' HBr.out)))
     have HA5:Hid ((w5.setCell ⟨w.heap.size+1+1,3,none⟩ (.slice (some ⟨g2,0,none⟩) (i+1) cap)).heap[w.heap.size]?=some (.cells #[.string op,.int .i64 n,.string s,.slice (some ⟨p,f,none⟩) l.length c] 79)):=(Below.heap_setCell _ _ _ _ (by show w.heap.size≠w.heap.size+1+1;omega)).trans (BU hgrow (fun hk=>by have:=(hrw.out _ hk).1;omega) (tC _ (aN hb4' HAr.out)))
     have St0:=(O7 (base:=w.heap.size+1+1+1) (b:=w.heap.size+1+1) (n:=i+1) (cap:=cap) (Mv.of_below hb4') (by omega) hgrow hat).trans (aJ.set (S':=fun k=>w.heap.size+1+1+1≤k∧(Value.slice (some ⟨g2,0,none⟩) (i+1) cap).ownBlock≠some k) (p:=⟨w.heap.size+1+1,3,none⟩) (.slice (some ⟨g2,0,none⟩) (i+1) cap) (fun k hk=>⟨by show k≠w.heap.size+1+1;omega,hk⟩)) (by omega)
     have St1:=(O8 (base:=w.heap.size+1+1+1) (H:=wr.heap.size) (n:=i+1) (cap:=cap) (by omega) (fun k hk=>(hrw.out k hk).2) hgrow hat).trans (aJ.set (S':=fun k=>w.heap.size+1+1+1≤k∧(Value.slice (some ⟨g2,0,none⟩) (i+1) cap).ownBlock≠some k) (p:=⟨w.heap.size+1+1,3,none⟩) (.slice (some ⟨g2,0,none⟩) (i+1) cap) (fun k hk=>⟨by show k≠w.heap.size+1+1;omega,hk⟩)) (by omega)
     have hBf:Bw w (w5.setCell ⟨w.heap.size+1+1,3,none⟩ (.slice (some ⟨g2,0,none⟩) (i+1) cap)):=(hb.trans ((hb4'.mono hb.size).trans (hbg.mono (by omega)))).setCell (by show w.heap.size≤w.heap.size+1+1;omega) _
     have HI5:Hid (aQ (w5.setCell ⟨w.heap.size+1+1,3,none⟩ (.slice (some ⟨g2,0,none⟩) (i+1) cap)) (fun k=>(w.heap.size+1+1+1≤k∧(Value.slice (some ⟨g2,0,none⟩) (i+1) cap).ownBlock≠some k)∧Pl (w5.setCell ⟨w.heap.size+1+1,3,none⟩ (.slice (some ⟨g2,0,none⟩) (i+1) cap)) k) (l.take (i+1)) (cells++[.string op',.int .i64 n',.string s',.slice so' es.length sc'])):=by
      rw[List.take_succ_eq_append_getElem hlt,e'.out]
      exact(HI.out.keep St0.pl).append (.cons _ _ _ es [] _ ys' [] (hrow'.keep St1.pl) (hin'.keep St1.pl) .nil)
     clear St0 St1 hrow' hin'
     go_wp2
     exact⟨⟨i+1,some ⟨g2,0,none⟩,cap,_,by omega,by go_num,hBf,by simp;omega,HA5,HB5,xH HC5.out,Es hown5 (Mv.setAt (w.heap.size+1+1) 3 _ _) (by omega),HI5⟩,by simp [intOf];omega⟩
   ·obtain⟨z0,z1,z2,z3,zf⟩:=jK HBr.out
    have zf0:=zf 0
    have zf1:=zf 1
    have zf2:=zf 2
    have zf3:=zf 3
    obtain rfl:i=l.length:=by omega
    go_wp2
    have hr:=KN (a:=.string op) (b:=.int .i64 n) (c:=.string s) (e:=.slice so l.length sc) HBr.out
    obtain⟨y0,y1,y2,y3,_⟩:=jK hr
    simp only[qY] at y0 y1 y2 y3
    have hin:=HI.out
    rw[List.take_length] at hin
    have St:∀{S:Nat→Prop},(∀k,S k→w.heap.size+1+1+1≤k)→aJ S (From w.heap.size) wr (qY wr (w.heap.size+1) (.string op) (.int .i64 n) (.string s) (.slice so l.length sc)):=fun hs=>KL (fun k hk=>by have:=hs k hk;exact⟨by omega,by unfold From;omega⟩)
    exact bodyPost_ret (v:=.agg #[.string op,.int .i64 n,.string s,.slice so l.length sc]) (by simp [results,Tryz.results40,go_sem,y0,y1,y2,y3]) rfl ⟨⟨so,sc,cells,rfl,(aB.xK HO.out).keep (St (fun k hk=>hk)).pl,hin.keep (St (S:=fun k=>w.heap.size+1+1+1≤k∧(Value.slice so l.length sc).ownBlock≠some k) (fun k hk=>hk.1)).pl⟩,hb.trans (KO (by omega))⟩

def lS(base:Nat)(v:Value):Nat→Prop:=fun b=>From base b∧Off v b
theorem Gp{base g n c:Nat}{w w':World}{v:Value}(hg:w.grownBy w' v.ownBlock)(ha:v.ownBlock=some g∨g=w.heap.size):aJ (lS base v) (lS base (.slice (some ⟨g,0,none⟩) n c)) w w':=fun b hb hl=>by
 obtain⟨h1,h2⟩:=vN (n:=n) (c:=c) hg ha rfl b hb.2 hl
 exact⟨⟨hb.1,h1⟩,h2⟩
theorem Ag{base:Nat}{w w':World}{v:Value}(hb:Bw w w'):aJ (lS base v) (lS base v) w w':=fun b h hl=>⟨h,hb.block b hl⟩
theorem Gn{base H g n c:Nat}{w w':World}{v:Value}(hH:base≤H)(hu:∀k,v.ownBlock=some k→k<H)(hg:w.grownBy w' v.ownBlock)(ha:v.ownBlock=some g∨g=w.heap.size):aJ (From H) (lS base (.slice (some ⟨g,0,none⟩) n c)) w w':=fun b hb hl=>by
 have hb':H≤b:=hb
 have ho:Off v b:=fun e=>by have:=hu b e;omega
 obtain⟨h1,h2⟩:=vN (n:=n) (c:=c) hg ha rfl b ho hl
 exact⟨⟨Nat.le_trans hH hb',h1⟩,h2⟩
theorem GK(w:World)(S:Nat→Prop)(o:Option Addr)(c n:Nat)(l:List Ex)(ys:List Value)(hn:n=l.length)(h1:aB w S 4 (.slice o n c) n ys)(h2:aQ w S l ys)(hf:Fit 2199023255552 l)(hl:n≤2097152) :
  Calls Tryz.prog 39 #[.slice o n c] w fun e w'=>∃so sc,e=.returned (.slice so n sc)∧(∃ys',aB w' (dA w.heap.size w') 4 (.slice so n sc) n ys'∧aQ w' (dA w.heap.size w') l ys')∧Bw w w':=by
 obtain⟨i0,hi0,hz0,hz1,hz2⟩:=info_parts Tryz.sU
 have H1:Hid (aB w S 4 (.slice o n c) n ys∧aQ w S l ys∧n=l.length∧n≤2097152∧Fit 2199023255552 l):=⟨h1,h2,hn,hl,hf⟩
 clear h1 h2 hf hn hl
 go_enter Tryz.func39,Tryz.ntmps39
 go_wp2
 go_loopw [3,4] (fun v t wr=>∃(j:Nat) (so:Option Addr) (sc:Nat),j≤n∧t=.int .i64 j∧v=.slice so j sc∧Hid (∃cells,wr.ownsRow w.heap.size 92 4 (.slice so j sc) j cells∧aQ wr (fun b=>lS w.heap.size (.slice so j sc) b∧Pl wr b) (l.take j) cells∧Bw w wr)) (fun _ t _=>n-(intOf t).toNat)
 case atStart=>exact⟨0,none,0,Nat.zero_le _,rfl,rfl,[],World.ownsRow_nil _ _ _ _,.nil,Below.refl _ _⟩
 case round=>
  obtain⟨j,so,sc,hj,rfl,rfl,HR⟩:=hrel
  by_cases hjl:j<n
  ·obtain⟨cells,hown,hex,hb⟩:=HR.out
   have hjt:j<l.length:=by have:=H1.out.2.2.1;omega
   obtain⟨op,nn,s,es,oo,cc,zs,ej,x0,x1,x2,x3,r1,r2⟩:=H1.out.2.1.at hjt
   obtain⟨hfl,hff⟩:=H1.out.2.2.2.2.at hjt ej
   obtain⟨b,off,c',ev,_,_,gg⟩:=(H1.out.1.keep (S':=fun _=>True) (fun b _ hl=>⟨trivial,hb.block b hl⟩)).at (by rw[H1.out.1.1];omega)
   obtain⟨rfl,rfl⟩:o=some ⟨b,off,none⟩∧c=c':=by simpa using ev
   have y0:=gg _ _ x0
   have y1:=gg _ _ x1
   have y2:=gg _ _ x2
   have y3:=gg _ _ x3
   rw[←Nat.add_assoc] at y1 y2 y3
   have HEX:Hid (Calls Tryz.prog 40 #[.agg #[.string op,.int .i64 nn,.string s,.slice oo es.length cc]] wr fun e w'=>(∃so sc ys',e=.returned (.agg #[.string op,.int .i64 nn,.string s,.slice so es.length sc])∧aB w' (dA wr.heap.size w') 4 (.slice so es.length sc) es.length ys'∧aQ w' (dA wr.heap.size w') es ys')∧Bw wr w'):=Ci _ op nn s es (Nat.lt_succ_self _) hfl hff wr (fun _=>True) oo cc zs (r1.keep (fun b _ hl=>⟨trivial,hb.block b hl⟩)) (r2.keep (fun b _ hl=>⟨trivial,hb.block b hl⟩))
   have HT:Hid (l.take (j+1)=l.take j++[.mk op nn s es]):=by unfold Hid;rw[List.take_succ_eq_append_getElem hjt,ej]
   have HRR:Hid (wr.ownsRow w.heap.size 92 4 (.slice so j sc) j cells∧aQ wr (fun b=>lS w.heap.size (.slice so j sc) b∧Pl wr b) (l.take j) cells∧Bw w wr):=⟨hown,hex,hb⟩
   have i0':(0:Int)≤(j:Int):=by omega
   have i1':(j:Int)<(n:Int):=by omega
   have HJ:=aA hjl
   have N4:Hid (wrap64 ((j:Int)+1)=(j:Int)+1):=by have:=H1.out.2.2.2.1;unfold Hid wrap64;omega
   have HM:Hid (j+1≤maxLen∧(j+1)*64≤140737488355328):=by have:=H1.out.2.2.2.1;unfold Hid maxLen;omega
   clear ej x0 x1 x2 x3 r1 r2 ev gg hfl hff hown hex hb hjl hj hjt HR
   go_wp2_with (first | (go_at_call 40;refine HEX.out.mono ?_;rintro e w4 ⟨⟨so',sc',ys',rfl,hr4,hx4⟩,hb4⟩;have HR4:Hid (aB w4 (dA wr.heap.size w4) 4 (.slice so' es.length sc') es.length ys'∧aQ w4 (dA wr.heap.size w4) es ys'∧Bw wr w4):=⟨hr4,hx4,hb4⟩;have hba:Bw w4 (w4.alloc (.cells #[.string op,.int .i64 nn,.string s,.slice so' es.length sc'] 92)):=aH;have HOW:Hid ((w4.alloc (.cells #[.string op,.int .i64 nn,.string s,.slice so' es.length sc'] 92)).ownsRow w.heap.size 92 4 (.slice so j sc) j cells∧w.heap.size≤(w4.alloc (.cells #[.string op,.int .i64 nn,.string s,.slice so' es.length sc'] 92)).heap.size∧Bw w4 (w4.alloc (.cells #[.string op,.int .i64 nn,.string s,.slice so' es.length sc'] 92))):=⟨mK (mK HRR.out.1 hb4) hba,Nat.le_trans (Nat.le_trans HRR.out.2.2.size hb4.size) hba.size,hba⟩;have HN':Hid _:=World.news_of_block (heap_alloc_new w4 (.cells #[.string op,.int .i64 nn,.string s,.slice so' es.length sc'] 92));clear hr4 hx4 hb4 hba) | (at_builtin;refine wpList_append_lies _ rfl _ _ 37 rfl w.heap.size 92 i0 _ 4 64 Tryz.underlying37 hi0 hz0 hz1 hz2 rfl (by omega) (.slice so j sc) j cells rfl HOW.out.1 ⟨w4.heap.size,0,none⟩ 1 1 [.string op,.int .i64 nn,.string s,.slice so' es.length sc'] rfl rfl HN'.out (by simp [Value.oneCell']) (by omega) HM.out.1 HM.out.2 HOW.out.2.1 _ rfl ?_;intro g cap w6 hown6 hgrow hat hlt6) | fail)
   have hb6:Bw w w6:=by
    have h5:Bw w (w4.alloc (.cells #[.string op,.int .i64 nn,.string s,.slice so' es.length sc'] 92)):=(HRR.out.2.2.trans (HR4.out.2.2.mono HRR.out.2.2.size)).trans (HOW.out.2.2.mono (Nat.le_trans HRR.out.2.2.size HR4.out.2.2.size))
    exact h5.grown hgrow h5.size (fun k hk=>(HRR.out.1.lt k hk).1)
   have hsz:wr.heap.size≤w4.heap.size:=HR4.out.2.2.size
   have st0:aJ (lS w.heap.size (.slice so j sc)) (lS w.heap.size (.slice (some ⟨g,0,none⟩) (j+1) cap)) wr w6:=(Ag HR4.out.2.2).trans ((Ag HOW.out.2.2).trans (Gp hgrow hat) HOW.out.2.2.size) hsz
   have st1:aJ (From wr.heap.size) (lS w.heap.size (.slice (some ⟨g,0,none⟩) (j+1) cap)) w4 w6:=aJ.trans (G:=From wr.heap.size) (fun b hb hl=>⟨hb,HOW.out.2.2.block b hl⟩) (Gn HRR.out.2.2.size (fun k hk=>(HRR.out.1.lt k hk).2) hgrow hat) HOW.out.2.2.size
   have HNX:Hid (∃cells,w6.ownsRow w.heap.size 92 4 (.slice (some ⟨g,0,none⟩) (j+1) cap) (j+1) cells∧aQ w6 (fun b=>lS w.heap.size (.slice (some ⟨g,0,none⟩) (j+1) cap) b∧Pl w6 b) (l.take (j+1)) cells∧Bw w w6):=by
    refine⟨_,hown6,?_,hb6⟩
    rw[HT.out]
    exact(HRR.out.2.1.keep st0.pl).append (.cons _ _ _ es [] _ ys' [] (HR4.out.1.keep st1.pl) (HR4.out.2.1.keep st1.pl) .nil)
   clear st0 st1 hb6 hown6 hgrow hat hlt6 hsz
   go_wp2
   exact⟨⟨j+1,_,_,HJ.out,by rw[N4.out];rfl,rfl,HNX.out⟩,by rw[N4.out];have:=HJ.out;simp [intOf];omega⟩
  ·obtain rfl:n=j:=by omega
   have HE:Hid (∃ys',aB wr (dA w.heap.size wr) 4 (.slice so n sc) n ys'∧aQ wr (dA w.heap.size wr) l ys'):=by
    obtain⟨cells,hown,hex,hb⟩:=HR.out
    rw[List.take_of_length_le (by have:=H1.out.2.2.1;omega)] at hex
    exact⟨cells,aB.xK hown,hex.keep (fun b hb _=>⟨⟨hb.1.1,hb.2⟩,rfl⟩)⟩
   have HBB:Hid (Bw w wr):=by obtain⟨_,_,_,hb⟩:=HR.out;exact hb
   clear hj hjl HR
   go_wp2
   go_ret
   exact⟨so,sc,rfl,HE.out,HBB.out⟩
end Go.Proofs.YtmgfakcccfahaaaGreatDoor
