/-
  lustrumlaw2.Long, In BY CONTRACT.
-/
import Derived.Test.YtmgfakcccfahaaaGreatDoorN48
set_option maxRecDepth 100000
set_option maxHeartbeats 8000000
namespace Go.Proofs.YtmgfakcccfahaaaGreatDoor
open Go.RowKit

theorem Tryz.OI:(Tryz.prog.info? 64).map (fun i=>(i.zero,i.size,i.bytes))=some (some (.slice none 0 0),1,24):=by kernel_rfl
def jH(ll:List (List (Int×Int))):Bool:=ll.any (fun l=>decide (50<l.length))||(decide (14<ll.length)&&decide (ll.length≤300))||decide (305<ll.length)
theorem NJ{ll:List (List (Int×Int))}{j:Nat}{l:List (Int×Int)}(h:ll[j]?=some l)(hl:50<l.length):jH ll=true:=by
 unfold jH
 rw[Bool.or_eq_true,Bool.or_eq_true]
 exact .inl (.inl (List.any_eq_true.2 ⟨l,List.mem_of_getElem? h,decide_eq_true hl⟩))
theorem NN{ll:List (List (Int×Int))}(h1:14<ll.length)(h2:ll.length≤300):jH ll=true:=by
 unfold jH
 rw[decide_eq_true h1,decide_eq_true h2]
 simp
theorem NP{ll:List (List (Int×Int))}(h:305<ll.length):jH ll=true:=by
 unfold jH
 rw[decide_eq_true h,Bool.or_true]
theorem Fq{ll:List (List (Int×Int))}(h:∀l∈ll,l.length≤50)(h1:¬(14<ll.length∧ll.length≤300))(h2:¬305<ll.length):jH ll=false:=by
 unfold jH
 rw[decide_eq_false h2,Bool.or_false,←Bool.decide_and,decide_eq_false h1,Bool.or_false]
 exact List.any_eq_false.2 fun l hl e=>absurd (of_decide_eq_true e) (by have:=h l hl;omega)
theorem NM{ll:List (List (Int×Int))}(h:jH ll=false):(∀l∈ll,l.length≤50)∧ll.length≤305:=by
 unfold jH at h
 rw[Bool.or_eq_false_iff,Bool.or_eq_false_iff] at h
 refine⟨fun l hl=>?_,by have:=of_decide_eq_false h.2;omega⟩
 have:=List.any_eq_false.1 h.1.1 l hl
 simpa using this
theorem NI(w:World)(o:Option Addr)(m c:Nat)(ll:List (List (Int×Int)))(hm:m=ll.length)(hI:mF w (.slice o m c) ll) :
  Calls Tryz.prog 19 #[.slice o m c] w fun e w'=>e=.returned (.int .i64 (if jH ll=true then 1 else 0))∧Bw w w':=by
 have H:Hid (mF w (.slice o m c) ll∧m=ll.length):=⟨hI,hm⟩
 obtain⟨LB,hLB⟩:∃LB:Int,LB=if jH ll=true then 1 else 0:=⟨_,rfl⟩
 rw[←hLB]
 have HLB0:=aA hLB
 clear hI hm hLB
 go_enter Tryz.func19,Tryz.ntmps19
 go_wp2
 go_loopw [3] (fun t wr=>∃j:Nat,j≤m∧t=.int .i64 j∧Hid (wr=w∧∀(k:Nat) (l:List (Int×Int)),k<j→ll[k]?=some l→l.length≤50)) (fun t _=>m-(intOf t).toNat)
 case atStart=>exact⟨0,Nat.zero_le _,rfl,rfl,fun k l hk=>absurd hk (Nat.not_lt_zero _)⟩
 case round=>
  obtain⟨j,hj,rfl,HR⟩:=hrel
  obtain rfl:=HR.out.1
  by_cases hjl:j<m
  ·obtain⟨l,hl⟩:∃l,ll[j]?=some l:=⟨_,List.getElem?_eq_getElem (by have:=H.out.2;omega)⟩
   obtain⟨_,o',c',eo,hget⟩:=H.out.1
   obtain⟨b,off,vo,vc,eo2,y0,_⟩:=hget j l hl
   obtain⟨rfl,_,rfl⟩:=Value.slice.inj eo
   subst eo2
   have hlm:=H.out.1.1
   unfold maxLen at hlm
   have i0':(0:Int)≤(j:Int):=by omega
   have i1':(j:Int)<(m:Int):=by omega
   have N4:Hid (wrap64 ((j:Int)+1)=(j:Int)+1):=by have:=H.out.2;unfold Hid wrap64;omega
   have HJ:Hid (j<m∧ll[j]?=some l):=⟨hjl,hl⟩
   obtain⟨x,hx⟩:∃x,x=l.length:=⟨_,rfl⟩
   rw[←hx] at y0
   have HX:=aA hx
   clear eo hget hl hlm hjl hj hx
   by_cases hlx:50<x
   ·have g1:(50:Int)<(x:Int):=by omega
    have HLB:Hid (jH ll=true):=NJ HJ.out.2 (by have:=HX.out;omega)
    clear hlx HR
    go_wp2
    go_ret
    exact⟨by rw[HLB0.out,HLB.out];rfl,Below.refl _ _⟩
   ·have g1:¬(50:Int)<(x:Int):=by omega
    have HNX:Hid (∀(k:Nat) (l:List (Int×Int)),k<j+1→ll[k]?=some l→l.length≤50):=fun k l' hk hl'=>by
     by_cases e:k=j
     ·rw[e,HJ.out.2] at hl'
      rw[←Option.some.inj hl',←HX.out];omega
     ·exact HR.out.2 k l' (by omega) hl'
    clear hlx HR
    go_wp2
    exact⟨⟨j+1,HJ.out.1,by (try rw[N4.out]);rfl,by first | exact⟨rfl,HNX.out⟩ | exact⟨trivial,HNX.out⟩ | exact HNX.out⟩,by (try rw[N4.out]);have:=HJ.out.1;simp [intOf];omega⟩
  ·obtain rfl:m=j:=by omega
   have HA:Hid (∀l∈ll,l.length≤50):=fun l hl=>by
    obtain⟨k,hk⟩:=List.mem_iff_getElem?.1 hl
    exact HR.out.2 k l (by have:=H.out.2;have:=(bA hk).1;omega) hk
   have hmm:=H.out.2
   clear hj hjl HR
   by_cases h1:14<m
   ·have g1:(14:Int)<(m:Int):=by omega
    by_cases h2:m≤300
    ·have g2:(m:Int)≤300:=by omega
     have HLB:Hid (jH ll=true):=NN (by omega) (by omega)
     clear hmm h1 h2
     go_wp2
     go_ret
     exact⟨by rw[HLB0.out,HLB.out];rfl,Below.refl _ _⟩
    ·have g2:¬(m:Int)≤300:=by omega
     by_cases h3:305<m
     ·have g3:(305:Int)<(m:Int):=by omega
      have HLB:Hid (jH ll=true):=NP (by omega)
      clear hmm h1 h2 h3
      go_wp2
      go_ret
      exact⟨by rw[HLB0.out,HLB.out];rfl,Below.refl _ _⟩
     ·have g3:¬(305:Int)<(m:Int):=by omega
      have HLB:Hid (jH ll=false):=Fq HA.out (by omega) (by omega)
      clear hmm h1 h2 h3
      go_wp2
      go_ret
      exact⟨by rw[HLB0.out,HLB.out];rfl,Below.refl _ _⟩
   ·have g1:¬(14:Int)<(m:Int):=by omega
    have g3:¬(305:Int)<(m:Int):=by omega
    have HLB:Hid (jH ll=false):=Fq HA.out (by omega) (by omega)
    clear hmm h1
    go_wp2
    go_ret
    exact⟨by rw[HLB0.out,HLB.out];rfl,Below.refl _ _⟩
def qQ(w:World)(F:Nat→Prop)(ll:List (List (Int×Int)))(xs:List Value):Prop:=
 xs.length=ll.length∧∀(k:Nat) (l:List (Int×Int)),ll[k]?=some l→∃vo vc,xs[k]?=some (.slice vo l.length vc)∧aB w F 2 (.slice vo l.length vc) l.length (bG l)
theorem qQ.keep{w w':World}{F F':Nat→Prop}{ll:List (List (Int×Int))}{xs:List Value}(h:qQ w F ll xs)(hs:aJ F F' w w'):qQ w' F' ll xs:=
 ⟨h.1,fun k l hk=>by obtain⟨vo,vc,h1,h2⟩:=h.2 k l hk;exact⟨vo,vc,h1,h2.keep hs⟩⟩
theorem qQ.snoc{w:World}{F:Nat→Prop}{ll:List (List (Int×Int))}{xs:List Value}(h:qQ w F ll xs){l:List (Int×Int)}{vo:Option Addr}{vc:Nat}(hr:aB w F 2 (.slice vo l.length vc) l.length (bG l)):qQ w F (ll++[l]) (xs++[.slice vo l.length vc]):=by
 refine⟨by simp [h.1],fun k l' hk=>?_⟩
 have hl:=(bA hk).1
 rw[List.length_append,List.length_singleton] at hl
 by_cases hkl:k<ll.length
 ·rw[List.getElem?_append_left hkl] at hk
  rw[List.getElem?_append_left (by rw[h.1];exact hkl)]
  exact h.2 k l' hk
 ·obtain rfl:k=ll.length:=by omega
  rw[List.getElem?_append_right (Nat.le_refl _),Nat.sub_self] at hk
  obtain rfl:l=l':=by simpa using hk
  refine⟨vo,vc,?_,hr⟩
  rw[List.getElem?_append_right (by rw[h.1];exact Nat.le_refl _),h.1,Nat.sub_self]
  rfl
def nQ(w:World)(v:Value)(ll:List (List (Int×Int))):Prop:=∃xs,aB w (fun _=>True) 1 v ll.length xs∧qQ w (fun _=>True) ll xs
theorem nQ.keep{w w':World}{v:Value}{ll:List (List (Int×Int))}(h:nQ w v ll)(hb:Bw w w'):nQ w' v ll:=by
 obtain⟨xs,h1,h2⟩:=h
 exact⟨xs,h1.keep (dX hb),h2.keep (dX hb)⟩
theorem nQ.at{w:World}{v:Value}{ll:List (List (Int×Int))}(h:nQ w v ll):mF w v ll:=by
 obtain⟨xs,h1,h2⟩:=h
 obtain⟨h3,h4,o,c,rfl,h5,h6⟩:=h1
 refine⟨h4,o,c,rfl,fun k l hk=>?_⟩
 obtain⟨vo,vc,h7,h8⟩:=h2.2 k l hk
 obtain⟨b,off,rfl,_,h9⟩:=h5 k _ h7
 exact⟨b,off,vo,vc,rfl,h9,kF.EF h8⟩
theorem nQ.take{w:World}{o:Option Addr}{n c k:Nat}{ll:List (List (Int×Int))}(h:nQ w (.slice o n c) ll)(hk:k≤ll.length):nQ w (.slice o k c) (ll.take k):=by
 obtain⟨xs,h1,h2⟩:=h
 obtain⟨h3,h4,o',c',e,h5,h6⟩:=h1
 obtain⟨rfl,_,rfl⟩:=Value.slice.inj e
 have hl:(ll.take k).length=k:=by rw[List.length_take];omega
 refine⟨xs.take k,⟨by rw[hl,List.length_take,h3];omega,by rw[hl];omega,o,c,by rw[hl],fun j x hx=>?_,by rw[hl];omega⟩,by rw[hl,List.length_take,h3];omega,fun j l hj=>?_⟩
 ·rw[List.getElem?_take] at hx
  split at hx
  ·exact h5 j x hx
  ·cases hx
 ·rw[List.getElem?_take] at hj
  split at hj
  ·rename_i hjk
   obtain⟨vo,vc,h7,h8⟩:=h2.2 j l hj
   exact⟨vo,vc,by rw[List.getElem?_take,if_pos hjk];exact h7,h8⟩
  ·cases hj
theorem OW(w:World)(o:Option Addr)(m c:Nat)(ll:List (List (Int×Int)))(hm:m=ll.length)(hI:nQ w (.slice o m c) ll)(hl:∀l∈ll,l.length≤50)(hml:m≤305) :
  Calls Tryz.prog 21 #[.slice o m c] w fun e w'=>∃so sc,e=.returned (.slice so m sc)∧mF w' (.slice so m sc) ll∧Bw w w':=by
 obtain⟨i0,hi0,hz0,hz1,hz2⟩:=info_parts Tryz.OI
 obtain⟨i1,hj0,hj1,hj2,hj3⟩:=info_parts Tryz.uV
 have H:Hid (nQ w (.slice o m c) ll∧m=ll.length∧(∀l∈ll,l.length≤50)∧m≤305):=⟨hI,hm,hl,hml⟩
 clear hI hm hl hml
 go_enter Tryz.func21,Tryz.ntmps21
 go_wp2
 go_loopw [3,4] (fun v t wr=>∃(j:Nat) (so:Option Addr) (sc:Nat),j≤m∧t=.int .i64 j∧v=.slice so j sc∧Hid (∃cells,wr.ownsRow w.heap.size 64 1 (.slice so j sc) j cells∧qQ wr (lS w.heap.size (.slice so j sc)) (ll.take j) cells∧Bw w wr)) (fun _ t _=>m-(intOf t).toNat)
 case atStart=>exact⟨0,none,0,Nat.zero_le _,rfl,rfl,[],World.ownsRow_nil _ _ _ _,⟨rfl,fun k l hk=>by simp at hk⟩,Below.refl _ _⟩
 case round=>
  obtain⟨j,so,sc,hj,rfl,rfl,HR⟩:=hrel
  by_cases hjl:j<m
  ·obtain⟨cells,hown,hin,hb⟩:=HR.out
   obtain⟨l,hl⟩:∃l,ll[j]?=some l:=⟨_,List.getElem?_eq_getElem (by have:=H.out.2.1;omega)⟩
   obtain⟨xs,hx1,hx2⟩:=H.out.1
   obtain⟨vo,vc,hc0,hr0⟩:=hx2.2 j l hl
   obtain⟨b,off,c',ev,_,_,gg⟩:=(hx1.keep (dX hb)).at (by rw[hx2.1];have:=H.out.2.1;omega)
   obtain⟨⟨rfl,_⟩,rfl⟩:(o=some ⟨b,off,none⟩∧m=ll.length)∧c=c':=by simpa [and_assoc] using ev
   have y0:=gg _ _ hc0
   have hlx:l.length≤50:=H.out.2.2.1 l (List.mem_of_getElem? hl)
   obtain⟨x,hx⟩:∃x,x=l.length:=⟨_,rfl⟩
   rw[←hx] at y0 hr0
   have HRW:Hid (aB wr (fun _=>True) 2 (.slice vo x vc) x (bG l)∧x=l.length∧x≤50):=⟨hr0.keep (dX hb),hx,by omega⟩
   have HRR:Hid (wr.ownsRow w.heap.size 64 1 (.slice so j sc) j cells∧qQ wr (lS w.heap.size (.slice so j sc)) (ll.take j) cells∧Bw w wr):=⟨hown,hin,hb⟩
   have HT:Hid (ll.take (j+1)=ll.take j++[l]):=by unfold Hid;rw[List.take_add_one,hl];rfl
   have i0':(0:Int)≤(j:Int):=by omega
   have i1':(j:Int)<(ll.length:Int):=by have:=H.out.2.1;omega
   have HJ:=aA hjl
   have N4:Hid (wrap64 ((j:Int)+1)=(j:Int)+1):=by have:=H.out.2.2.2;unfold Hid wrap64;omega
   have HM:Hid (0+x≤maxLen∧(0+x)*16≤140737488355328∧j+1≤maxLen∧(j+1)*24≤140737488355328):=by have:=H.out.2.2.2;unfold Hid maxLen;omega
   clear hown hin hb hl hx1 hx2 hc0 hr0 ev gg hlx hx hjl hj HR
   go_wp2_with (first | (at_builtin;refine yV wr rfl _ _ 64 rfl wr.heap.size 66 i1 _ 2 16 Tryz.underlying64 hj0 hj1 hj2 hj3 rfl (by omega) (.slice none 0 0) 0 [] rfl (World.ownsRow_nil _ _ _ _) _ vo x vc (bG l) rfl HRW.out.1 (Da l) HM.out.1 HM.out.2.1 (Nat.le_refl _) ?_;intro v2 w2 hown2 hgrow2 hat2;obtain⟨q2,d2,rfl⟩:=zM hown2;rw[Nat.zero_add,List.nil_append] at hown2;have HB2:Hid (Bw wr w2):=⟨hgrow2.os,hgrow2.tape,hgrow2.output,hgrow2.size,fun b hl=>hgrow2.block b hl (fun e=>by cases e)⟩;have HR2:Hid (aB w2 (From wr.heap.size) 2 (.slice q2 x d2) x (bG l)):=aB.iH hown2;have hba:Bw w2 (w2.alloc (.cells #[.slice q2 x d2] 64)):=aH;have HOW:Hid ((w2.alloc (.cells #[.slice q2 x d2] 64)).ownsRow w.heap.size 64 1 (.slice so j sc) j cells∧w.heap.size≤(w2.alloc (.cells #[.slice q2 x d2] 64)).heap.size∧Bw w2 (w2.alloc (.cells #[.slice q2 x d2] 64))):=⟨mK (mK HRR.out.1 HB2.out) hba,Nat.le_trans (Nat.le_trans HRR.out.2.2.size HB2.out.size) hba.size,hba⟩;have HN':Hid _:=World.news_of_block (heap_alloc_new w2 (.cells #[.slice q2 x d2] 64));clear hown2 hgrow2 hat2 hba;try simp only[Nat.zero_add]) | (at_builtin;refine wpList_append_lies _ rfl _ _ 51 rfl w.heap.size 64 i0 _ 1 24 Tryz.underlying51 hi0 hz0 hz1 hz2 rfl (by omega) (.slice so j sc) j cells rfl HOW.out.1 ⟨w2.heap.size,0,none⟩ 1 1 [.slice q2 x d2] rfl rfl HN'.out (by simp [Value.oneCell']) (by omega) HM.out.2.2.1 HM.out.2.2.2 HOW.out.2.1 _ rfl ?_;intro g cap w4 hown4 hgrow hat hlt4) | go_in)
   have hsz:wr.heap.size≤w2.heap.size:=HB2.out.size
   have hb4:Bw w w4:=by
    have h3:Bw w (w2.alloc (.cells #[.slice q2 x d2] 64)):=(HRR.out.2.2.trans (HB2.out.mono HRR.out.2.2.size)).trans (HOW.out.2.2.mono (Nat.le_trans HRR.out.2.2.size hsz))
    exact h3.grown hgrow h3.size (fun k hk=>(HRR.out.1.lt k hk).1)
   have st0:aJ (lS w.heap.size (.slice so j sc)) (lS w.heap.size (.slice (some ⟨g,0,none⟩) (j+1) cap)) wr w4:=(Ag HB2.out).trans ((Ag HOW.out.2.2).trans (Gp hgrow hat) HOW.out.2.2.size) hsz
   have st1:aJ (From wr.heap.size) (lS w.heap.size (.slice (some ⟨g,0,none⟩) (j+1) cap)) w2 w4:=aJ.trans (G:=From wr.heap.size) (fun b hb hl=>⟨hb,HOW.out.2.2.block b hl⟩) (Gn HRR.out.2.2.size (fun k hk=>(HRR.out.1.lt k hk).2) hgrow hat) HOW.out.2.2.size
   have HNX:Hid (∃cells,w4.ownsRow w.heap.size 64 1 (.slice (some ⟨g,0,none⟩) (j+1) cap) (j+1) cells∧qQ w4 (lS w.heap.size (.slice (some ⟨g,0,none⟩) (j+1) cap)) (ll.take (j+1)) cells∧Bw w w4):=by
    refine⟨_,hown4,?_,hb4⟩
    rw[HT.out]
    have h2:=HR2.out.keep st1
    rw[HRW.out.2.1] at h2 ⊢
    exact(HRR.out.2.1.keep st0).snoc h2
   clear st0 st1 hb4 hown4 hgrow hat hlt4 hsz
   go_wp2
   exact⟨⟨j+1,by have:=HJ.out;have:=H.out.2.1;omega,by rw[N4.out];rfl,_,_,⟨rfl,rfl,rfl⟩,HNX.out⟩,by rw[N4.out];have:=HJ.out;have:=H.out.2.1;simp [intOf];omega⟩
  ·obtain rfl:m=j:=by omega
   have HE:Hid (mF wr (.slice so m sc) ll∧Bw w wr):=by
    obtain⟨cells,hown,hin,hb⟩:=HR.out
    rw[List.take_of_length_le (by have:=H.out.2.1;omega)] at hin
    refine⟨nQ.at ⟨cells,by rw[←H.out.2.1];exact(aB.iH hown).keep (fun _ _ _=>⟨trivial,rfl⟩),hin.keep (fun _ _ _=>⟨trivial,rfl⟩)⟩,hb⟩
   clear hj hjl HR
   go_wp2
   go_ret
   exact⟨so,sc,rfl,HE.out⟩

theorem Tryz.OL:(Tryz.prog.info? 123).map (fun i=>(i.zero,i.size,i.bytes))=some (some (.agg #[.slice none 0 0,.bool false,.bool false,.slice none 0 0]),4,56):=by kernel_rfl
theorem eU.take{w:World}{o:Option Addr}{n c k:Nat}{l:List Tk}(h:eU w (.slice o n c) l)(hk:k≤l.length):eU w (.slice o k c) (l.take k):=by
 obtain⟨xs,h1,h2⟩:=h
 obtain⟨h3,h4,o',c',e,h5,h6⟩:=h1
 obtain⟨rfl,_,rfl⟩:=Value.slice.inj e
 have hl:(l.take k).length=k:=by rw[List.length_take];omega
 refine⟨xs.take (k*4),⟨by rw[hl,List.length_take,h3];omega,by rw[hl];omega,o,c,by rw[hl],fun j x hx=>?_,by rw[hl];omega⟩,by rw[hl,List.length_take,h3];omega,fun j t hj=>?_⟩
 ·rw[List.getElem?_take] at hx
  split at hx
  ·exact h5 j x hx
  ·cases hx
 ·rw[List.getElem?_take] at hj
  split at hj
  ·rename_i hjk
   have h7:=h2.2 j t hj
   rw[List.getElem?_take,if_pos (by omega),List.getElem?_take,if_pos (by omega),List.getElem?_take,if_pos (by omega),List.getElem?_take,if_pos (by omega)]
   exact h7
  ·cases hj
theorem y7(w:World)(o:Option Addr)(m c:Nat)(l:List Tk)(hm:m=l.length)(h:eU w (.slice o m c) l)(hml:m≤400) :
  Calls Tryz.prog 24 #[.slice o m c] w fun e w'=>∃so sc,e=.returned (.slice so m sc)∧eU w' (.slice so m sc) l∧Bw w w':=by
 obtain⟨i0,hi0,hz0,hz1,hz2⟩:=info_parts Tryz.OL
 obtain⟨xs,hx1,hx2⟩:=h
 rw[←hm] at hx1
 have H:Hid (aB w (fun _=>True) 4 (.slice o m c) m xs∧mE w (fun _=>True) l xs∧m=l.length∧m≤400):=⟨hx1,hx2,hm,hml⟩
 clear hx1 hx2 hm hml
 go_enter Tryz.func24,Tryz.ntmps24
 go_wp2
 go_loopw [3,4] (fun v t wr=>∃(j:Nat) (so:Option Addr) (sc:Nat),j≤m∧t=.int .i64 j∧v=.slice so j sc∧Hid (wr.ownsRow w.heap.size 123 4 (.slice so j sc) j (xs.take (j*4))∧Bw w wr)) (fun _ t _=>m-(intOf t).toNat)
 case atStart=>exact⟨0,none,0,Nat.zero_le _,rfl,rfl,by rw[Nat.zero_mul,List.take_zero];exact World.ownsRow_nil _ _ _ _,Below.refl _ _⟩
 case round=>
  obtain⟨j,so,sc,hj,rfl,rfl,HR⟩:=hrel
  by_cases hjl:j<m
  ·obtain⟨t,ht⟩:∃t,l[j]?=some t:=⟨_,List.getElem?_eq_getElem (by have:=H.out.2.2.1;omega)⟩
   obtain⟨xo,xc,yo,yc,k0,k1,k2,k3,_,_⟩:=H.out.2.1.2 j t ht
   obtain⟨b,off,c',ev,_,_,gg⟩:=H.out.1.at (by rw[H.out.1.1];omega)
   obtain⟨rfl,rfl⟩:o=some ⟨b,off,none⟩∧c=c':=by simpa using ev
   have y0:=gg _ _ k0
   have y1:=gg _ _ k1
   have y2:=gg _ _ k2
   have y3:=gg _ _ k3
   rw[←Nat.add_assoc] at y1 y2 y3
   have hT:=xB k0 k1 k2 k3
   obtain⟨xn,hxn⟩:∃xn,xn=t.out.length:=⟨_,rfl⟩
   obtain⟨yn,hyn⟩:∃yn,yn=t.ch.length:=⟨_,rfl⟩
   obtain⟨xb,hxb⟩:∃xb,xb=t.ok:=⟨_,rfl⟩
   obtain⟨xd,hxd⟩:∃xd,xd=t.tr:=⟨_,rfl⟩
   rw[←hxn] at y0 hT
   rw[←hxb] at y1 hT
   rw[←hxd] at y2 hT
   rw[←hyn] at y3 hT
   have HT:=aA hT
   have HRR:Hid (wr.ownsRow w.heap.size 123 4 (.slice so j sc) j (xs.take (j*4))∧Bw w wr):=HR.out
   have HS:Hid (∀W,Bw w W→W.cell? ⟨b,off+j*4,none⟩=some (.slice xo xn xc)∧W.cell? ⟨b,off+j*4+1,none⟩=some (.bool xb)∧W.cell? ⟨b,off+j*4+2,none⟩=some (.bool xd)∧W.cell? ⟨b,off+j*4+3,none⟩=some (.slice yo yn yc)):=fun W hW=>⟨aD hW y0,aD hW y1,aD hW y2,aD hW y3⟩
   have hS0:=HS.out wr.drew HRR.out.2.drew
   have i0':(0:Int)≤(j:Int):=by omega
   have i1':(j:Int)<(m:Int):=by omega
   have HJ:=aA hjl
   have N4:Hid (wrap64 ((j:Int)+1)=(j:Int)+1):=by have:=H.out.2.2.2;unfold Hid wrap64;omega
   have HM:Hid (j+1≤maxLen∧(j+1)*56≤140737488355328):=by have:=H.out.2.2.2;unfold Hid maxLen;omega
   clear ht k0 k1 k2 k3 ev gg y0 y1 y2 y3 hT hxn hyn hxb hxd hjl hj HR
   go_upto_region 5 with fail
   refine fI 24 (fun W=>W.cell? ⟨b,off+j*4,none⟩=some (.slice xo xn xc)∧W.cell? ⟨b,off+j*4+1,none⟩=some (.bool xb)∧W.cell? ⟨b,off+j*4+2,none⟩=some (.bool xd)∧W.cell? ⟨b,off+j*4+3,none⟩=some (.slice yo yn yc)) (fun _=>True) (by kernel_rfl) hS0 trivial (fun hh=>?_)
   refine tj 0 11 (.slice so j sc) rfl (by rintro w ⟨s0,s1,s2,s3⟩;go_simp) hh ?_
   refine tj 1 12 (.slice (some ⟨b,off,none⟩) m c) rfl (by rintro w ⟨s0,s1,s2,s3⟩;go_simp) hh ?_
   refine tj 2 13 (.int .i64 (j:Nat)) rfl (by rintro w ⟨s0,s1,s2,s3⟩;go_simp) hh ?_
   refine tj 3 14 (.pointer (some ⟨b,off+j*4,none⟩)) rfl (by rintro w ⟨s0,s1,s2,s3⟩;go_simp) hh ?_
   refine tj 4 15 (.pointer (some ⟨b,off+j*4,none⟩)) rfl (by rintro w ⟨s0,s1,s2,s3⟩;go_simp) hh ?_
   refine tj 5 16 (.slice xo xn xc) rfl (by rintro w ⟨s0,s1,s2,s3⟩;go_simp) hh ?_
   refine tj 6 17 (.slice (some ⟨b,off,none⟩) m c) rfl (by rintro w ⟨s0,s1,s2,s3⟩;go_simp) hh ?_
   refine tj 7 18 (.int .i64 (j:Nat)) rfl (by rintro w ⟨s0,s1,s2,s3⟩;go_simp) hh ?_
   refine tj 8 19 (.pointer (some ⟨b,off+j*4,none⟩)) rfl (by rintro w ⟨s0,s1,s2,s3⟩;go_simp) hh ?_
   refine tj 9 20 (.pointer (some ⟨b,off+j*4+1,none⟩)) rfl (by rintro w ⟨s0,s1,s2,s3⟩;go_simp) hh ?_
   refine tj 10 21 (.bool xb) rfl (by rintro w ⟨s0,s1,s2,s3⟩;go_simp) hh ?_
   refine tj 11 22 (.slice (some ⟨b,off,none⟩) m c) rfl (by rintro w ⟨s0,s1,s2,s3⟩;go_simp) hh ?_
   refine tj 12 23 (.int .i64 (j:Nat)) rfl (by rintro w ⟨s0,s1,s2,s3⟩;go_simp) hh ?_
   refine tj 13 24 (.pointer (some ⟨b,off+j*4,none⟩)) rfl (by rintro w ⟨s0,s1,s2,s3⟩;go_simp) hh ?_
   refine tj 14 25 (.pointer (some ⟨b,off+j*4+2,none⟩)) rfl (by rintro w ⟨s0,s1,s2,s3⟩;go_simp) hh ?_
   refine tj 15 26 (.bool xd) rfl (by rintro w ⟨s0,s1,s2,s3⟩;go_simp) hh ?_
   refine tj 16 27 (.slice (some ⟨b,off,none⟩) m c) rfl (by rintro w ⟨s0,s1,s2,s3⟩;go_simp) hh ?_
   refine tj 17 28 (.int .i64 (j:Nat)) rfl (by rintro w ⟨s0,s1,s2,s3⟩;go_simp) hh ?_
   refine tj 18 29 (.pointer (some ⟨b,off+j*4,none⟩)) rfl (by rintro w ⟨s0,s1,s2,s3⟩;go_simp) hh ?_
   refine tj 19 30 (.pointer (some ⟨b,off+j*4+3,none⟩)) rfl (by rintro w ⟨s0,s1,s2,s3⟩;go_simp) hh ?_
   refine tj 20 31 (.slice yo yn yc) rfl (by rintro w ⟨s0,s1,s2,s3⟩;go_simp) hh ?_
   refine tj 21 32 (.agg #[.slice xo xn xc,.bool xb,.bool xd,.slice yo yn yc]) rfl (by rintro w ⟨s0,s1,s2,s3⟩;go_simp) hh ?_
   refine aS 22 (some 33) rfl fun K hK=>?_
   go_simp
   obtain⟨wA,hwA⟩:∃wA,wA=(wr.alloc (.cells #[.slice xo xn xc,.bool xb,.bool xd,.slice yo yn yc] 123)).drew:=⟨_,rfl⟩
   obtain⟨Q,hQ⟩:∃Q,Q=wr.heap.size:=⟨_,rfl⟩
   have hbA:Bw wr wA:=by rw[hwA];exact(aH).drew
   have HOA:Hid (wA.ownsRow w.heap.size 123 4 (.slice so j sc) j (xs.take (j*4))∧Bw w wA):=⟨mK HRR.out.1 hbA,HRR.out.2.trans (hbA.mono HRR.out.2.size)⟩
   have HNA:Hid (∀k y,[.slice xo xn xc,.bool xb,.bool xd,.slice yo yn yc][k]?=some y→wA.cell? ((⟨Q,0,none⟩:Addr).add k)=some y):=by unfold Hid;rw[hwA,hQ];exact World.news_of_block (heap_alloc_new wr _)
   rw[←hwA,←hQ]
   refine hK.out _ _ ⟨HS.out wA HOA.out.2,fun _=>trivial⟩ (fun hh=>?_)
   clear hK K hwA hbA hQ hS0
   try simp only[tp]
   refine aS 23 (some 34) rfl fun K hK=>?_
   refine step_append_lies _ rfl (.tmp 11) (.tmp 33) 59 rfl w.heap.size 123 i0 _ 4 56 Tryz.underlying59 hi0 hz0 hz1 hz2 rfl (by omega) (.slice so j sc) j _ (by simp [Act.eval]) HOA.out.1 ⟨Q,0,none⟩ 1 1 [.slice xo xn xc,.bool xb,.bool xd,.slice yo yn yc] (by simp [Act.eval]) rfl HNA.out (by simp [Value.oneCell']) (by omega) HM.out.1 HM.out.2 HOA.out.2.size _ rfl ?_
   intro g cap w7 hown7 hgrow hat hlt7
   have hbw7:Bw w w7:=HOA.out.2.grown hgrow HOA.out.2.size (fun k hk=>(HOA.out.1.lt k hk).1)
   have HNX:Hid (w7.ownsRow w.heap.size 123 4 (.slice (some ⟨g,0,none⟩) (j+1) cap) (j+1) (xs.take ((j+1)*4))∧Bw w w7):=⟨by rw[HT.out];exact hown7,hbw7⟩
   refine hK.out _ _ ⟨HS.out w7 hbw7,fun _=>trivial⟩ (fun hh=>?_)
   clear hK K
   try simp only[tp]
   refine aS 24 (some 3) rfl fun K hK=>?_
   go_simp
   refine hK.out _ _ (Till.last (HS.out w7 HNX.out.2)) (fun hh=>?_)
   clear hK K
   try simp only[tp]
   refine dU (by kernel_rfl) ?_ _
   clear hh hown7 hgrow hat hlt7 hbw7 HS HOA HNA
   go_wp2
   exact⟨⟨j+1,_,_,HJ.out,by rw[N4.out];rfl,rfl,HNX.out⟩,by rw[N4.out];have:=HJ.out;simp [intOf];omega⟩
  ·obtain rfl:m=j:=by omega
   have HE:Hid (eU wr (.slice so m sc) l∧Bw w wr):=by
    obtain⟨h1,h2⟩:=HR.out
    rw[List.take_of_length_le (by rw[H.out.1.1];exact Nat.le_refl _)] at h1
    exact⟨⟨xs,by rw[←H.out.2.2.1];exact(aB.iH h1).keep (fun _ _ _=>⟨trivial,rfl⟩),H.out.2.1.keep (fun b _ hl=>⟨trivial,h2.block b hl⟩)⟩,h2⟩
   clear hj hjl HR
   go_wp2
   go_ret
   exact⟨so,sc,rfl,HE.out⟩

theorem KS(w:World)(t:Tk)(xo xp:Option Addr)(xc xd:Nat)(yo yp:Option Addr)(yc yd:Nat)(hx:aB w (fun _=>True) 2 (.slice xo t.out.length xc) t.out.length (bG t.out))(hy:aB w (fun _=>True) 1 (.slice yo t.ch.length yc) t.ch.length (t.ch.map Value.bool))(hx2:aB w (fun _=>True) 2 (.slice xp t.out.length xd) t.out.length (bG t.out))(hy2:aB w (fun _=>True) 1 (.slice yp t.ch.length yd) t.ch.length (t.ch.map Value.bool)) :
  Calls Tryz.prog 59 #[.agg #[.slice xo t.out.length xc,.bool t.ok,.bool t.tr,.slice yo t.ch.length yc],.agg #[.slice xp t.out.length xd,.bool t.ok,.bool t.tr,.slice yp t.ch.length yd]] w fun e w'=>e=.returned (.bool true)∧Bw w w':=by
 obtain⟨n,hn⟩:∃n,n=t.out.length:=⟨_,rfl⟩
 obtain⟨m,hm⟩:∃m,m=t.ch.length:=⟨_,rfl⟩
 obtain⟨a,ha⟩:∃a,a=t.ok:=⟨_,rfl⟩
 obtain⟨d,hd⟩:∃d,d=t.tr:=⟨_,rfl⟩
 rw[←hn] at hx hx2 ⊢
 rw[←hm] at hy hy2 ⊢
 rw[←ha,←hd]
 obtain⟨w1,hw1⟩:∃w1,w1=(w.alloc (.cells #[.slice xo n xc,.bool a,.bool d,.slice yo m yc] 123)).alloc (.cells #[.slice xp n xd,.bool a,.bool d,.slice yp m yd] 123):=⟨_,rfl⟩
 obtain⟨P,hP⟩:∃P,P=w.heap.size:=⟨_,rfl⟩
 have hbA:Bw w (w.alloc (.cells #[.slice xo n xc,.bool a,.bool d,.slice yo m yc] 123)):=aH
 have hb1:Bw w w1:=by rw[hw1];exact hbA.alloc hbA.size _
 have hrP:w1.heap[P]?=some (.cells #[.slice xo n xc,.bool a,.bool d,.slice yo m yc] 123 (0,0)):=by rw[hw1,hP];exact tC _ (heap_alloc_new _ _)
 have hrQ:w1.heap[P+1]?=some (.cells #[.slice xp n xd,.bool a,.bool d,.slice yp m yd] 123 (0,0)):=by rw[hw1,hP];exact iG w _ _
 have p0:w1.cell? ⟨P,0,none⟩=some (.slice xo n xc):=cr hrP rfl
 have p1:w1.cell? ⟨P,0+1,none⟩=some (.bool a):=cr hrP rfl
 have p2:w1.cell? ⟨P,0+2,none⟩=some (.bool d):=cr hrP rfl
 have p3:w1.cell? ⟨P,0+3,none⟩=some (.slice yo m yc):=cr hrP rfl
 have q0:w1.cell? ⟨P+1,0,none⟩=some (.slice xp n xd):=cr hrQ rfl
 have q1:w1.cell? ⟨P+1,0+1,none⟩=some (.bool a):=cr hrQ rfl
 have q2:w1.cell? ⟨P+1,0+2,none⟩=some (.bool d):=cr hrQ rfl
 have q3:w1.cell? ⟨P+1,0+3,none⟩=some (.slice yp m yd):=cr hrQ rfl
 have H:Hid (aB w1 (fun _=>True) 2 (.slice xo n xc) n (bG t.out)∧aB w1 (fun _=>True) 1 (.slice yo m yc) m (t.ch.map Value.bool)∧aB w1 (fun _=>True) 2 (.slice xp n xd) n (bG t.out)∧aB w1 (fun _=>True) 1 (.slice yp m yd) m (t.ch.map Value.bool)):=⟨hx.keep (dX hb1),hy.keep (dX hb1),hx2.keep (dX hb1),hy2.keep (dX hb1)⟩
 have HN:Hid (n=t.out.length∧m=t.ch.length∧Bw w w1∧n≤maxLen∧m≤maxLen):=⟨hn,hm,hb1,hx.2.1,hy.2.1⟩
 have HW1:Hid ((w.alloc (.cells #[.slice xo n xc,.bool a,.bool d,.slice yo m yc] 123)).alloc (.cells #[.slice xp n xd,.bool a,.bool d,.slice yp m yd] 123)=w1∧w.heap.size=P):=⟨hw1.symm,hP.symm⟩
 clear hx hy hx2 hy2 hn hm ha hd hw1 hP hbA hb1 hrP hrQ
 go_enter Tryz.func59,Tryz.ntmps59
 go_upto_region 1 with fail
 rw[HW1.out.1]
 simp only[HW1.out.2]
 have n1:((n:Int) != (n:Int))=false:=by simp
 have n2:((m:Int) != (m:Int))=false:=by simp
 have n3:(a != a)=false:=by simp
 have n4:(d != d)=false:=by simp
 have HC:Hid (w1.cell? ⟨P,0,none⟩=some (.slice xo n xc)∧w1.cell? ⟨P,0+3,none⟩=some (.slice yo m yc)∧w1.cell? ⟨P+1,0,none⟩=some (.slice xp n xd)∧w1.cell? ⟨P+1,0+3,none⟩=some (.slice yp m yd)):=⟨p0,p3,q0,q3⟩
 go_upto_region 3 with fail
 clear p0 p1 p2 p3 q0 q1 q2 q3 n1 n2 n3 n4
 go_wp2
 go_loopw [5] (fun t wr=>∃i:Nat,i≤n∧t=.int .i64 i∧Hid (Bw w1 wr)) (fun t _=>n-(intOf t).toNat)
 case atStart=>exact⟨0,Nat.zero_le _,rfl,Below.refl _ _⟩
 case round=>
  obtain⟨i,hi,rfl,HR⟩:=hrel
  have p0:=aD HR.out HC.out.1
  have q0:=aD HR.out HC.out.2.2.1
  by_cases hil:i<n
  ·obtain⟨v,hv⟩:∃v,t.out[i]?=some v:=⟨_,List.getElem?_eq_getElem (by have:=HN.out.1;omega)⟩
   obtain⟨k0,k1⟩:=Db hv
   obtain⟨b,off,c',ev,_,_,gg⟩:=(H.out.1.keep (dX HR.out)).at (by rw[H.out.1.1];omega)
   obtain⟨rfl,rfl⟩:xo=some ⟨b,off,none⟩∧xc=c':=by simpa using ev
   obtain⟨b2,off2,c2',ev2,_,_,gg2⟩:=(H.out.2.2.1.keep (dX HR.out)).at (by rw[H.out.2.2.1.1];omega)
   obtain⟨rfl,rfl⟩:xp=some ⟨b2,off2,none⟩∧xd=c2':=by simpa using ev2
   have y0:=gg _ _ k0
   have y1:=gg _ _ k1
   have z0:=gg2 _ _ k0
   have z1:=gg2 _ _ k1
   rw[←Nat.add_assoc] at y1 z1
   obtain⟨k,x⟩:=v
   simp only at y0 y1 z0 z1
   have i0':(0:Int)≤(i:Int):=by omega
   have i1':(i:Int)<(n:Int):=by omega
   have N4:Hid (wrap64 ((i:Int)+1)=(i:Int)+1):=by have:=HN.out.2.2.2.1;unfold maxLen at this;unfold Hid wrap64;omega
   have HJ:=aA hil
   have HRR:Hid (Bw w1 wr):=HR.out
   clear hv k0 k1 ev gg ev2 gg2 hil hi HR
   go_upto_region 6 with fail
   go_quiet (fail)
   go_wp2
   exact⟨⟨i+1,HJ.out,by rw[N4.out];rfl,iR HRR.out _⟩,by rw[N4.out];have:=HJ.out;simp [intOf];omega⟩
  ·obtain rfl:n=i:=by omega
   have HRR:Hid (Bw w1 wr):=HR.out
   clear hi hil HR
   go_upto_region 8 with fail
   clear p0 q0
   go_wp2
   go_loopw [6] (fun t wr=>∃i:Nat,i≤m∧t=.int .i64 i∧Hid (Bw w1 wr)) (fun t _=>m-(intOf t).toNat)
   case atStart=>exact⟨0,Nat.zero_le _,rfl,HRR⟩
   case round=>
    obtain⟨i,hi,rfl,HR⟩:=hrel
    have p0:wr.cell? ⟨P,3,none⟩=some (.slice yo m yc):=aD HR.out HC.out.2.1
    have q0:wr.cell? ⟨P+1,3,none⟩=some (.slice yp m yd):=aD HR.out HC.out.2.2.2
    by_cases hil:i<m
    ·obtain⟨v,hv⟩:∃v,(t.ch.map Value.bool)[i]?=some v:=⟨_,List.getElem?_eq_getElem (by rw[List.length_map];have:=HN.out.2.1;omega)⟩
     obtain⟨c,hcv⟩:∃c,v=.bool c:=by
      rw[List.getElem?_map] at hv
      cases hq:t.ch[i]? with
      | none=>rw[hq] at hv;cases hv
      | some c=>rw[hq] at hv;cases hv;exact⟨c,rfl⟩
     subst hcv
     obtain⟨b,off,c',ev,_,_,gg⟩:=(H.out.2.1.keep (dX HR.out)).at (by rw[H.out.2.1.1];omega)
     obtain⟨rfl,rfl⟩:yo=some ⟨b,off,none⟩∧yc=c':=by simpa using ev
     obtain⟨b2,off2,c2',ev2,_,_,gg2⟩:=(H.out.2.2.2.keep (dX HR.out)).at (by rw[H.out.2.2.2.1];omega)
     obtain⟨rfl,rfl⟩:yp=some ⟨b2,off2,none⟩∧yd=c2':=by simpa using ev2
     have y0:=gg _ _ hv
     have z0:=gg2 _ _ hv
     have i0':(0:Int)≤(i:Int):=by omega
     have i1':(i:Int)<(m:Int):=by omega
     have N4:Hid (wrap64 ((i:Int)+1)=(i:Int)+1):=by have:=HN.out.2.2.2.2;unfold maxLen at this;unfold Hid wrap64;omega
     have HJ:=aA hil
     have HRR:Hid (Bw w1 wr):=HR.out
     clear hv ev gg ev2 gg2 hil hi HR
     go_upto_region 11 with fail
     go_quiet (fail)
     go_wp2
     exact⟨⟨i+1,HJ.out,by rw[N4.out];rfl,iR HRR.out _⟩,by rw[N4.out];have:=HJ.out;simp [intOf];omega⟩
    ·obtain rfl:m=i:=by omega
     have HRR:Hid (Bw w1 wr):=HR.out
     clear hi hil HR
     go_upto_region 13 with fail
     clear p0 q0
     go_wp2
     go_ret
     exact⟨rfl,HN.out.2.2.1.trans (HRR.out.mono HN.out.2.2.1.size)⟩

theorem DV(w:World)(o p:Option Addr)(n c d:Nat)(l:List Tk)(hn:n=l.length)(h1:eU w (.slice o n c) l)(h2:eU w (.slice p n d) l) :
  Calls Tryz.prog 23 #[.slice o n c,.slice p n d] w fun e w'=>e=.returned (.bool true)∧Bw w w':=by
 obtain⟨xs,hx1,hx2⟩:=h1
 obtain⟨ys,hy1,hy2⟩:=h2
 rw[←hn] at hx1 hy1
 have H:Hid (aB w (fun _=>True) 4 (.slice o n c) n xs∧mE w (fun _=>True) l xs∧aB w (fun _=>True) 4 (.slice p n d) n ys∧mE w (fun _=>True) l ys∧n=l.length∧n≤maxLen):=⟨hx1,hx2,hy1,hy2,hn,hx1.2.1⟩
 clear hx1 hx2 hy1 hy2 hn
 have n1:((n:Int) != (n:Int))=false:=by simp
 go_enter Tryz.func23,Tryz.ntmps23
 go_wp2
 clear n1
 go_loopw [5] (fun t wr=>∃j:Nat,j≤n∧t=.int .i64 j∧Hid (Bw w wr)) (fun t _=>n-(intOf t).toNat)
 case atStart=>exact⟨0,Nat.zero_le _,rfl,Below.refl _ _⟩
 case round=>
  obtain⟨j,hj,rfl,HR⟩:=hrel
  by_cases hjl:j<n
  ·obtain⟨t,ht⟩:∃t,l[j]?=some t:=⟨_,List.getElem?_eq_getElem (by have:=H.out.2.2.2.2.1;omega)⟩
   obtain⟨xo,xc,yo,yc,k0,k1,k2,k3,k4,k5⟩:=H.out.2.1.2 j t ht
   obtain⟨xp,xf,yp,yf,z0,z1,z2,z3,z4,z5⟩:=H.out.2.2.2.1.2 j t ht
   have HCA:Hid (∀W,Bw w W→Calls Tryz.prog 59 #[.agg #[.slice xo t.out.length xc,.bool t.ok,.bool t.tr,.slice yo t.ch.length yc],.agg #[.slice xp t.out.length xf,.bool t.ok,.bool t.tr,.slice yp t.ch.length yf]] W fun e w'=>e=.returned (.bool true)∧Bw W w'):=fun W hW=>KS W t xo xp xc xf yo yp yc yf (k4.keep (dX hW)) (k5.keep (dX hW)) (z4.keep (dX hW)) (z5.keep (dX hW))
   obtain⟨b,off,c',ev,_,_,gg⟩:=H.out.1.at (by rw[H.out.1.1];omega)
   obtain⟨rfl,rfl⟩:o=some ⟨b,off,none⟩∧c=c':=by simpa using ev
   obtain⟨b2,off2,c2',ev2,_,_,gg2⟩:=H.out.2.2.1.at (by rw[H.out.2.2.1.1];omega)
   obtain⟨rfl,rfl⟩:p=some ⟨b2,off2,none⟩∧d=c2':=by simpa using ev2
   have y0:=gg _ _ k0
   have y1:=gg _ _ k1
   have y2:=gg _ _ k2
   have y3:=gg _ _ k3
   have u0:=gg2 _ _ z0
   have u1:=gg2 _ _ z1
   have u2:=gg2 _ _ z2
   have u3:=gg2 _ _ z3
   rw[←Nat.add_assoc] at y1 y2 y3 u1 u2 u3
   obtain⟨xn,hxn⟩:∃xn,xn=t.out.length:=⟨_,rfl⟩
   obtain⟨yn,hyn⟩:∃yn,yn=t.ch.length:=⟨_,rfl⟩
   obtain⟨xb,hxb⟩:∃xb,xb=t.ok:=⟨_,rfl⟩
   obtain⟨xd,hxd⟩:∃xd,xd=t.tr:=⟨_,rfl⟩
   rw[←hxn,←hxb,←hxd,←hyn] at HCA
   rw[←hxn] at y0 u0
   rw[←hxb] at y1 u1
   rw[←hxd] at y2 u2
   rw[←hyn] at y3 u3
   have HS:Hid (∀W,Bw w W→W.cell? ⟨b,off+j*4,none⟩=some (.slice xo xn xc)∧W.cell? ⟨b,off+j*4+1,none⟩=some (.bool xb)∧W.cell? ⟨b,off+j*4+2,none⟩=some (.bool xd)∧W.cell? ⟨b,off+j*4+3,none⟩=some (.slice yo yn yc)∧W.cell? ⟨b2,off2+j*4,none⟩=some (.slice xp xn xf)∧W.cell? ⟨b2,off2+j*4+1,none⟩=some (.bool xb)∧W.cell? ⟨b2,off2+j*4+2,none⟩=some (.bool xd)∧W.cell? ⟨b2,off2+j*4+3,none⟩=some (.slice yp yn yf)):=fun W hW=>⟨aD hW y0,aD hW y1,aD hW y2,aD hW y3,aD hW u0,aD hW u1,aD hW u2,aD hW u3⟩
   have hS0:=HS.out wr.drew HR.out.drew
   have i0':(0:Int)≤(j:Int):=by omega
   have i1':(j:Int)<(n:Int):=by omega
   have N4:Hid (wrap64 ((j:Int)+1)=(j:Int)+1):=by have:=H.out.2.2.2.2.2;unfold maxLen at this;unfold Hid wrap64;omega
   have HJ:=aA hjl
   have HRR:Hid (Bw w wr):=HR.out
   clear ht k0 k1 k2 k3 k4 k5 z0 z1 z2 z3 z4 z5 ev gg ev2 gg2 y0 y1 y2 y3 u0 u1 u2 u3 hxn hyn hxb hxd hj hjl HR
   go_upto_region 6 with fail
   refine fI 9 (fun W=>W.cell? ⟨b,off+j*4,none⟩=some (.slice xo xn xc)∧W.cell? ⟨b,off+j*4+1,none⟩=some (.bool xb)∧W.cell? ⟨b,off+j*4+2,none⟩=some (.bool xd)∧W.cell? ⟨b,off+j*4+3,none⟩=some (.slice yo yn yc)∧W.cell? ⟨b2,off2+j*4,none⟩=some (.slice xp xn xf)∧W.cell? ⟨b2,off2+j*4+1,none⟩=some (.bool xb)∧W.cell? ⟨b2,off2+j*4+2,none⟩=some (.bool xd)∧W.cell? ⟨b2,off2+j*4+3,none⟩=some (.slice yp yn yf)) (fun _=>True) (by kernel_rfl) hS0 trivial (fun hh=>?_)
   refine tj 0 18 (.slice (some ⟨b,off,none⟩) n c) rfl (by rintro w ⟨s0,s1,s2,s3,s4,s5,s6,s7⟩;go_simp) hh ?_
   refine tj 1 19 (.int .i64 (j:Nat)) rfl (by rintro w ⟨s0,s1,s2,s3,s4,s5,s6,s7⟩;go_simp) hh ?_
   refine tj 2 20 (.pointer (some ⟨b,off+j*4,none⟩)) rfl (by rintro w ⟨s0,s1,s2,s3,s4,s5,s6,s7⟩;go_simp) hh ?_
   refine tj 3 21 (.agg #[.slice xo xn xc,.bool xb,.bool xd,.slice yo yn yc]) rfl (by rintro w ⟨s0,s1,s2,s3,s4,s5,s6,s7⟩;go_simp) hh ?_
   refine tj 4 22 (.slice (some ⟨b2,off2,none⟩) n d) rfl (by rintro w ⟨s0,s1,s2,s3,s4,s5,s6,s7⟩;go_simp) hh ?_
   refine tj 5 23 (.int .i64 (j:Nat)) rfl (by rintro w ⟨s0,s1,s2,s3,s4,s5,s6,s7⟩;go_simp) hh ?_
   refine tj 6 24 (.pointer (some ⟨b2,off2+j*4,none⟩)) rfl (by rintro w ⟨s0,s1,s2,s3,s4,s5,s6,s7⟩;go_simp) hh ?_
   refine tj 7 25 (.agg #[.slice xp xn xf,.bool xb,.bool xd,.slice yp yn yf]) rfl (by rintro w ⟨s0,s1,s2,s3,s4,s5,s6,s7⟩;go_simp) hh ?_
   refine aS 8 (some 26) rfl fun K hK=>?_
   go_simp
   refine(HCA.out wr.drew HRR.out.drew).mono ?_
   rintro e x1 ⟨rfl,hb⟩
   have HX:Hid (Bw w x1):=HRR.out.drew.trans (hb.mono HRR.out.size)
   clear hb
   go_wp2_with fail
   refine hK.out _ _ ⟨HS.out x1 HX.out,fun _=>trivial⟩ (fun hh=>?_)
   clear hK K
   try simp only[tp]
   refine aS 9 (some 6) rfl fun K hK=>?_
   go_simp
   refine hK.out _ _ (Till.last (HS.out x1 HX.out)) (fun hh=>?_)
   clear hK K
   try simp only[tp]
   refine dU (by kernel_rfl) ?_ _
   clear hh HS hS0
   go_wp2
   exact⟨⟨j+1,HJ.out,by rw[N4.out];rfl,HX.out⟩,by rw[N4.out];have:=HJ.out;simp [intOf];omega⟩
  ·obtain rfl:n=j:=by omega
   have HRR:Hid (Bw w wr):=HR.out
   clear hj hjl HR
   go_wp2
   go_ret
   exact⟨rfl,HRR.out⟩
end Go.Proofs.YtmgfakcccfahaaaGreatDoor
