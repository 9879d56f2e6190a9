/- A part. -/
import Derived.Test.YtnapepbdohidgaaGreatDoorQU10
set_option maxHeartbeats 4000000
set_option maxRecDepth 100000
open Go renaming World->Wz
namespace Go.Proofs.Qw
section
open Go.RowKit
theorem ai.orP {R:Nat->Prop}{n:Nat}{w:Wz}{g:Nat}{F:List UInt8->List Ver}(h:ai R (n+1) w (some ⟨g,0,none⟩) F){full:Bool}{ka:Option Addr}{kl kc:Nat}
  (c0:w.cell? ⟨g,0,none⟩=some (.bool full)) (c2:w.cell? ⟨g,2,none⟩=some (.slice ka kl kc)):ai R (n+1) w (orP full kl g) F:=by
 unfold Go.Proofs.Qw.orP;split
 .rename_i hc;rcases h with h|⟨g',hv,kv,ks,hp,hA,d0,d1,d2,hh,hks,hs,hch,hno⟩
  .cases h.1
  .cases hp;rw [c0] at d0;cases d0;rw [c2] at d2;cases d2;obtain ⟨a,cap,he,-,-⟩:=hks;cases he;have hk0:ks=[]:=List.length_eq_zero_iff.1 hc.2;subst hk0;refine Or.inl ⟨rfl,fun k=>?_⟩;cases k with
   |nil=>have:=hc.1;simpa using this
   |cons c k=>exact hno.1 c (fun q hq=>absurd hq List.not_mem_nil) k
 .exact h
def pW (n:Nat):Prop:=∀ (A:Nat->Prop)(p:Option Addr)(f:List UInt8->List Ver)(key:ByteArray)(w:Wz),ai A n w p f->key.size<n->key.size<=1000->f key.data.toList≠[] ->
 Calls Yq.prog 93 #[.pointer p,.string key] w fun e w'=>∃q,e=.returned (.pointer q)/\Below w.heap.size w w'/\ai (Grow A w) n w' q (upd f key.data.toList [])
theorem oi (n:Nat)(A:Nat->Prop)(p:Option Addr)(f:List UInt8->List Ver)(key:ByteArray)(w:Wz)(hN:ai A (n+1) w p f)(hk:key.size=0):
  Calls Yq.prog 93 #[.pointer p,.string key] w fun e w'=>∃q,e=.returned (.pointer q)/\Below w.heap.size w w'/\ai (Grow A w) (n+1) w' q (upd f key.data.toList []):=by
 have hfr:=jR A n p f w hN;have hkl:key.data.toList=[]:=List.eq_nil_of_length_eq_zero (by simpa using hk);have hke:key.toList.isEmpty=true:=by rw [ByteArray.toList_eq,hkl];rfl
 have HKL:Hid (key.data.toList=[]):=hkl;clear hkl hk hN;go_enter (Yq.nq Tryz.func93),Tryz.ntmps93;go_wp2_with fail
 refine hfr.mono ?_;rintro e w1 ⟨g,hv0,kv,ks,rfl,M⟩;obtain ⟨⟨c0,c1,c2⟩,fz⟩:=bH M.node;have f0:=fz 0;have f1:=fz 1;obtain ⟨ka,kc,rfl,-⟩:=aw M.kids;have hd:=oR M false (.slice none 0 0) [] (mF A w) rfl _ rfl;have hle:=kH ks M.sorted;have HD:=show Hid (Below w.heap.size w ((w1.setCell ⟨g,0,none⟩ (.bool false)).setCell ⟨g,1,none⟩ (.slice none 0 0))/\ai (Grow A w) (n+1) ((w1.setCell ⟨g,0,none⟩ (.bool false)).setCell ⟨g,1,none⟩ (.slice none 0 0)) (some ⟨g,0,none⟩) (upd f [] [])) from hd;have e0:((w1.setCell ⟨g,0,none⟩ (.bool false)).setCell ⟨g,1,none⟩ (.slice none 0 0)).cell? ⟨g,0,none⟩=some (.bool false):=by
  have s2:=((M.node.stored 0 (.bool false)).1.stored 1 (.slice none 0 0)).1;simp only [List.set_cons_zero,List.set_cons_succ] at s2;exact (bH s2).1.1
 have e2:((w1.setCell ⟨g,0,none⟩ (.bool false)).setCell ⟨g,1,none⟩ (.slice none 0 0)).cell? ⟨g,2,none⟩=some (.slice ka ks.length kc):=by
  have s2:=((M.node.stored 0 (.bool false)).1.stored 1 (.slice none 0 0)).1;simp only [List.set_cons_zero,List.set_cons_succ] at s2;exact (bH s2).1.2.2
 have HO:Hid (Calls Yq.prog 115 #[.pointer (some ⟨g,0,none⟩)] ((w1.setCell ⟨g,0,none⟩ (.bool false)).setCell ⟨g,1,none⟩ (.slice none 0 0)) fun e w'=>e=.returned (.pointer (orP false ks.length g))/\w'=((w1.setCell ⟨g,0,none⟩ (.bool false)).setCell ⟨g,1,none⟩ (.slice none 0 0))):=
  nC g false ka ks.length kc _ (by omega) e0 e2
 have HE:Hid (ai (Grow A w) (n+1) ((w1.setCell ⟨g,0,none⟩ (.bool false)).setCell ⟨g,1,none⟩ (.slice none 0 0)) (orP false ks.length g) (upd f [] [])):=hd.2.orP e0 e2;clear hfr e0 e2 hd M;go_wp2_with (go_at_call 115;refine Calls.mono HO.out ?_;rintro e w' ⟨rfl,rfl⟩)
 go_ret;rw [HKL.out];exact ⟨_,rfl,HD.out.1,HE.out⟩
theorem Rdy.gone {A:Nat->Prop}{n:Nat}{w w3:Wz}{f:List UInt8->List Ver}{g:Nat}{hv0:Value}{k cap:Nat}{ks:List (UInt8×Option Addr)}{r:Nat}{c:UInt8}{q:Option Addr}(R:Rdy A n w w3 f g hv0 k cap ks r c q 1)
  (F:List UInt8->List Ver) (hF0:F []=f []) (hFo:∀c',c'≠c->(fun x=>F (c'::x))=fun x=>f (c'::x)) (hFc:∀x,F (c::x)=[]) (m:Nat) (hm:ks.length=m+1) (w5:Wz)
  (hbl5:Below w.heap.size w w5)
  (n5:w5.ownsRow w.heap.size 159 3 (.slice (some ⟨g,0,none⟩) 1 1) 1 [.bool (!(f []).isEmpty),hv0,.slice (some ⟨k,0,none⟩) (m+1) cap])
  (k5:w5.ownsRow w.heap.size 190 2 (.slice (some ⟨k,0,none⟩) m cap) m (au (ks.take r++ks.drop (r+1)))) (wf:Wz) (hwf:wf=w5.setCell ⟨g,2,none⟩ (.slice (some ⟨k,0,none⟩) m cap)) (hr:r<ks.length) (hrc:ks[r].1=c):
  Below w.heap.size w wf/\ai (Grow A w) (n+1) wf (some ⟨g,0,none⟩) F/\wf.cell? ⟨g,0,none⟩=some (.bool (!(f []).isEmpty))/\wf.cell? ⟨g,2,none⟩=some (.slice (some ⟨k,0,none⟩) m cap):=by
 subst hwf;have hgg:=n5.lt g rfl;have hkk:=k5.lt k rfl;have n6:=n5.stored 2 (.slice (some ⟨k,0,none⟩) m cap);have k6:=k5.kept n6.2 (Or.inr (by simp [Value.ownBlock];exact R.apart));have hbl:=hbl5.setCell (p:=⟨g,2,none⟩) hgg.1 (.slice (some ⟨k,0,none⟩) m cap);obtain ⟨⟨c0,c1,c2⟩,-⟩:=bH n6.1;have hl:m=(ks.take r++ks.drop (r+1)).length:=by rw [lP,tL,lD];omega
 have hsub:(ks.take r++ks.drop (r+1)).Sublist ks:=by
  conv=>rhs;rw [<-List.take_append_drop r ks]
  refine List.Sublist.append (List.Sublist.refl _) ?_;rw [<-List.getElem_cons_drop hr];exact List.sublist_cons_self _ _
 have hnc:∀x,(c,x) ∉ ks.take r++ks.drop (r+1):=by
  intro x hx;rcases List.mem_append.1 hx with h|h
  .obtain ⟨j,hj,e⟩:=gM h;rw [tL] at hj;rw [List.getElem_take] at e;have:=jr R.sorted j r (by omega) hr;rw [e,hrc] at this;simp at this
  .obtain ⟨j,hj,e⟩:=gM h;rw [lD] at hj;rw [List.getElem_drop] at e;have:=jr R.sorted r (r+1+j) (by omega) (by omega);rw [e,hrc] at this;simp at this
 refine ⟨hbl,Or.inr ⟨g,hv0,_,ks.take r++ks.drop (r+1),rfl,Or.inr hgg.1,by rw [hF0];exact c0,c1,c2,by rw [hF0];exact bD.keep R.hist (iP hbl),?_,R.sorted.sublist hsub,?_,?_,fun c' x hx=>R.noNil c' x (hsub.subset hx)⟩,c0,c2⟩
 .exact cR hl k6 (fun j e=>by simp [Value.ownBlock] at e;subst e;exact Or.inr hkk.1)
 .intro c' x hx;have hne:c'≠c:=fun e=>hnc x (by rw [<-e];exact hx)
  rw [hFo c' hne];exact ai.keep (iP hbl) n x _ (R.child c' x (hsub.subset hx))
 .intro c' hc' y;by_cases hne:c'=c
  .rw [hne];exact hFc y
  .have e:F (c'::y)=f (c'::y):=congrFun (hFo c' hne) y;rw [e];refine R.noKid c' (fun x hx=>hc' x ?_) y;rw [<-List.take_append_drop r ks,List.mem_append] at hx;rw [List.mem_append];rcases hx with h|h
   .exact Or.inl h
   .rw [<-List.getElem_cons_drop hr,List.mem_cons] at h;rcases h with h|h
    .rw [<-h] at hrc;exact absurd hrc hne
    .exact Or.inr h
end
