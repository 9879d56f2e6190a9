/- A part. -/
import Derived.Test.YtnapepbdohidgaaGreatDoorQT09
set_option maxHeartbeats 4000000
set_option maxRecDepth 100000
open Go renaming World->Wz,Value->Wq,Addr->Ww
namespace Go.Proofs.Qw
open Tryz
section
open Go.RowKit
theorem ai.orP {R:Nat->Prop}{n:Nat}{w:Wz}{g:Nat}{F:List UInt8->List Ver}(h:ai R (n+1) w (some ⟨g,0,none⟩) F){b:Bool}{e:Option Ww}{d kc:Nat}
  (c0:w.cell? ⟨g,0,none⟩=some (.bool b)) (c2:w.cell? ⟨g,2,none⟩=some (.slice e d kc)):ai R (n+1) w (orP b d g) F:=by
 unfold Go.Proofs.Qw.orP;split
 .rename_i hc;rcases h with h|⟨g',hv,kv,ks,hp,hA,d0,d1,d2,hh,hks,hs,hch,hno⟩
  .cases h.1
  .cases hp;rw [c0] at d0;cases d0;rw [c2] at d2;cases d2;obtain ⟨a,cap,he,-,-⟩:=hks;cases he;have hk0:ks=[]:=List.length_eq_zero_iff.1 hc.2;subst hk0;refine Or.inl ⟨rfl,fun k=>?_⟩;cases k with
   |nil=>have:=hc.1;simpa using this
   |cons c k=>exact hno.1 c (fun q hq=>absurd hq List.not_mem_nil) k
 .exact h
def qS (n:Nat):Prop:=∀ (A:Nat->Prop)(p:Option Ww)(f:List UInt8->List Ver)(key:ByteArray)(w:Wz),ai A n w p f->key.size<n->key.size<=1000->f key.data.toList≠[] ->
 Calls Yq.prog 93 #[.pointer p,.string key] w fun e w'=>∃q,e=.returned (.pointer q)/\Below w.heap.size w w'/\ai (Grow A w) n w' q (upd f key.data.toList [])
theorem oX (n:Nat)(A:Nat->Prop)(p:Option Ww)(f:List UInt8->List Ver)(key:ByteArray)(w:Wz)(c:ai A (n+1) w p f)(hk:key.size=0):
  Calls Yq.prog 93 #[.pointer p,.string key] w fun e w'=>∃q,e=.returned (.pointer q)/\Below w.heap.size w w'/\ai (Grow A w) (n+1) w' q (upd f key.data.toList []):=by
 have hfr:=ku A n p f w c;have hkl:key.data.toList=[]:=List.eq_nil_of_length_eq_zero (by simpa using hk);have hke:key.toList.isEmpty=true:=by rw [ByteArray.toList_eq,hkl];rfl
 have a:Hid (key.data.toList=[]):=hkl;clear hkl hk c;go_enter (Yq.nq func93),ntmps93;go_wp2_with fail
 refine hfr.mono ?_;rintro e w1 ⟨g,hv0,kv,ks,rfl,M⟩;obtain ⟨⟨c0,c1,c2⟩,b⟩:=bK M.node;have f0:=b 0;have f1:=b 1;obtain ⟨d,kc,rfl,-⟩:=az M.kids;have hd:=pH M false (.slice none 0 0) [] (nd A w) rfl _ rfl;have hle:=lw ks M.sorted;have HD:=show Hid (Below w.heap.size w ((w1.setCell ⟨g,0,none⟩ (.bool false)).setCell ⟨g,1,none⟩ (.slice none 0 0))/\ai (Grow A w) (n+1) ((w1.setCell ⟨g,0,none⟩ (.bool false)).setCell ⟨g,1,none⟩ (.slice none 0 0)) (some ⟨g,0,none⟩) (upd f [] [])) from hd;have e0:((w1.setCell ⟨g,0,none⟩ (.bool false)).setCell ⟨g,1,none⟩ (.slice none 0 0)).cell? ⟨g,0,none⟩=some (.bool false):=by
  have s2:=((M.node.stored 0 (.bool false)).1.stored 1 (.slice none 0 0)).1;simp only [List.set_cons_zero,List.set_cons_succ] at s2;exact (bK s2).1.1
 have e2:((w1.setCell ⟨g,0,none⟩ (.bool false)).setCell ⟨g,1,none⟩ (.slice none 0 0)).cell? ⟨g,2,none⟩=some (.slice d ks.length kc):=by
  have s2:=((M.node.stored 0 (.bool false)).1.stored 1 (.slice none 0 0)).1;simp only [List.set_cons_zero,List.set_cons_succ] at s2;exact (bK s2).1.2.2
 have HO:Hid (Calls Yq.prog 115 #[.pointer (some ⟨g,0,none⟩)] ((w1.setCell ⟨g,0,none⟩ (.bool false)).setCell ⟨g,1,none⟩ (.slice none 0 0)) fun e w'=>e=.returned (.pointer (orP false ks.length g))/\w'=((w1.setCell ⟨g,0,none⟩ (.bool false)).setCell ⟨g,1,none⟩ (.slice none 0 0))):=
  oc g false d ks.length kc _ (by omega) e0 e2
 have HE:Hid (ai (Grow A w) (n+1) ((w1.setCell ⟨g,0,none⟩ (.bool false)).setCell ⟨g,1,none⟩ (.slice none 0 0)) (orP false ks.length g) (upd f [] [])):=hd.2.orP e0 e2;clear hfr e0 e2 hd M;go_wp2_with (go_at_call 115;refine Calls.mono HO.out ?_;rintro e w' ⟨rfl,rfl⟩)
 go_ret;rw [a.out];exact ⟨_,rfl,HD.out.1,HE.out⟩
theorem Rdy.gone {A:Nat->Prop}{n:Nat}{w w3:Wz}{f:List UInt8->List Ver}{g:Nat}{b:Wq}{k cap:Nat}{ks:List (UInt8×Option Ww)}{r:Nat}{c:UInt8}{q:Option Ww}(R:Rdy A n w w3 f g b k cap ks r c q 1)
  (F:List UInt8->List Ver) (l:F []=f []) (i:∀c',c'≠c->(fun x=>F (c'::x))=fun x=>f (c'::x)) (t:∀x,F (c::x)=[]) (m:Nat) (hm:ks.length=m+1) (w5:Wz)
  (d:Below w.heap.size w w5)
  (n5:w5.ownsRow w.heap.size 159 3 (.slice (some ⟨g,0,none⟩) 1 1) 1 [.bool (!(f []).isEmpty),b,.slice (some ⟨k,0,none⟩) (m+1) cap])
  (k5:w5.ownsRow w.heap.size 190 2 (.slice (some ⟨k,0,none⟩) m cap) m (au (ks.take r++ks.drop (r+1)))) (wf:Wz) (s:wf=w5.setCell ⟨g,2,none⟩ (.slice (some ⟨k,0,none⟩) m cap)) (hr:r<ks.length) (a:ks[r].1=c):
  Below w.heap.size w wf/\ai (Grow A w) (n+1) wf (some ⟨g,0,none⟩) F/\wf.cell? ⟨g,0,none⟩=some (.bool (!(f []).isEmpty))/\wf.cell? ⟨g,2,none⟩=some (.slice (some ⟨k,0,none⟩) m cap):=by
 subst s;have hgg:=n5.lt g rfl;have hkk:=k5.lt k rfl;have n6:=n5.stored 2 (.slice (some ⟨k,0,none⟩) m cap);have k6:=k5.kept n6.2 (Or.inr (by simp [Value.ownBlock];exact R.apart));have hbl:=d.setCell (p:=⟨g,2,none⟩) hgg.1 (.slice (some ⟨k,0,none⟩) m cap);obtain ⟨⟨c0,c1,c2⟩,-⟩:=bK n6.1;have hl:m=(ks.take r++ks.drop (r+1)).length:=by rw [lP,tL,lD];omega
 have hsub:(ks.take r++ks.drop (r+1)).Sublist ks:=by
  conv=>rhs;rw [<-List.take_append_drop r ks]
  refine List.Sublist.append (List.Sublist.refl _) ?_;rw [<-List.getElem_cons_drop hr];exact List.sublist_cons_self _ _
 have u:∀x,(c,x) ∉ ks.take r++ks.drop (r+1):=by
  intro x hx;rcases List.mem_append.1 hx with h|h
  .obtain ⟨j,o,e⟩:=gM h;rw [tL] at o;rw [List.getElem_take] at e;have:=jN R.sorted j r (by omega) hr;rw [e,a] at this;simp at this
  .obtain ⟨j,o,e⟩:=gM h;rw [lD] at o;rw [List.getElem_drop] at e;have:=jN R.sorted r (r+1+j) (by omega) (by omega);rw [e,a] at this;simp at this
 refine ⟨hbl,Or.inr ⟨g,b,_,ks.take r++ks.drop (r+1),rfl,Or.inr hgg.1,by rw [l];exact c0,c1,c2,by rw [l];exact bG.keep R.hist (je hbl),?_,R.sorted.sublist hsub,?_,?_,fun c' x hx=>R.noNil c' x (hsub.subset hx)⟩,c0,c2⟩
 .exact dh hl k6 (fun j e=>by simp [Value.ownBlock] at e;subst e;exact Or.inr hkk.1)
 .intro c' x hx;have hne:c'≠c:=fun e=>u x (by rw [<-e];exact hx)
  rw [i c' hne];exact ai.keep (je hbl) n x _ (R.child c' x (hsub.subset hx))
 .intro c' hc' y;by_cases hne:c'=c
  .rw [hne];exact t y
  .have e:F (c'::y)=f (c'::y):=congrFun (i c' hne) y;rw [e];refine R.noKid c' (fun x hx=>hc' x ?_) y;rw [<-List.take_append_drop r ks,List.mem_append] at hx;rw [List.mem_append];rcases hx with h|h
   .exact Or.inl h
   .rw [<-List.getElem_cons_drop hr,List.mem_cons] at h;rcases h with h|h
    .rw [<-h] at a;exact absurd a hne
    .exact Or.inr h
def Back (A:Nat->Prop)(n:Nat)(w:Wz)(f F:List UInt8->List Ver)(g:Nat)(b:Wq)(k cap:Nat)(ks:List (UInt8×Option Ww))(r:Nat)(c:UInt8)(q':Option Ww)(a:Wz):Prop:=
 (Below w.heap.size w a/\(q'≠none->ai (Grow A w) (n+1) a (some ⟨g,0,none⟩) F) /\
   a.ownsRow w.heap.size 159 3 (.slice (some ⟨g,0,none⟩) 1 1) 1 [.bool (!(f []).isEmpty),b,.slice (some ⟨k,0,none⟩) (aF ks r c q' 1).length cap] /\
   a.ownsRow w.heap.size 190 2 (.slice (some ⟨k,0,none⟩) (aF ks r c q' 1).length cap) (aF ks r c q' 1).length (au (aF ks r c q' 1)))/\(q'=none->∀x,F (c::x)=[])
theorem Rdy.back {A:Nat->Prop}{n:Nat}{w w3:Wz}{f:List UInt8->List Ver}{g:Nat}{a:Wq}{k cap:Nat}{ks:List (UInt8×Option Ww)}{r:Nat}{c:UInt8}{q:Option Ww}(R:Rdy A n w w3 f g a k cap ks r c q 1)
  (d:Wz) (hb:Below w3.heap.size w3 d) (q':Option Ww) (rest:List UInt8)
  (hq:ai (Grow (fun b=>A b/\b<w.heap.size) w3) n d q' (upd (fun x=>f (c::x)) rest [])) (wf:Wz) (e:wf=d.setCell ⟨k,r * 2+1,none⟩ (.pointer q')):
  Back A n w f (upd f (c::rest) []) g a k cap ks r c q' wf:=by
 refine ⟨R.done d hb q' (upd f (c::rest) []) (iS _ _ _ _) (fun c' hc'=>oh _ _ _ _ _ hc') (by rw [upd_same];exact hq) wf e,?_⟩;rintro rfl x;have:=hq.of_nil x;rw [<-upd_same] at this;exact this
theorem yZ {ks:List (UInt8×Option Ww)}{r:Nat}{c:UInt8}{q:Option Ww}(hr:r<=ks.length):(aF ks r c q 1).take r++(aF ks r c q 1).drop (r+1)=ks.take r++ks.drop (r+1):=by
 have hl:(ks.take r).length=r:=by rw [tL];omega
 unfold aF;rw [List.take_left' hl,show (ks.take r++(c,q)::ks.drop (r+1))=(ks.take r++[(c,q)])++ks.drop (r+1) by simp,List.drop_left' (by simp [hl])]
theorem qT (n:Nat)(ih:qS n)(A:Nat->Prop)(p:Option Ww)(f:List UInt8->List Ver)(key:ByteArray)(w:Wz)(Q:ai A (n+1) w p f)(hk:0<key.size)(hkn:key.size<n+1)(hk2:key.size<=1000)(hf:f key.data.toList≠[]):
  Calls Yq.prog 93 #[.pointer p,.string key] w fun e w'=>∃q,e=.returned (.pointer q)/\Below w.heap.size w w'/\ai (Grow A w) (n+1) w' q (upd f key.data.toList []):=by
 have hfr:=ku A n p f w Q;have hkc:=xe key hk;have hke:key.toList.isEmpty=false:=by rw [ByteArray.toList_eq,hkc];rfl
 have o:Hid (key.data.toList=key[0]::(key.extract 1 key.size).data.toList/\f key.data.toList≠[]):=⟨hkc,hf⟩;have IH:Hid (qS n):=ih;clear hkc Q hf ih;go_enter (Yq.nq func93),ntmps93;go_wp2_with fail
 refine hfr.mono ?_;rintro e w1 ⟨g,C,kv,ks,rfl,M⟩;obtain ⟨⟨c0,c1,c2⟩,T⟩:=bK M.node;have hK1:gC (fun _=>True) w1 kv ks:=dh rfl M.kids (fun _ _=>trivial);have hnf:=oa (fun _=>True) g kv ks key[0] w1 c2 hK1 M.sorted;clear hfr c0 c1 c2 T hK1;go_wp2_with fail
 refine hnf.mono ?_;rintro e w2 ⟨r,hp,rfl,hb2⟩;clear hnf;have l:nc ks key[0] r=true:=by
  cases l:nc ks key[0] r with
  |true=>rfl
  |false=>
   have:=M.noKid key[0] (hp.nomem M.sorted l) (key.extract 1 key.size).data.toList;rw [<-o.out.1] at this;exact absurd this o.out.2
 obtain ⟨k,cap,q,rfl,R⟩:=M.rdy hb2 hp l;obtain ⟨c2,d1,fr,hl⟩:=R.cells;have hr:=gF (c:=key[0]) (q:=q) (d:=1) hp.le;obtain ⟨hrl,E⟩:=Place.mem l;have HR:Hid (ks[r].1=key[0]/\nc ks key[0] r=true):=⟨E,l⟩;have hlen:(aF ks r key[0] q 1).length=ks.length:=by
  unfold aF;rw [lP,tL,List.length_cons,lD];omega
 rw [hlen] at c2 hr hl;have N:Hid ((aF ks r key[0] q 1).length=ks.length):=hlen;clear E l M hp hlen;obtain ⟨m,hm⟩:∃m,ks.length=m+1:=⟨ks.length-1,by omega⟩;have H:Hid (ks.length=m+1):=hm;rw [hm] at c2 hr hl;clear hm;have hkb:=bC w2 _ d1;have hgk:g≠k:=fun e=>R.apart e.symm
 have hkg:k≠g:=R.apart;have HQ:Hid (ai (fun b=>A b/\b<w.heap.size) n w2.drew q (fun x=>f (key[0]::x))):=
  ai.keep (A:=A) (A':=fun b=>A b/\b<w.heap.size) (w:=w) (w':=w2.drew) (fun b h1 h2=>⟨⟨h1,h2⟩,R.below.block b h2⟩) n q _ R.this
 have s:Hid ((key.extract 1 key.size).size<n/\(key.extract 1 key.size).size<=1000/\(fun x=>f (key[0]::x)) (key.extract 1 key.size).data.toList≠[]):=by
  have:(key.extract 1 key.size).size=key.size-1:=by simp
  refine ⟨by omega,by omega,?_⟩;have:=o.out.2;rw [o.out.1] at this;exact this
 go_upto_region 7 with fail
 go_cut [] (fun S=>∃q',Back A n w f (upd f (key[0]::(key.extract 1 key.size).data.toList) []) g C k cap ks r key[0] q' S)
 case first=>
  go_region_with (go_at_call 93;refine (IH.out (fun b=>A b/\b<w.heap.size) q (fun x=>f (key[0]::x)) _ _ ?_ ?_ ?_ ?_).mono ?_;exact HQ.out;exact s.out.1;exact s.out.2.1;exact s.out.2.2;rintro e U ⟨q',rfl,hb4,O⟩;have k2:=aj (W:=w2.drew) hb4 c2;have kd:=aj (W:=w2.drew) hb4 d1;have kf:=(hb4.frozen (p:=⟨k,r * 2+1,none⟩) hkb).trans fr)
  all_goals
   go_wp2_with fail
   go_meet
   case rel=>exact ⟨q',R.back U ((bR _ w2).drew.trans hb4) q' _ O _ rfl⟩
 case rest=>
  obtain ⟨q',B⟩:=hcut;obtain ⟨⟨y,L,h,a⟩,i⟩:=B;have t:(aF ks r key[0] q' 1).length=m+1:=by rw [<-ie (q:=q),N.out,H.out]
  obtain ⟨⟨e0,e1,e2⟩,P⟩:=bK h;have ef2:=P 2;have D:gC (fun _=>True) wc _ (aF ks r key[0] q' 1):=dh rfl a (fun _ _=>trivial);have u:aF ks r key[0] q' 1≠[]:=by intro e;rw [e] at t;simp at t
  obtain ⟨gk',capk',K,-,-,z,-⟩:=D.cells u;have ed1:=(z r (by omega)).2;rw [lF (by omega)] at ed1;cases K;rw [t] at e2 a h;have HB:Hid (Below w.heap.size w wc):=y;cases q' with
  |some a'=>
   have HO:Hid (Calls Yq.prog 115 #[.pointer (some ⟨g,0,none⟩)] wc fun e w'=>e=.returned (.pointer (orP (!(f []).isEmpty) (m+1) g))/\w'=wc):=oc g _ (some ⟨k,0,none⟩) (m+1) cap wc (by omega) e0 e2;have HE:Hid (ai (Grow A w) (n+1) wc (orP (!(f []).isEmpty) (m+1) g) (upd f (key[0]::(key.extract 1 key.size).data.toList) [])):=(L (by simp)).orP e0 e2;clear R c2 d1 fr HQ s hb2 y L h a i P D u z t;go_wp2_with (go_at_call 115;refine Calls.mono HO.out ?_;rintro e w' ⟨rfl,rfl⟩)
   go_ret;rw [o.out.1];exact ⟨_,rfl,HB.out,HE.out⟩
  |none=>
   have J:Hid (Calls Yq.prog 117 #[.slice (some ⟨k,0,none⟩) (m+1) cap,.int .i64 r,.int .i64 ((r:Int)+1)] wc fun e w'=>e=.returned (.slice (some ⟨k,0,none⟩) m cap) /\
     w'.ownsRow w.heap.size 190 2 (.slice (some ⟨k,0,none⟩) m cap) m (au (ks.take r++ks.drop (r+1)))/\wc.grownBy w' (some k)):=by
    have:=Dg w.heap.size k m cap r _ wc a (by omega) (by omega) (iR _);rw [tc,yZ (by omega)] at this;exact this
   have hgk:g≠k:=fun e=>R.apart e.symm
   have I:Hid (Rdy A n w w2 f g C k cap ks r key[0] q 1/\Below w.heap.size w wc/\wc.ownsRow w.heap.size 159 3 (.slice (some ⟨g,0,none⟩) 1 1) 1 [.bool (!(f []).isEmpty),C,.slice (some ⟨k,0,none⟩) (m+1) cap]/\wc.ownsRow w.heap.size 190 2 (.slice (some ⟨k,0,none⟩) (m+1) cap) (m+1) (au (aF ks r key[0] none 1))/\∀x,upd f (key[0]::(key.extract 1 key.size).data.toList) [] (key[0]::x)=[]):=⟨R,y,h,a,i rfl⟩;have F:g<wc.heap.size:=bC wc _ e2;clear R c2 d1 fr HQ s hb2 y L h a i P D u z t;go_wp2_with (go_at_call 117;refine Calls.mono J.out ?_;rintro e w5 ⟨rfl,k5,v⟩;have t2:w5.cell? ⟨g,2,none⟩=some (.slice (some ⟨k,0,none⟩) (m+1) cap):=v.cell e2 (by simp [hgk]);have tf:w5.frozen? ⟨g,2,none⟩=false:=(fR v ⟨g,2,none⟩ F (by simp [hgk])).trans ef2)
   obtain ⟨R,y,h,a,i⟩:=I.out;have n5:=h.kept v (Or.inr (by simp [Value.ownBlock];exact hgk));have b5:Below w.heap.size w w5:=y.grown v y.size (fun j e=>by cases e;exact (a.lt k rfl).1);have G:=R.gone (upd f (key[0]::(key.extract 1 key.size).data.toList) []) (iS _ _ _ _) (fun c' hc'=>oh _ _ _ _ _ hc') i m H.out w5 b5 n5 k5 _ rfl hrl HR.out.1;have HG:=show Hid (_/\_/\_/\_) from G;refine (oc g _ (some ⟨k,0,none⟩) m cap _ (by omega) G.2.2.1 G.2.2.2).mono ?_;clear R y h a i n5 b5 G;rintro e w' ⟨rfl,rfl⟩;go_wp2;go_ret;rw [o.out.1];exact ⟨_,rfl,HG.out.1,HG.out.2.1.orP HG.out.2.2.1 HG.out.2.2.2⟩
theorem tl:∀n,qS n:=by
 intro n;induction n with
 |zero=>intro A p f key w _ hk;omega
 |succ n ih=>
  intro A p f key w a hk hk2 hf;by_cases h0:key.size=0
  .exact oX n A p f key w a h0
  .exact qT n ih A p f key w a (by omega) hk hk2 hf
end
