/- A part. -/
import Derived.Test.YtnapepbdohidgaaGreatDoorQL09
set_option maxHeartbeats 4000000
set_option maxRecDepth 100000
open Go renaming World->Wj,Value->Wx,Addr->Wu
namespace Go.Proofs.Qw
open Tryz
section
open Go.RowKit
theorem ak.orP {R:Nat->Prop}{n:Nat}{w:Wj}{g:Nat}{F:List UInt8->List Ver}(h:ak R (n+1) w (some ⟨g,0,none⟩) F){b:Bool}{f:Option Wu}{e kc:Nat}
  (c0:w.cell? ⟨g,0,none⟩=some (.bool b)) (c2:w.cell? ⟨g,2,none⟩=some (.slice f e kc)):ak R (n+1) w (orP b e g) F:=by
 unfold Go.Proofs.Qw.orP;split
 .rename_i hc;rcases h with h|⟨g',hv,kv,ks,hp,hA,d0,d1,d2,hh,d,hs,hch,hno⟩
  .cases h.1
  .cases hp;rw [c0] at d0;cases d0;rw [c2] at d2;cases d2;obtain ⟨a,cap,he,-,-⟩:=d;cases he;have hk0:ks=[]:=List.length_eq_zero_iff.1 hc.2;subst hk0;refine Or.inl ⟨rfl,fun k=>?_⟩;cases k with
   |nil=>have:=hc.1;simpa using this
   |cons c k=>exact hno.1 c (fun q hq=>absurd hq List.not_mem_nil) k
 .exact h
def p6 (n:Nat):Prop:=∀ (A:Nat->Prop)(p:Option Wu)(f:List UInt8->List Ver)(key:ByteArray)(w:Wj),ak A n w p f->key.size<n->key.size<=1000->f key.data.toList≠[] ->
 Calls Yq.prog 93 #[.pointer p,.string key] w fun e w'=>∃q,e=.returned (.pointer q)/\Below w.heap.size w w'/\ak (Grow A w) n w' q (upd f key.data.toList [])
theorem oc (n:Nat)(A:Nat->Prop)(p:Option Wu)(f:List UInt8->List Ver)(key:ByteArray)(w:Wj)(c:ak A (n+1) w p f)(hk:key.size=0):
  Calls Yq.prog 93 #[.pointer p,.string key] w fun e w'=>∃q,e=.returned (.pointer q)/\Below w.heap.size w w'/\ak (Grow A w) (n+1) w' q (upd f key.data.toList []):=by
 have hfr:=jO A n p f w c;have a:key.data.toList=[]:=List.eq_nil_of_length_eq_zero (by simpa using hk);have hke:key.toList.isEmpty=true:=by rw [ByteArray.toList_eq,a];rfl
 have b:Hid (key.data.toList=[]):=a;clear a hk c;go_enter (Yq.nq func93),ntmps93;go_wp2_with fail
 refine hfr.mono ?_;rintro e w1 ⟨g,hv0,kv,ks,rfl,M⟩;obtain ⟨⟨c0,c1,c2⟩,d⟩:=bU M.node;have f0:=d 0;have f1:=d 1;obtain ⟨h,kc,rfl,-⟩:=aE M.kids;have hd:=oL M false (.slice none 0 0) [] (mL A w) rfl _ rfl;have hle:=kG ks M.sorted;have HD:=show Hid (Below w.heap.size w ((w1.setCell ⟨g,0,none⟩ (.bool false)).setCell ⟨g,1,none⟩ (.slice none 0 0))/\ak (Grow A w) (n+1) ((w1.setCell ⟨g,0,none⟩ (.bool false)).setCell ⟨g,1,none⟩ (.slice none 0 0)) (some ⟨g,0,none⟩) (upd f [] [])) from hd;have e0:((w1.setCell ⟨g,0,none⟩ (.bool false)).setCell ⟨g,1,none⟩ (.slice none 0 0)).cell? ⟨g,0,none⟩=some (.bool false):=by
  have s2:=((M.node.stored 0 (.bool false)).1.stored 1 (.slice none 0 0)).1;simp only [List.set_cons_zero,List.set_cons_succ] at s2;exact (bU s2).1.1
 have e2:((w1.setCell ⟨g,0,none⟩ (.bool false)).setCell ⟨g,1,none⟩ (.slice none 0 0)).cell? ⟨g,2,none⟩=some (.slice h ks.length kc):=by
  have s2:=((M.node.stored 0 (.bool false)).1.stored 1 (.slice none 0 0)).1;simp only [List.set_cons_zero,List.set_cons_succ] at s2;exact (bU s2).1.2.2
 have HO:Hid (Calls Yq.prog 115 #[.pointer (some ⟨g,0,none⟩)] ((w1.setCell ⟨g,0,none⟩ (.bool false)).setCell ⟨g,1,none⟩ (.slice none 0 0)) fun e w'=>e=.returned (.pointer (orP false ks.length g))/\w'=((w1.setCell ⟨g,0,none⟩ (.bool false)).setCell ⟨g,1,none⟩ (.slice none 0 0))):=
  nF g false h ks.length kc _ (by omega) e0 e2
 have HE:Hid (ak (Grow A w) (n+1) ((w1.setCell ⟨g,0,none⟩ (.bool false)).setCell ⟨g,1,none⟩ (.slice none 0 0)) (orP false ks.length g) (upd f [] [])):=hd.2.orP e0 e2;clear hfr e0 e2 hd M;go_wp2_with (go_at_call 115;refine Calls.mono HO.out ?_;rintro e w' ⟨rfl,rfl⟩)
 go_ret;rw [b.out];exact ⟨_,rfl,HD.out.1,HE.out⟩
theorem Rdy.gone {A:Nat->Prop}{n:Nat}{w w3:Wj}{f:List UInt8->List Ver}{g:Nat}{b:Wx}{k cap:Nat}{ks:List (UInt8×Option Wu)}{r:Nat}{c:UInt8}{q:Option Wu}(R:Rdy A n w w3 f g b k cap ks r c q 1)
  (F:List UInt8->List Ver) (d:F []=f []) (l:∀c',c'≠c->(fun x=>F (c'::x))=fun x=>f (c'::x)) (u:∀x,F (c::x)=[]) (m:Nat) (hm:ks.length=m+1) (w5:Wj)
  (i:Below w.heap.size w w5)
  (n5:w5.ownsRow w.heap.size 159 3 (.slice (some ⟨g,0,none⟩) 1 1) 1 [.bool (!(f []).isEmpty),b,.slice (some ⟨k,0,none⟩) (m+1) cap])
  (k5:w5.ownsRow w.heap.size 190 2 (.slice (some ⟨k,0,none⟩) m cap) m (aB (ks.take r++ks.drop (r+1)))) (wf:Wj) (o:wf=w5.setCell ⟨g,2,none⟩ (.slice (some ⟨k,0,none⟩) m cap)) (hr:r<ks.length) (a:ks[r].1=c):
  Below w.heap.size w wf/\ak (Grow A w) (n+1) wf (some ⟨g,0,none⟩) F/\wf.cell? ⟨g,0,none⟩=some (.bool (!(f []).isEmpty))/\wf.cell? ⟨g,2,none⟩=some (.slice (some ⟨k,0,none⟩) m cap):=by
 subst o;have hgg:=n5.lt g rfl;have hkk:=k5.lt k rfl;have n6:=n5.stored 2 (.slice (some ⟨k,0,none⟩) m cap);have k6:=k5.kept n6.2 (Or.inr (by simp [Value.ownBlock];exact R.apart));have hbl:=i.setCell (p:=⟨g,2,none⟩) hgg.1 (.slice (some ⟨k,0,none⟩) m cap);obtain ⟨⟨c0,c1,c2⟩,-⟩:=bU n6.1;have hl:m=(ks.take r++ks.drop (r+1)).length:=by rw [lP,tL,lD];omega
 have hsub:(ks.take r++ks.drop (r+1)).Sublist ks:=by
  conv=>rhs;rw [<-List.take_append_drop r ks]
  refine List.Sublist.append (List.Sublist.refl _) ?_;rw [<-List.getElem_cons_drop hr];exact List.sublist_cons_self _ _
 have s:∀x,(c,x) ∉ ks.take r++ks.drop (r+1):=by
  intro x hx;rcases List.mem_append.1 hx with h|h
  .obtain ⟨j,t,e⟩:=gM h;rw [tL] at t;rw [List.getElem_take] at e;have:=jh R.sorted j r (by omega) hr;rw [e,a] at this;simp at this
  .obtain ⟨j,t,e⟩:=gM h;rw [lD] at t;rw [List.getElem_drop] at e;have:=jh R.sorted r (r+1+j) (by omega) (by omega);rw [e,a] at this;simp at this
 refine ⟨hbl,Or.inr ⟨g,b,_,ks.take r++ks.drop (r+1),rfl,Or.inr hgg.1,by rw [d];exact c0,c1,c2,by rw [d];exact bO.keep R.hist (iL hbl),?_,R.sorted.sublist hsub,?_,?_,fun c' x hx=>R.noNil c' x (hsub.subset hx)⟩,c0,c2⟩
 .exact di hl k6 (fun j e=>by simp [Value.ownBlock] at e;subst e;exact Or.inr hkk.1)
 .intro c' x hx;have hne:c'≠c:=fun e=>s x (by rw [<-e];exact hx)
  rw [l c' hne];exact ak.keep (iL hbl) n x _ (R.child c' x (hsub.subset hx))
 .intro c' hc' y;by_cases hne:c'=c
  .rw [hne];exact u y
  .have e:F (c'::y)=f (c'::y):=congrFun (l c' hne) y;rw [e];refine R.noKid c' (fun x hx=>hc' x ?_) y;rw [<-List.take_append_drop r ks,List.mem_append] at hx;rw [List.mem_append];rcases hx with h|h
   .exact Or.inl h
   .rw [<-List.getElem_cons_drop hr,List.mem_cons] at h;rcases h with h|h
    .rw [<-h] at a;exact absurd a hne
    .exact Or.inr h
def Back (A:Nat->Prop)(n:Nat)(w:Wj)(f F:List UInt8->List Ver)(g:Nat)(b:Wx)(k cap:Nat)(ks:List (UInt8×Option Wu))(r:Nat)(c:UInt8)(q':Option Wu)(a:Wj):Prop:=
 (Below w.heap.size w a/\(q'≠none->ak (Grow A w) (n+1) a (some ⟨g,0,none⟩) F) /\
   a.ownsRow w.heap.size 159 3 (.slice (some ⟨g,0,none⟩) 1 1) 1 [.bool (!(f []).isEmpty),b,.slice (some ⟨k,0,none⟩) (aJ ks r c q' 1).length cap] /\
   a.ownsRow w.heap.size 190 2 (.slice (some ⟨k,0,none⟩) (aJ ks r c q' 1).length cap) (aJ ks r c q' 1).length (aB (aJ ks r c q' 1)))/\(q'=none->∀x,F (c::x)=[])
theorem Rdy.back {A:Nat->Prop}{n:Nat}{w w3:Wj}{f:List UInt8->List Ver}{g:Nat}{a:Wx}{k cap:Nat}{ks:List (UInt8×Option Wu)}{r:Nat}{c:UInt8}{q:Option Wu}(R:Rdy A n w w3 f g a k cap ks r c q 1)
  (d:Wj) (hb:Below w3.heap.size w3 d) (q':Option Wu) (rest:List UInt8)
  (hq:ak (Grow (fun b=>A b/\b<w.heap.size) w3) n d q' (upd (fun x=>f (c::x)) rest [])) (wf:Wj) (e:wf=d.setCell ⟨k,r * 2+1,none⟩ (.pointer q')):
  Back A n w f (upd f (c::rest) []) g a k cap ks r c q' wf:=by
 refine ⟨R.done d hb q' (upd f (c::rest) []) (io _ _ _ _) (fun c' hc'=>nG _ _ _ _ _ hc') (by rw [upd_same];exact hq) wf e,?_⟩;rintro rfl x;have:=hq.of_nil x;rw [<-upd_same] at this;exact this
theorem xU {ks:List (UInt8×Option Wu)}{r:Nat}{c:UInt8}{q:Option Wu}(hr:r<=ks.length):(aJ ks r c q 1).take r++(aJ ks r c q 1).drop (r+1)=ks.take r++ks.drop (r+1):=by
 have hl:(ks.take r).length=r:=by rw [tL];omega
 unfold aJ;rw [List.take_left' hl,show (ks.take r++(c,q)::ks.drop (r+1))=(ks.take r++[(c,q)])++ks.drop (r+1) by simp,List.drop_left' (by simp [hl])]
theorem p7 (n:Nat)(ih:p6 n)(A:Nat->Prop)(p:Option Wu)(f:List UInt8->List Ver)(key:ByteArray)(w:Wj)(O:ak A (n+1) w p f)(hk:0<key.size)(hkn:key.size<n+1)(hk2:key.size<=1000)(hf:f key.data.toList≠[]):
  Calls Yq.prog 93 #[.pointer p,.string key] w fun e w'=>∃q,e=.returned (.pointer q)/\Below w.heap.size w w'/\ak (Grow A w) (n+1) w' q (upd f key.data.toList []):=by
 have hfr:=jO A n p f w O;have hkc:=vR key hk;have hke:key.toList.isEmpty=false:=by rw [ByteArray.toList_eq,hkc];rfl
 have l:Hid (key.data.toList=key[0]::(key.extract 1 key.size).data.toList/\f key.data.toList≠[]):=⟨hkc,hf⟩;have IH:Hid (p6 n):=ih;clear hkc O hf ih;go_enter (Yq.nq func93),ntmps93;go_wp2_with fail
 refine hfr.mono ?_;rintro e w1 ⟨g,y,kv,ks,rfl,M⟩;obtain ⟨⟨c0,c1,c2⟩,P⟩:=bU M.node;have hK1:fR (fun _=>True) w1 kv ks:=di rfl M.kids (fun _ _=>trivial);have hnf:=nE (fun _=>True) g kv ks key[0] w1 c2 hK1 M.sorted;clear hfr c0 c1 c2 P hK1;go_wp2_with fail
 refine hnf.mono ?_;rintro e w2 ⟨r,hp,rfl,hb2⟩;clear hnf;have hat:mK ks key[0] r=true:=by
  cases hat:mK ks key[0] r with
  |true=>rfl
  |false=>
   have:=M.noKid key[0] (hp.nomem M.sorted hat) (key.extract 1 key.size).data.toList;rw [<-l.out.1] at this;exact absurd this l.out.2
 obtain ⟨k,cap,q,rfl,R⟩:=M.rdy hb2 hp hat;obtain ⟨c2,d1,fr,hl⟩:=R.cells;have hr:=fV (c:=key[0]) (q:=q) (d:=1) hp.le;obtain ⟨hrl,D⟩:=Place.mem hat;have HR:Hid (ks[r].1=key[0]/\mK ks key[0] r=true):=⟨D,hat⟩;have hlen:(aJ ks r key[0] q 1).length=ks.length:=by
  unfold aJ;rw [lP,tL,lC,lD];omega
 rw [hlen] at c2 hr hl;have F:Hid ((aJ ks r key[0] q 1).length=ks.length):=hlen;clear D hat M hp hlen;obtain ⟨m,hm⟩:∃m,ks.length=m+1:=⟨ks.length-1,by omega⟩;have E:Hid (ks.length=m+1):=hm;rw [hm] at c2 hr hl;clear hm;have hkb:=bC w2 _ d1;have hgk:g≠k:=fun e=>R.apart e.symm
 have hkg:k≠g:=R.apart;have HQ:Hid (ak (fun b=>A b/\b<w.heap.size) n w2.drew q (fun x=>f (key[0]::x))):=
  ak.keep (A:=A) (A':=fun b=>A b/\b<w.heap.size) (w:=w) (w':=w2.drew) (fun b h1 h2=>⟨⟨h1,h2⟩,R.below.block b h2⟩) n q _ R.this
 have o:Hid ((key.extract 1 key.size).size<n/\(key.extract 1 key.size).size<=1000/\(fun x=>f (key[0]::x)) (key.extract 1 key.size).data.toList≠[]):=by
  have:(key.extract 1 key.size).size=key.size-1:=by simp
  refine ⟨by omega,by omega,?_⟩;have:=l.out.2;rw [l.out.1] at this;exact this
 go_upto_region 7 with fail
 go_cut [] (fun Q=>∃q',Back A n w f (upd f (key[0]::(key.extract 1 key.size).data.toList) []) g y k cap ks r key[0] q' Q)
 case first=>
  go_region_with (go_at_call 93;refine (IH.out (fun b=>A b/\b<w.heap.size) q (fun x=>f (key[0]::x)) _ _ ?_ ?_ ?_ ?_).mono ?_;exact HQ.out;exact o.out.1;exact o.out.2.1;exact o.out.2.2;rintro e S ⟨q',rfl,hb4,K⟩;have k2:=ai (W:=w2.drew) hb4 c2;have kd:=ai (W:=w2.drew) hb4 d1;have kf:=(hb4.frozen (p:=⟨k,r * 2+1,none⟩) hkb).trans fr)
  all_goals
   go_wp2_with fail
   go_meet
   case rel=>exact ⟨q',R.back S ((bR _ w2).drew.trans hb4) q' _ K _ rfl⟩
 case rest=>
  obtain ⟨q',B⟩:=hcut;obtain ⟨⟨u,J,h,a⟩,i⟩:=B;have s:(aJ ks r key[0] q' 1).length=m+1:=by rw [<-gy (q:=q),F.out,E.out]
  obtain ⟨⟨e0,e1,e2⟩,H⟩:=bU h;have ef2:=H 2;have z:fR (fun _=>True) wc _ (aJ ks r key[0] q' 1):=di rfl a (fun _ _=>trivial);have t:aJ ks r key[0] q' 1≠[]:=by intro e;rw [e] at s;simp at s
  obtain ⟨gk',capk',L,-,-,v,-⟩:=z.cells t;have ed1:=(v r (by omega)).2;rw [kK (by omega)] at ed1;cases L;rw [s] at e2 a h;have HB:Hid (Below w.heap.size w wc):=u;cases q' with
  |some a'=>
   have HO:Hid (Calls Yq.prog 115 #[.pointer (some ⟨g,0,none⟩)] wc fun e w'=>e=.returned (.pointer (orP (!(f []).isEmpty) (m+1) g))/\w'=wc):=nF g _ (some ⟨k,0,none⟩) (m+1) cap wc (by omega) e0 e2;have HE:Hid (ak (Grow A w) (n+1) wc (orP (!(f []).isEmpty) (m+1) g) (upd f (key[0]::(key.extract 1 key.size).data.toList) [])):=(J (by simp)).orP e0 e2;clear R c2 d1 fr HQ o hb2 u J h a i H z t v s;go_wp2_with (go_at_call 115;refine Calls.mono HO.out ?_;rintro e w' ⟨rfl,rfl⟩)
   go_ret;rw [l.out.1];exact ⟨_,rfl,HB.out,HE.out⟩
  |none=>
   have N:Hid (Calls Yq.prog 117 #[.slice (some ⟨k,0,none⟩) (m+1) cap,.int .i64 r,.int .i64 ((r:Int)+1)] wc fun e w'=>e=.returned (.slice (some ⟨k,0,none⟩) m cap) /\
     w'.ownsRow w.heap.size 190 2 (.slice (some ⟨k,0,none⟩) m cap) m (aB (ks.take r++ks.drop (r+1)))/\wc.grownBy w' (some k)):=by
    have:=CM w.heap.size k m cap r _ wc a (by omega) (by omega) (im _);rw [rM,xU (by omega)] at this;exact this
   have hgk:g≠k:=fun e=>R.apart e.symm
   have I:Hid (Rdy A n w w2 f g y k cap ks r key[0] q 1/\Below w.heap.size w wc/\wc.ownsRow w.heap.size 159 3 (.slice (some ⟨g,0,none⟩) 1 1) 1 [.bool (!(f []).isEmpty),y,.slice (some ⟨k,0,none⟩) (m+1) cap]/\wc.ownsRow w.heap.size 190 2 (.slice (some ⟨k,0,none⟩) (m+1) cap) (m+1) (aB (aJ ks r key[0] none 1))/\∀x,upd f (key[0]::(key.extract 1 key.size).data.toList) [] (key[0]::x)=[]):=⟨R,u,h,a,i rfl⟩;have C:g<wc.heap.size:=bC wc _ e2;clear R c2 d1 fr HQ o hb2 u J h a i H z t v s;go_wp2_with (go_at_call 117;refine Calls.mono N.out ?_;rintro e w5 ⟨rfl,k5,hg5⟩;have t2:w5.cell? ⟨g,2,none⟩=some (.slice (some ⟨k,0,none⟩) (m+1) cap):=hg5.cell e2 (by simp [hgk]);have tf:w5.frozen? ⟨g,2,none⟩=false:=(bB hg5 ⟨g,2,none⟩ C (by simp [hgk])).trans ef2)
   obtain ⟨R,u,h,a,i⟩:=I.out;have n5:=h.kept hg5 (Or.inr (by simp [Value.ownBlock];exact hgk));have b5:Below w.heap.size w w5:=u.grown hg5 u.size (fun j e=>by cases e;exact (a.lt k rfl).1);have G:=R.gone (upd f (key[0]::(key.extract 1 key.size).data.toList) []) (io _ _ _ _) (fun c' hc'=>nG _ _ _ _ _ hc') i m E.out w5 b5 n5 k5 _ rfl hrl HR.out.1;have HG:=show Hid (_/\_/\_/\_) from G;refine (nF g _ (some ⟨k,0,none⟩) m cap _ (by omega) G.2.2.1 G.2.2.2).mono ?_;clear R u h a i n5 b5 G;rintro e w' ⟨rfl,rfl⟩;go_wp2;go_ret;rw [l.out.1];exact ⟨_,rfl,HG.out.1,HG.out.2.1.orP HG.out.2.2.1 HG.out.2.2.2⟩
theorem rQ:∀n,p6 n:=by
 intro n;induction n with
 |zero=>intro A p f key w _ hk;omega
 |succ n ih=>
  intro A p f key w a hk hk2 hf;by_cases h0:key.size=0
  .exact oc n A p f key w a h0
  .exact p7 n ih A p f key w a (by omega) hk hk2 hf
end
