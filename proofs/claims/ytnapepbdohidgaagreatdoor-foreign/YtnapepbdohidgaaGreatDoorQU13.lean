/- A part. -/
import Derived.Test.YtnapepbdohidgaaGreatDoorQU12
set_option maxHeartbeats 4000000
set_option maxRecDepth 100000
open Go renaming World->Wz,Addr->Ww
namespace Go.Proofs.Qw
section
open Go.RowKit
def Back (A:Nat->Prop)(n:Nat)(w:Wz)(f F:List UInt8->List Ver)(g:Nat)(hv0:Value)(k cap:Nat)(ks:List (UInt8×Option Ww))(r:Nat)(c:UInt8)(q':Option Ww)(wx:Wz):Prop:=
 (Below w.heap.size w wx/\(q'≠none->ai (Grow A w) (n+1) wx (some ⟨g,0,none⟩) F) /\
   wx.ownsRow w.heap.size 159 3 (.slice (some ⟨g,0,none⟩) 1 1) 1 [.bool (!(f []).isEmpty),hv0,.slice (some ⟨k,0,none⟩) (aE ks r c q' 1).length cap] /\
   wx.ownsRow w.heap.size 190 2 (.slice (some ⟨k,0,none⟩) (aE ks r c q' 1).length cap) (aE ks r c q' 1).length (au (aE ks r c q' 1)))/\(q'=none->∀x,F (c::x)=[])
theorem Rdy.back {A:Nat->Prop}{n:Nat}{w w3:Wz}{f:List UInt8->List Ver}{g:Nat}{hv0:Value}{k cap:Nat}{ks:List (UInt8×Option Ww)}{r:Nat}{c:UInt8}{q:Option Ww}(R:Rdy A n w w3 f g hv0 k cap ks r c q 1)
  (w4:Wz) (hb:Below w3.heap.size w3 w4) (q':Option Ww) (rest:List UInt8)
  (hq:ai (Grow (fun b=>A b/\b<w.heap.size) w3) n w4 q' (upd (fun x=>f (c::x)) rest [])) (wf:Wz) (hwf:wf=w4.setCell ⟨k,r * 2+1,none⟩ (.pointer q')):
  Back A n w f (upd f (c::rest) []) g hv0 k cap ks r c q' wf:=by
 refine ⟨R.done w4 hb q' (upd f (c::rest) []) (iy _ _ _ _) (fun c' hc'=>nG _ _ _ _ _ hc') (by rw [upd_same];exact hq) wf hwf,?_⟩;rintro rfl x;have:=hq.of_nil x;rw [<-upd_same] at this;exact this
theorem xV {ks:List (UInt8×Option Ww)}{r:Nat}{c:UInt8}{q:Option Ww}(hr:r<=ks.length):(aE ks r c q 1).take r++(aE ks r c q 1).drop (r+1)=ks.take r++ks.drop (r+1):=by
 have hl:(ks.take r).length=r:=by rw [tL];omega
 unfold aE;rw [List.take_left' hl,show (ks.take r++(c,q)::ks.drop (r+1))=(ks.take r++[(c,q)])++ks.drop (r+1) by simp,List.drop_left' (by simp [hl])]
theorem pX (n:Nat)(ih:pW n)(A:Nat->Prop)(p:Option Ww)(f:List UInt8->List Ver)(key:ByteArray)(w:Wz)(hN:ai A (n+1) w p f)(hk:0<key.size)(hkn:key.size<n+1)(hk2:key.size<=1000)(hf:f key.data.toList≠[]):
  Calls Yq.prog 93 #[.pointer p,.string key] w fun e w'=>∃q,e=.returned (.pointer q)/\Below w.heap.size w w'/\ai (Grow A w) (n+1) w' q (upd f key.data.toList []):=by
 have hfr:=jR A n p f w hN;have hkc:=vX key hk;have hke:key.toList.isEmpty=false:=by rw [ByteArray.toList_eq,hkc];rfl
 have HKL:Hid (key.data.toList=key[0]::(key.extract 1 key.size).data.toList/\f key.data.toList≠[]):=⟨hkc,hf⟩;have IH:Hid (pW n):=ih;clear hkc hN hf ih;go_enter (Yq.nq Tryz.func93),Tryz.ntmps93;go_wp2_with fail
 refine hfr.mono ?_;rintro e w1 ⟨g,hv0,kv,ks,rfl,M⟩;obtain ⟨⟨c0,c1,c2⟩,fz⟩:=bH M.node;have hK1:fZ (fun _=>True) w1 kv ks:=cR rfl M.kids (fun _ _=>trivial);have hnf:=nB (fun _=>True) g kv ks key[0] w1 c2 hK1 M.sorted;clear hfr c0 c1 c2 fz hK1;go_wp2_with fail
 refine hnf.mono ?_;rintro e w2 ⟨r,hp,rfl,hb2⟩;clear hnf;have hat:mE ks key[0] r=true:=by
  cases hat:mE ks key[0] r with
  |true=>rfl
  |false=>
   have:=M.noKid key[0] (hp.nomem M.sorted hat) (key.extract 1 key.size).data.toList;rw [<-HKL.out.1] at this;exact absurd this HKL.out.2
 obtain ⟨k,cap,q,rfl,R⟩:=M.rdy hb2 hp hat;obtain ⟨c2,d1,fr,hl⟩:=R.cells;have hr:=gg (c:=key[0]) (q:=q) (d:=1) hp.le;obtain ⟨hrl,hrc⟩:=Place.mem hat;have HR:Hid (ks[r].1=key[0]/\mE ks key[0] r=true):=⟨hrc,hat⟩;have hlen:(aE ks r key[0] q 1).length=ks.length:=by
  unfold aE;rw [lP,tL,lC,lD];omega
 rw [hlen] at c2 hr hl;have HLN:Hid ((aE ks r key[0] q 1).length=ks.length):=hlen;clear hrc hat M hp hlen;obtain ⟨m,hm⟩:∃m,ks.length=m+1:=⟨ks.length-1,by omega⟩;have HMM:Hid (ks.length=m+1):=hm;rw [hm] at c2 hr hl;clear hm;have hkb:=bC w2 _ d1;have hgk:g≠k:=fun e=>R.apart e.symm
 have hkg:k≠g:=R.apart;have HQ:Hid (ai (fun b=>A b/\b<w.heap.size) n w2.drew q (fun x=>f (key[0]::x))):=
  ai.keep (A:=A) (A':=fun b=>A b/\b<w.heap.size) (w:=w) (w':=w2.drew) (fun b h1 h2=>⟨⟨h1,h2⟩,R.below.block b h2⟩) n q _ R.this
 have HSZ:Hid ((key.extract 1 key.size).size<n/\(key.extract 1 key.size).size<=1000/\(fun x=>f (key[0]::x)) (key.extract 1 key.size).data.toList≠[]):=by
  have:(key.extract 1 key.size).size=key.size-1:=by simp
  refine ⟨by omega,by omega,?_⟩;have:=HKL.out.2;rw [HKL.out.1] at this;exact this
 go_upto_region 7 with fail
 go_cut [] (fun wx=>∃q',Back A n w f (upd f (key[0]::(key.extract 1 key.size).data.toList) []) g hv0 k cap ks r key[0] q' wx)
 case first=>
  go_region_with (go_at_call 93;refine (IH.out (fun b=>A b/\b<w.heap.size) q (fun x=>f (key[0]::x)) _ _ ?_ ?_ ?_ ?_).mono ?_;exact HQ.out;exact HSZ.out.1;exact HSZ.out.2.1;exact HSZ.out.2.2;rintro e w4 ⟨q',rfl,hb4,hN4⟩;have k2:=aj (W:=w2.drew) hb4 c2;have kd:=aj (W:=w2.drew) hb4 d1;have kf:=(hb4.frozen (p:=⟨k,r * 2+1,none⟩) hkb).trans fr)
  all_goals
   go_wp2_with fail
   go_meet
   case rel=>exact ⟨q',R.back w4 ((bR _ w2).drew.trans hb4) q' _ hN4 _ rfl⟩
 case rest=>
  obtain ⟨q',B⟩:=hcut;obtain ⟨⟨bw,bn,bnode,bkids⟩,bnil⟩:=B;have hlq:(aE ks r key[0] q' 1).length=m+1:=by rw [<-gF (q:=q),HLN.out,HMM.out]
  obtain ⟨⟨e0,e1,e2⟩,ef⟩:=bH bnode;have ef2:=ef 2;have hK2:fZ (fun _=>True) wc _ (aE ks r key[0] q' 1):=cR rfl bkids (fun _ _=>trivial);have hne2:aE ks r key[0] q' 1≠[]:=by intro e;rw [e] at hlq;simp at hlq
  obtain ⟨gk',capk',he',-,-,hcK,-⟩:=hK2.cells hne2;have ed1:=(hcK r (by omega)).2;rw [kK (by omega)] at ed1;cases he';rw [hlq] at e2 bkids bnode;have HB:Hid (Below w.heap.size w wc):=bw;cases q' with
  |some a'=>
   have HO:Hid (Calls Yq.prog 115 #[.pointer (some ⟨g,0,none⟩)] wc fun e w'=>e=.returned (.pointer (orP (!(f []).isEmpty) (m+1) g))/\w'=wc):=nC g _ (some ⟨k,0,none⟩) (m+1) cap wc (by omega) e0 e2;have HE:Hid (ai (Grow A w) (n+1) wc (orP (!(f []).isEmpty) (m+1) g) (upd f (key[0]::(key.extract 1 key.size).data.toList) [])):=(bn (by simp)).orP e0 e2;clear R c2 d1 fr HQ HSZ hb2 bw bn bnode bkids bnil ef hK2 hne2 hcK hlq;go_wp2_with (go_at_call 115;refine Calls.mono HO.out ?_;rintro e w' ⟨rfl,rfl⟩)
   go_ret;rw [HKL.out.1];exact ⟨_,rfl,HB.out,HE.out⟩
  |none=>
   have HDL:Hid (Calls Yq.prog 117 #[.slice (some ⟨k,0,none⟩) (m+1) cap,.int .i64 r,.int .i64 ((r:Int)+1)] wc fun e w'=>e=.returned (.slice (some ⟨k,0,none⟩) m cap) /\
     w'.ownsRow w.heap.size 190 2 (.slice (some ⟨k,0,none⟩) m cap) m (au (ks.take r++ks.drop (r+1)))/\wc.grownBy w' (some k)):=by
    have:=Co w.heap.size k m cap r _ wc bkids (by omega) (by omega) (ix _);rw [rP,xV (by omega)] at this;exact this
   have hgk:g≠k:=fun e=>R.apart e.symm
   have HRR:Hid (Rdy A n w w2 f g hv0 k cap ks r key[0] q 1/\Below w.heap.size w wc/\wc.ownsRow w.heap.size 159 3 (.slice (some ⟨g,0,none⟩) 1 1) 1 [.bool (!(f []).isEmpty),hv0,.slice (some ⟨k,0,none⟩) (m+1) cap]/\wc.ownsRow w.heap.size 190 2 (.slice (some ⟨k,0,none⟩) (m+1) cap) (m+1) (au (aE ks r key[0] none 1))/\∀x,upd f (key[0]::(key.extract 1 key.size).data.toList) [] (key[0]::x)=[]):=⟨R,bw,bnode,bkids,bnil rfl⟩;have hglt:g<wc.heap.size:=bC wc _ e2;clear R c2 d1 fr HQ HSZ hb2 bw bn bnode bkids bnil ef hK2 hne2 hcK hlq;go_wp2_with (go_at_call 117;refine Calls.mono HDL.out ?_;rintro e w5 ⟨rfl,k5,hg5⟩;have t2:w5.cell? ⟨g,2,none⟩=some (.slice (some ⟨k,0,none⟩) (m+1) cap):=hg5.cell e2 (by simp [hgk]);have tf:w5.frozen? ⟨g,2,none⟩=false:=(fx hg5 ⟨g,2,none⟩ hglt (by simp [hgk])).trans ef2)
   obtain ⟨R,bw,bnode,bkids,bnil⟩:=HRR.out;have n5:=bnode.kept hg5 (Or.inr (by simp [Value.ownBlock];exact hgk));have b5:Below w.heap.size w w5:=bw.grown hg5 bw.size (fun j e=>by cases e;exact (bkids.lt k rfl).1);have G:=R.gone (upd f (key[0]::(key.extract 1 key.size).data.toList) []) (iy _ _ _ _) (fun c' hc'=>nG _ _ _ _ _ hc') bnil m HMM.out w5 b5 n5 k5 _ rfl hrl HR.out.1;have HG:=show Hid (_/\_/\_/\_) from G;refine (nC g _ (some ⟨k,0,none⟩) m cap _ (by omega) G.2.2.1 G.2.2.2).mono ?_;clear R bw bnode bkids bnil n5 b5 G;rintro e w' ⟨rfl,rfl⟩;go_wp2;go_ret;rw [HKL.out.1];exact ⟨_,rfl,HG.out.1,HG.out.2.1.orP HG.out.2.2.1 HG.out.2.2.2⟩
theorem rW:∀n,pW n:=by
 intro n;induction n with
 |zero=>intro A p f key w _ hk;omega
 |succ n ih=>
  intro A p f key w hN hk hk2 hf;by_cases h0:key.size=0
  .exact oi n A p f key w hN h0
  .exact pX n ih A p f key w hN (by omega) hk hk2 hf
end
