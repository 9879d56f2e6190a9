/- A part. -/
import Derived.Test.YtnapepbdohidgaaGreatDoorQU10
set_option maxHeartbeats 4000000
set_option maxRecDepth 100000
namespace Go.Proofs.Qw
section
open Go.RowKit
theorem xU (n:Nat)(ih:EH n)(A:Nat->Prop)(p:Option Addr)(f:List UInt8->List Ver)(key:ByteArray)(hv:Value)(h:List Ver)(w:World)(hN:ai A (n+1) w p f)(hk:0<key.size)(hkn:key.size<n+1)(hk2:key.size<=1000)(hh:aT A w hv h)(hne:h≠[]):
  Calls Yq.prog 94 #[.pointer p,.string key,hv] w fun e w'=>∃g,e=.returned (.pointer (some ⟨g,0,none⟩))/\Below w.heap.size w w'/\ai (Grow A w) (n+1) w' (some ⟨g,0,none⟩) (upd f key.data.toList h):=by
 have hfr:=jR A n p f w hN;have hkc:=vX key hk;have hke:key.toList.isEmpty=false:=by rw [ByteArray.toList_eq,hkc];rfl
 have hh2:=hh;obtain ⟨ha,hc,rfl,-⟩:=hh2;have HKL:Hid (key.data.toList=key[0]::(key.extract 1 key.size).data.toList/\aT A w (.slice ha h.length hc) h):=⟨hkc,hh⟩;have IH:Hid (EH n):=ih;clear hkc hN hh ih;go_enter (Yq.nq Tryz.func94),Tryz.ntmps94;go_wp2_with fail
 refine hfr.mono ?_;rintro e w1 ⟨g,hv0,kv,ks,rfl,M⟩;obtain ⟨⟨c0,c1,c2⟩,fz⟩:=bH M.node;have hK1:fZ (fun _=>True) w1 kv ks:=cR rfl M.kids (fun _ _=>trivial);have hnf:=nB (fun _=>True) g kv ks key[0] w1 c2 hK1 M.sorted;clear hfr c0 c1 c2 fz hK1;go_wp2_with fail
 refine hnf.mono ?_;rintro e w2 ⟨r,hp,rfl,hb2⟩;clear hnf
 go_upto_if 30 with fail
 go_cut [9] (fun _ wx=>∃k cap q d,Rdy A n w wx f g hv0 k cap ks r key[0] q d)
 case first=>
  cases hat:mE ks key[0] r with
  |true=>
   obtain ⟨k,cap,q,rfl,R⟩:=M.rdy hb2 hp hat;have HR:Hid (Rdy A n w w2 f g hv0 k cap ks r key[0] q 1):=R;clear R M hp;go_wp2
   go_meet
   case rel=>exact ⟨k,cap,q,1,HR.out⟩
  |false=>
   have hK1:=M.kids;obtain ⟨ka,kc,rfl,-⟩:=aw M.kids;have hle:=kH ks M.sorted;have hrl:=hp.le;have cc2:=aj hb2 (bH M.node).1.2.2;have cf2:=(hb2.frozen (p:=⟨g,2,none⟩) (M.node.lt g rfl).2).trans ((bH M.node).2 2);have hlt2:g<w2.heap.size:=bC w2 _ cc2;have HI:Hid (∀wq:World,wq.heap=(w2.alloc (.cells #[.int .u8 (key[0].toNat:Int),.pointer none] 190)).heap ->
     Calls Yq.prog 118 #[.slice ka ks.length kc,.int .i64 r,.slice (some ⟨w2.heap.size,0,none⟩) 1 1] wq (fe w.heap.size (.slice ka ks.length kc) r ks.length (au ks) (.int .u8 (key[0].toNat:Int)) (.pointer none) wq)):=fun wq hq=>by
    have hbq:Below w2.heap.size w2 (w2.alloc (.cells #[.int .u8 (key[0].toNat:Int),.pointer none] 190)):=(bR _ _).alloc (lR _) _;have b2:Below w.heap.size w w2:=M.below.trans (hb2.mono M.below.size);have kq:=(M.kids.kept (dz hb2 none) (by cases h:Value.ownBlock (.slice ka ks.length kc)<;>simp)).alloc (.cells #[.int .u8 (key[0].toNat:Int),.pointer none] 190);have kq':wq.ownsRow w.heap.size 190 2 (.slice ka ks.length kc) ks.length (au ks):=by
     unfold World.ownsRow at kq ⊢;rw [hq];exact kq
    refine Ct w.heap.size _ ks.length r (au ks) w2.heap.size _ _ wq kq' (by omega) hrl 190 (by rw [hq];exact heap_alloc_new w2 _) ?_ ⟨rfl,rfl⟩ (ix ks) (by rw [hq];have:=b2.size;have:=hbq.size;omega);intro e;have:=(M.kids.lt _ e).2;have:=hb2.size;omega
   have HM:Hid (mE ks key[0] r=false/\Place ks key[0] r/\Made A n w w1 f g hv0 (.slice ka ks.length kc) ks):=⟨hat,hp,M⟩;clear hat hp M hK1;go_wp2_with fail
   go_region_with (go_at_call 118;refine (HI.out ((w2.alloc (.cells #[.int .u8 (key[0].toNat:Int),.pointer none] 190)).drew) rfl).mono ?_;rintro e w3 ⟨v',rfl,ho,hg3,hblk⟩;obtain ⟨k,cap,rfl,-,-,-⟩:=rV ho (Nat.succ_pos _);have k2:w3.cell? ⟨g,2,none⟩=some (.slice ka ks.length kc):=hg3.cell (a:=⟨g,2,none⟩) (aj ((bR _ w2).alloc (lR _) _) cc2) (fun e=>HM.out.2.2.apart e.symm);have kf:w3.frozen? ⟨g,2,none⟩=false:=(fx hg3 ⟨g,2,none⟩ (lL hlt2 (by simp)) (fun e=>HM.out.2.2.apart e.symm)).trans ((((bR _ w2).alloc (lR _) _).frozen (p:=⟨g,2,none⟩) hlt2).trans cf2))
   all_goals
    go_wp2_with fail
    go_meet
    case rel=>
     rw [rO] at ho;exact ⟨k,cap,none,0,(HM.out.2.2.rdyNew hb2 HM.out.2.1 HM.out.1 ((bR _ w2).alloc (lR _) _).drew k cap ho hg3 hblk).2⟩
 case rest=>
  obtain ⟨k,cap,q,d,R⟩:=hcut;obtain ⟨c2,d1,fr,hl⟩:=R.cells;have hr:=gg (c:=key[0]) (q:=q) (d:=d) R.place.le;clear M hp hb2;generalize hm:(aE ks r key[0] q d).length=m at *;have HL:Hid ((aE ks r key[0] q d).length=m):=hm;clear hm;have hkb:=bC wc _ d1;have HQ:Hid (∀wq:World,wq.heap=wc.heap->ai (fun b=>A b/\b<w.heap.size) n wq q (fun x=>f (key[0]::x))/\aT (fun b=>A b/\b<w.heap.size) wq (.slice ha h.length hc) h):=fun wq hq=>
   ⟨ai.keep (fun b h1 h2=>⟨⟨h1,h2⟩,by rw [hq];exact R.below.block b h2⟩) n q _ R.this,bD.keep HKL.out.2 (fun b h1 h2=>⟨⟨h1,h2⟩,by rw [hq];exact R.below.block b h2⟩)⟩
  have HSZ:Hid ((key.extract 1 key.size).size<n/\(key.extract 1 key.size).size<=1000):=by
   have:(key.extract 1 key.size).size=key.size-1:=by simp
   exact ⟨by omega,by omega⟩
  go_wp2_with fail
  go_region_with (go_at_call 94;refine (IH.out (fun b=>A b/\b<w.heap.size) q (fun x=>f (key[0]::x)) _ _ h _ ?_ ?_ ?_ ?_ hne).mono ?_;exact (HQ.out wc.drew rfl).1;exact HSZ.out.1;exact HSZ.out.2;exact (HQ.out wc.drew rfl).2;rintro e w4 ⟨g',rfl,hb4,hN4⟩;have k2:=aj (W:=wc.drew) hb4 c2;have kd:=aj (W:=wc.drew) hb4 d1;have kf:=(hb4.frozen (p:=⟨k,r * 2+1,none⟩) hkb).trans fr)
  all_goals
   go_wp2;go_ret;have hd:=R.done w4 ((bR _ wc).drew.trans hb4) (some ⟨g',0,none⟩) (upd f (key[0]::(key.extract 1 key.size).data.toList) h) (iy _ _ _ _) (fun c' hc'=>nG _ _ _ _ _ hc') (by rw [upd_same];exact hN4) _ rfl;rw [HKL.out.1];exact ⟨g,rfl,hd.1,hd.2.1 (by simp)⟩
theorem Al:∀n,EH n:=by
 intro n;induction n with
 |zero=>intro A p f key hv h w _ hk;omega
 |succ n ih=>
  intro A p f key hv h w hN hk hk2 hh hne;by_cases h0:key.size=0
  .exact uA n A p f key hv h w hN h0 hh hne
  .exact xU n ih A p f key hv h w hN (by omega) hk hk2 hh hne
end
