/- A part. -/
import Derived.Test.YtnapepbdohidgaaGreatDoorQV20
import Derived.Deep.QuietTactic
import Derived.BigQuiet
set_option maxHeartbeats 4000000
set_option maxRecDepth 100000
open Go renaming World->Wz,Value->Wq,TypeId->Wk
namespace Go.Proofs.Qw
section
open Go
open Go.Conc Go.ConcX Go.ConcX.Gen Go.RowKit
theorem si (a c:Int)(w:Wz):Calls Yq.prog 130 #[.int .i64 a,.int .i64 c] w fun e w'=>e=.returned (.bool (c==0))/\w'=w:=by
 go_enter (Yq.nq Tryz.func130),Tryz.ntmps130;go_wp2;go_ret;exact ⟨rfl,rfl⟩
theorem jm.lt {A:Nat->Prop}{w:Wz}{k r:Nat}{st:St}{tm:Int}{s:ByteArray}(h:jm A w k r st tm s):r<w.heap.size:=bC w _ h.rd
theorem jm.setLast {A:Nat->Prop}{w:Wz}{k r:Nat}{st:St}{tm:Int}{s:ByteArray}(h:jm A w k r st tm s)(l:Int):jm A (w.setCell ⟨k,2,none⟩ (.int .i64 l)) k r (lastSt st l) tm s:=by
 obtain ⟨p,C,hN⟩:=h.store.cells;have hb:∀b,b≠k->(w.setCell ⟨k,2,none⟩ (.int .i64 l)).heap[b]?=w.heap[b]?:=fun b hne=>bS _ _ _ _ hne
 exact ⟨dw (st:=lastSt st l) (C.set2 _) (ai.keep (fun b h1 _=>⟨h1,hb b (h.store.avoid b h1)⟩) 41 p st.f hN) h.store.avoid,
  (cO w ⟨k,2,none⟩ ⟨k,3,none⟩ _ (by simp)).trans h.time,(cB (a:=⟨r,0,none⟩) (hb r (Ne.symm h.ne))).trans h.rd,(fB (a:=⟨r,0,none⟩) (hb r (Ne.symm h.ne))).trans h.fz,h.ne,h.avoid⟩
theorem jm.setTime {A:Nat->Prop}{w:Wz}{k r:Nat}{st:St}{tm:Int}{s:ByteArray}(h:jm A w k r st tm s)(x:Int):jm A (w.setCell ⟨k,3,none⟩ (.int .u64 x)) k r st x s:=by
 obtain ⟨p,C,hN⟩:=h.store.cells;have hb:∀b,b≠k->(w.setCell ⟨k,3,none⟩ (.int .u64 x)).heap[b]?=w.heap[b]?:=fun b hne=>bS _ _ _ _ hne
 exact ⟨dw ⟨co (by simp) C.c0,co (by simp) C.c1,co (by simp) C.c2,fun j=>fs (C.fz j)⟩ (ai.keep (fun b h1 _=>⟨h1,hb b (h.store.avoid b h1)⟩) 41 p st.f hN) h.store.avoid,
  cs h.time,(cB (a:=⟨r,0,none⟩) (hb r (Ne.symm h.ne))).trans h.rd,(fB (a:=⟨r,0,none⟩) (hb r (Ne.symm h.ne))).trans h.fz,h.ne,h.avoid⟩
theorem qh {w:Wz}{k r:Nat}(o:Nat)(v:Wq):Two2 k r w (w.setCell ⟨k,o,none⟩ v):=
 ⟨rfl,by simp [World.setCell],fun b _ h1 _=>bS _ _ _ _ h1⟩
theorem jm.grow {A:Nat->Prop}{w w':Wz}{k r:Nat}{st st':St}{tm:Int}{s:ByteArray}(h:jm A w k r st tm s)(hS:aw (Grow A w) w' k st')(hg:bL w w' k):jm (Grow A w) w' k r st' tm s:=by
 have hb:w'.heap[r]?=w.heap[r]?:=hg.g.block r h.lt (fun e=>h.ne (oJ e).symm);exact ⟨hS,(hg.t 3 (by omega)).trans h.time,(cB (a:=⟨r,0,none⟩) hb).trans h.rd,(fB (a:=⟨r,0,none⟩) hb).trans h.fz,h.ne,fun ha=>ha.elim (fun h1=>h.avoid h1.1) (fun h1=>by have:=h.lt;omega)⟩
def CB (A:Nat->Prop)(w:Wz)(k r:Nat)(st:St)(tm:Int)(s:ByteArray)(e:Ending)(w':Wz):Prop:=
 Two2 k r w w'/\((dh st tm s=none/\e=.returned (.bool false))\/∃st' tm' s',dh st tm s=some (st',tm',s')/\e=.returned (.bool true)/\∃A':Nat->Prop,(∀b,A' b->A b\/w.heap.size<=b)/\jm A' w' k r st' tm' s'/\Inv st' 0/\dW st')
theorem vK (s:ByteArray):nm8 s<18446744073709551616:=by
 have h1:=uv (tkB s 8).data.toList;have h2:(tkB s 8).data.toList.length<=8:=by simpa using mr s 8
 exact lL h1 (lT (Nat.pow_le_pow_right (by decide) h2) (by decide))
theorem qi (s:ByteArray):(txB s).size<=1000:=by
 have h1:=mr (rsB s 1) (txL s);have h2:=Da s;unfold txB;omega
theorem EF {A:Nat->Prop}{w:Wz}{k r:Nat}{st:St}{tm:Int}{s:ByteArray}(h:jm A w k r st tm s)(hs:s.size<=maxLen)(hI:Inv st 0)(hT:dW st):
  Calls Yq.prog 106 #[.pointer (some ⟨k,0,none⟩),.pointer (some ⟨r,0,none⟩)] w (CB A w k r st tm s):=by
 have HH:Hid (jm A w k r st tm s/\s.size<=maxLen/\Inv st 0/\dW st):=⟨h,hs,hI,hT⟩;have HN1:=fZ r 1 s w hs (by omega) h.rd h.fz;clear h hs hI hT;go_enter (Yq.nq Tryz.func106),Tryz.ntmps106;go_wp2_with fail
 refine HN1.mono ?_;rintro e w1 ⟨rfl,r1⟩;have H1:Hid (jm A w1 k r st tm (rsB s 1)/\Two2 k r w w1/\(rsB s 1).size<=maxLen):=⟨HH.out.1.rdTo r1,r1.two,by have:=HH.out.2.1;exact lT (cy s 1) this⟩;have et:qm (tkB s 1).data.toList=txL s:=rfl;rw [et];have HP:Hid (dh st tm s=dh st tm s):=rfl;clear r1 HN1 et;by_cases t1:txL s=1
 .have HN2:=fZ r 8 (rsB s 1) w1 H1.out.2.2 (by omega) H1.out.1.rd H1.out.1.fz;go_wp2_with fail
  refine HN2.mono ?_;rintro e w2 ⟨rfl,r2⟩;have em:qm (tkB (rsB s 1) 8).data.toList=nm8 (rsB s 1):=rfl;rw [em];have H2:Hid (jm A w2 k r st tm (rsB (rsB s 1) 8)/\Two2 k r w w2/\(rsB (rsB s 1) 8).size<=maxLen):=⟨H1.out.1.rdTo r2,H1.out.2.1.trans r2.two,lT (cy _ _) H1.out.2.2⟩;have hm:=vK (rsB s 1);clear r2 HN2 em;have HT2:=uw r (rsB (rsB s 1) 8) w2 H2.out.2.2 H2.out.1.rd H2.out.1.fz;go_wp2_with fail
  refine HT2.mono ?_;rintro e w3 ⟨rfl,r3⟩;have H3:Hid (jm A w3 k r st tm (txR (rsB (rsB s 1) 8))/\Two2 k r w w3/\(txR (rsB (rsB s 1) 8)).size<=maxLen):=⟨H2.out.1.rdTo r3,H2.out.2.1.trans r3.two,lT (cy _ _) (lT (cy _ _) H2.out.2.2)⟩;have et3:tkB (rsB (rsB (rsB s 1) 8) 1) (txL (rsB (rsB s 1) 8))=txB (rsB (rsB s 1) 8):=rfl;rw [et3];clear r3 HT2 et3;have HT3:=uw r (txR (rsB (rsB s 1) 8)) w3 H3.out.2.2 H3.out.1.rd H3.out.1.fz;go_wp2_with fail
  refine HT3.mono ?_;rintro e w4 ⟨rfl,r4⟩;have H4:Hid (jm A w4 k r st tm (txR (txR (rsB (rsB s 1) 8)))/\Two2 k r w w4/\(txR (txR (rsB (rsB s 1) 8))).size<=maxLen):=⟨H3.out.1.rdTo r4,H3.out.2.1.trans r4.two,lT (cy _ _) (lT (cy _ _) H3.out.2.2)⟩;have et4:tkB (rsB (txR (rsB (rsB s 1) 8)) 1) (txL (txR (rsB (rsB s 1) 8)))=txB (txR (rsB (rsB s 1) 8)):=rfl;rw [et4];clear r4 HT3 et4;have HP4:=nI k (nm8 (rsB s 1)) st.last w4 HH.out.2.2.1.last0 HH.out.2.2.1.lastS hm H4.out.1.store.last (H4.out.1.store.frozen 2);go_wp2_with fail
  refine HP4.mono ?_;clear HP4;rintro e w9 (⟨hp,rfl,rfl⟩|⟨l,hp,rfl,rfl⟩)
  .have hn:dh st tm s=none:=by simp [dh,t1,hp]
   have HR:Hid (dh st tm s=none):=hn;clear hn hp;go_wp2;go_ret;exact ⟨H4.out.2.1,.inl ⟨HR.out,rfl⟩⟩
  .have HLL:Hid (jm A (w4.setCell ⟨k,2,none⟩ (.int .i64 l)) k r (lastSt st l) tm (txR (txR (rsB (rsB s 1) 8)))/\Two2 k r w (w4.setCell ⟨k,2,none⟩ (.int .i64 l))/\Inv (lastSt st l) 0/\dW (lastSt st l)):=⟨H4.out.1.setLast l,H4.out.2.1.trans (qh 2 _),HH.out.2.2.1.lastSt (fv hp).1 (fv hp).2,HH.out.2.2.2.lastSt l⟩;have HR:Hid (dh st tm s=if (jn (lastSt st l) (txB (rsB (rsB s 1) 8)) (txB (txR (rsB (rsB s 1) 8)))).2.2=0 then some ((jn (lastSt st l) (txB (rsB (rsB s 1) 8)) (txB (txR (rsB (rsB s 1) 8)))).1,tm,(txR (txR (rsB (rsB s 1) 8)))) else none):=show dh st tm s=_ by simp [dh,t1,hp]
   clear hp;generalize w4.setCell ⟨k,2,none⟩ (.int .i64 l)=w5 at *;go_wp2_with fail
   refine (vo A k (lastSt st l) 0 (txB (rsB (rsB s 1) 8)) (txB (txR (rsB (rsB s 1) 8))) w5 (lT (qi _) (by decide)) (lT (qi _) (by decide)) HLL.out.1.store HLL.out.2.2.1 (by omega)).mono ?_;rintro e w6 ⟨rfl,S6,g6⟩;have HV:=vJ HLL.out.2.2.1 HLL.out.2.2.2 (txB (rsB (rsB s 1) 8)) (txB (txR (rsB (rsB s 1) 8)));have H6:Hid (jm (Grow A w5) w6 k r (jn (lastSt st l) (txB (rsB (rsB s 1) 8)) (txB (txR (rsB (rsB s 1) 8)))).1 tm (txR (txR (rsB (rsB s 1) 8)))/\Two2 k r w w6/\Inv (jn (lastSt st l) (txB (rsB (rsB s 1) 8)) (txB (txR (rsB (rsB s 1) 8)))).1 0/\dW (jn (lastSt st l) (txB (rsB (rsB s 1) 8)) (txB (txR (rsB (rsB s 1) 8)))).1):=⟨HLL.out.1.grow S6 g6,HLL.out.2.1.trans g6.two,HV.1.norm HV.2,HV.2⟩;have HGW:Hid (w.heap.size<=w5.heap.size):=HLL.out.2.1.size;clear S6 g6 HV;generalize jn (lastSt st l) (txB (rsB (rsB s 1) 8)) (txB (txR (rsB (rsB s 1) 8)))=R at *;obtain ⟨st6,v6,c6⟩:=R;go_wp2_with fail
   refine (si _ _ w6).mono ?_;rintro e w7 ⟨rfl,h7⟩;obtain rfl:=h7.symm;clear h7;go_wp2_with fail
   go_ret;refine ⟨H6.out.2.1,?_⟩;by_cases hc:c6=0
   .refine .inr ⟨st6,tm,_,?_,by simp [hc],Grow A w5,fun b hb=>?_,H6.out.1,H6.out.2.2.1,H6.out.2.2.2⟩
    .rw [HR.out,if_pos hc]
    .rcases hb with ⟨hb,-⟩|hb
     .exact .inl hb
     .have:=HGW.out;exact .inr (by omega)
   .refine .inl ⟨?_,by simp [hc]⟩;rw [HR.out,if_neg hc]
 by_cases t2:txL s=2
 .have HN2:=fZ r 8 (rsB s 1) w1 H1.out.2.2 (by omega) H1.out.1.rd H1.out.1.fz;go_wp2_with fail
  refine HN2.mono ?_;rintro e w2 ⟨rfl,r2⟩;have em:qm (tkB (rsB s 1) 8).data.toList=nm8 (rsB s 1):=rfl;rw [em];have H2:Hid (jm A w2 k r st tm (rsB (rsB s 1) 8)/\Two2 k r w w2/\(rsB (rsB s 1) 8).size<=maxLen):=⟨H1.out.1.rdTo r2,H1.out.2.1.trans r2.two,lT (cy _ _) H1.out.2.2⟩;have hm:=vK (rsB s 1);clear r2 HN2 em;have HT2:=uw r (rsB (rsB s 1) 8) w2 H2.out.2.2 H2.out.1.rd H2.out.1.fz;go_wp2_with fail
  refine HT2.mono ?_;rintro e w3 ⟨rfl,r3⟩;have H3:Hid (jm A w3 k r st tm (txR (rsB (rsB s 1) 8))/\Two2 k r w w3/\(txR (rsB (rsB s 1) 8)).size<=maxLen):=⟨H2.out.1.rdTo r3,H2.out.2.1.trans r3.two,lT (cy _ _) (lT (cy _ _) H2.out.2.2)⟩;have et3:tkB (rsB (rsB (rsB s 1) 8) 1) (txL (rsB (rsB s 1) 8))=txB (rsB (rsB s 1) 8):=rfl;rw [et3];clear r3 HT2 et3;have HP3:=nI k (nm8 (rsB s 1)) st.last w3 HH.out.2.2.1.last0 HH.out.2.2.1.lastS hm H3.out.1.store.last (H3.out.1.store.frozen 2);go_wp2_with fail
  refine HP3.mono ?_;clear HP3;rintro e w9 (⟨hp,rfl,rfl⟩|⟨l,hp,rfl,rfl⟩)
  .have hn:dh st tm s=none:=by simp [dh,t2,hp]
   have HR:Hid (dh st tm s=none):=hn;clear hn hp;go_wp2;go_ret;exact ⟨H3.out.2.1,.inl ⟨HR.out,rfl⟩⟩
  .have HLL:Hid (jm A (w3.setCell ⟨k,2,none⟩ (.int .i64 l)) k r (lastSt st l) tm (txR (rsB (rsB s 1) 8))/\Two2 k r w (w3.setCell ⟨k,2,none⟩ (.int .i64 l))/\Inv (lastSt st l) 0/\dW (lastSt st l)):=⟨H3.out.1.setLast l,H3.out.2.1.trans (qh 2 _),HH.out.2.2.1.lastSt (fv hp).1 (fv hp).2,HH.out.2.2.2.lastSt l⟩;have HR:Hid (dh st tm s=if (dH (lastSt st l) (txB (rsB (rsB s 1) 8))).2.2=0 then some ((dH (lastSt st l) (txB (rsB (rsB s 1) 8))).1,tm,(txR (rsB (rsB s 1) 8))) else none):=show dh st tm s=_ by simp [dh,t2,hp]
   clear hp;generalize w3.setCell ⟨k,2,none⟩ (.int .i64 l)=w5 at *;go_wp2_with fail
   refine (rP A k (lastSt st l) 0 (txB (rsB (rsB s 1) 8)) w5 (lT (qi _) (by decide)) HLL.out.1.store HLL.out.2.2.1 (by omega)).mono ?_;rintro e w6 ⟨rfl,S6,g6⟩;have HV:=sg HLL.out.2.2.1 HLL.out.2.2.2 (txB (rsB (rsB s 1) 8));have H6:Hid (jm (Grow A w5) w6 k r (dH (lastSt st l) (txB (rsB (rsB s 1) 8))).1 tm (txR (rsB (rsB s 1) 8))/\Two2 k r w w6/\Inv (dH (lastSt st l) (txB (rsB (rsB s 1) 8))).1 0/\dW (dH (lastSt st l) (txB (rsB (rsB s 1) 8))).1):=⟨HLL.out.1.grow S6 g6,HLL.out.2.1.trans g6.two,HV.1.norm HV.2,HV.2⟩;have HGW:Hid (w.heap.size<=w5.heap.size):=HLL.out.2.1.size;clear S6 g6 HV;generalize dH (lastSt st l) (txB (rsB (rsB s 1) 8))=R at *;obtain ⟨st6,v6,c6⟩:=R;go_wp2_with fail
   refine (si _ _ w6).mono ?_;rintro e w7 ⟨rfl,h7⟩;obtain rfl:=h7.symm;clear h7;go_wp2_with fail
   go_ret;refine ⟨H6.out.2.1,?_⟩;by_cases hc:c6=0
   .refine .inr ⟨st6,tm,_,?_,by simp [hc],Grow A w5,fun b hb=>?_,H6.out.1,H6.out.2.2.1,H6.out.2.2.2⟩
    .rw [HR.out,if_pos hc]
    .rcases hb with ⟨hb,-⟩|hb
     .exact .inl hb
     .have:=HGW.out;exact .inr (by omega)
   .refine .inl ⟨?_,by simp [hc]⟩;rw [HR.out,if_neg hc]
 by_cases t3:txL s=3
 .have HN2:=fZ r 8 (rsB s 1) w1 H1.out.2.2 (by omega) H1.out.1.rd H1.out.1.fz;go_wp2_with fail
  refine HN2.mono ?_;rintro e w2 ⟨rfl,r2⟩;have em:qm (tkB (rsB s 1) 8).data.toList=nm8 (rsB s 1):=rfl;rw [em];have H2:Hid (jm A w2 k r st tm (rsB (rsB s 1) 8)/\Two2 k r w w2/\(rsB (rsB s 1) 8).size<=maxLen):=⟨H1.out.1.rdTo r2,H1.out.2.1.trans r2.two,lT (cy _ _) H1.out.2.2⟩;have hm:=vK (rsB s 1);clear r2 HN2 em;have HP2:=nI k (nm8 (rsB s 1)) st.last w2 HH.out.2.2.1.last0 HH.out.2.2.1.lastS hm H2.out.1.store.last (H2.out.1.store.frozen 2);go_wp2_with fail
  refine HP2.mono ?_;clear HP2;rintro e w9 (⟨hp,rfl,rfl⟩|⟨l,hp,rfl,rfl⟩)
  .have hn:dh st tm s=none:=by simp [dh,t3,hp]
   have HR:Hid (dh st tm s=none):=hn;clear hn hp;go_wp2;go_ret;exact ⟨H2.out.2.1,.inl ⟨HR.out,rfl⟩⟩
  .have HR:Hid (dh st tm s=some (lastSt st l,tm,rsB (rsB s 1) 8)):=show dh st tm s=_ by simp [dh,t3,hp]
   have HLL:Hid (jm A (w2.setCell ⟨k,2,none⟩ (.int .i64 l)) k r (lastSt st l) tm (rsB (rsB s 1) 8)/\Two2 k r w (w2.setCell ⟨k,2,none⟩ (.int .i64 l))/\Inv (lastSt st l) 0/\dW (lastSt st l)):=⟨H2.out.1.setLast l,H2.out.2.1.trans (qh 2 _),HH.out.2.2.1.lastSt (fv hp).1 (fv hp).2,HH.out.2.2.2.lastSt l⟩;clear hp;go_wp2_with fail
   go_ret;exact ⟨HLL.out.2.1,.inr ⟨_,_,_,HR.out,rfl,A,fun b h=>.inl h,HLL.out.1,HLL.out.2.2.1,HLL.out.2.2.2⟩⟩
 by_cases t4:txL s=4
 .have HN2:=fZ r 8 (rsB s 1) w1 H1.out.2.2 (by omega) H1.out.1.rd H1.out.1.fz;go_wp2_with fail
  refine HN2.mono ?_;rintro e w2 ⟨rfl,r2⟩;have em:qm (tkB (rsB s 1) 8).data.toList=nm8 (rsB s 1):=rfl;rw [em];have H2:Hid (jm A w2 k r st tm (rsB (rsB s 1) 8)/\Two2 k r w w2/\(rsB (rsB s 1) 8).size<=maxLen):=⟨H1.out.1.rdTo r2,H1.out.2.1.trans r2.two,lT (cy _ _) H1.out.2.2⟩;have hm:=vK (rsB s 1);clear r2 HN2 em;have HR:Hid (dh st tm s=some (st,((nm8 (rsB s 1):Nat):Int),rsB (rsB s 1) 8)):=show dh st tm s=_ by simp [dh,t4]
  have c3:=H2.out.1.time;have f3:=H2.out.1.store.frozen 3;go_wp2_with fail
  go_ret;exact ⟨H2.out.2.1.trans (qh 3 _),.inr ⟨_,_,_,HR.out,rfl,A,fun b h=>.inl h,H2.out.1.setTime _,HH.out.2.2.1,HH.out.2.2.2⟩⟩
 .have hn:dh st tm s=none:=by simp [dh,t1,t2,t3,t4]
  have HR:Hid (dh st tm s=none):=hn;clear hn;generalize txL s=t at *;go_wp2;go_ret;exact ⟨H1.out.2.1,.inl ⟨HR.out,rfl⟩⟩
def kJ:Nat->St->Int->ByteArray->Option (St×Int)
 | 0,_,_,_=>none
 |n+1,st,tm,s=>if s.size=0 then some (st,tm) else match dh st tm s with
  |none=>none
  |some x=>kJ n x.1 x.2.1 x.2.2
def iv (saved:ByteArray):Option (St×Int):=match kJ (saved.size+1) st0 0 saved with
 |none=>none
 |some x=>if jl x.1 x.2=saved then some x else none
theorem CC (s:ByteArray)(n:Nat)(hn:0<n)(hs:s.size≠0):(rsB s n).size<s.size:=by
 have:(rsB s n).size=s.size-min n s.size:=by simp [rsB]
 omega
theorem Au {st:St}{tm:Int}{s:ByteArray}{x:St×Int×ByteArray}(hs:s.size≠0)(h:dh st tm s=some x):x.2.2.size<s.size:=by
 have h1:=CC s 1 (by omega) hs;have h2:=cy (rsB s 1) 8;have h3:∀s,(txR s).size<=s.size:=fun s=>lT (cy _ _) (cy _ _)
 have h4:=h3 (rsB (rsB s 1) 8);have h5:=h3 (txR (rsB (rsB s 1) 8));unfold dh at h
 repeat' split at h
 all_goals first
  |(exfalso;revert h;simp;done)
  |(have e:=oJ h;rw [<-e];dsimp only;omega)
theorem xR {t:ByteArray}(h:t≠⟨#[]⟩):t.toList.isEmpty=false:=by
 rw [ByteArray.toList_eq];cases e:t.data.toList with
 |nil=>exact absurd (ByteArray.ext (Array.toList_inj.1 (e.trans rfl))) h
 |cons a r=>rfl
def FK (w:Wz)(r:Nat):Nat:=match w.cell? ⟨r,0,none⟩ with
 |some (.string s)=>s.size
 |_=>0
theorem Av (w:Wz):(Instr.build 59 #[]).run Yq.prog w=.ok (.agg #[.pointer none,.int .i64 0,.int .i64 0,.int .u64 0]) w:=by kernel_rfl
theorem CD (s:ByteArray)(w:Wz):(Instr.build 176 #[(0,.string s)]).run Yq.prog w=.ok (.agg #[.string s]) w:=by kernel_rfl
def CE (saved:ByteArray)(w:Wz)(e:Ending)(w':Wz):Prop:=
 ak w w'/\((iv saved=none/\e=.returned (.tuple #[.agg #[.pointer none,.int .i64 0,.int .i64 0,.int .u64 0],.int .i64 12])) \/
  ∃ (st:St) (tm:Int) (p:Option Addr) (A:Nat->Prop),iv saved=some (st,tm)/\e=.returned (.tuple #[.agg #[.pointer p,.int .i64 st.count,.int .i64 st.last,.int .u64 tm],.int .i64 0])/\ai A 41 w' p st.f/\(∀b,A b->w.heap.size<=b)/\Inv st 0/\dW st)
structure LdI (saved:ByteArray)(W wr:Wz)(k r:Nat)(A:Nat->Prop)(st:St)(tm:Int)(s:ByteArray)(n:Nat):Prop where
 ld:jm A wr k r st tm s
 size:s.size<=maxLen
 fuel:s.size<n
 eq:kJ n st tm s=kJ (saved.size+1) st0 0 saved
 inv:Inv st 0
 invT:dW st
 two:Two2 k r W wr
 far:∀b,A b->W.heap.size<=b
theorem CF (w:Wz)(x y z:Array Wq)(T U V:Wk)(j:Nat):(((w.alloc (.cells x T)).alloc (.cells y U)).alloc (.cells z V)).cell? ⟨w.heap.size,j,none⟩=x[j]?/\(((w.alloc (.cells x T)).alloc (.cells y U)).alloc (.cells z V)).frozen? ⟨w.heap.size,j,none⟩=false:=by
 have hb:(((w.alloc (.cells x T)).alloc (.cells y U)).alloc (.cells z V)).heap[w.heap.size]?=(w.alloc (.cells x T)).heap[w.heap.size]?:=by
  rw [bA _ _ _ (by simp;omega),bA _ _ _ (by simp)]
 exact ⟨(cB (a:=⟨w.heap.size,j,none⟩) hb).trans (iF w _ _ j),(fB (a:=⟨w.heap.size,j,none⟩) hb).trans (World.frozen?_alloc_at (w:=w) _ _ w.heap.size j rfl)⟩
theorem Aw (w:Wz)(x y z:Array Wq)(T U V:Wk)(j:Nat):(((w.alloc (.cells x T)).alloc (.cells y U)).alloc (.cells z V)).cell? ⟨w.heap.size+1,j,none⟩=y[j]?/\(((w.alloc (.cells x T)).alloc (.cells y U)).alloc (.cells z V)).frozen? ⟨w.heap.size+1,j,none⟩=false:=by
 have e:(w.alloc (.cells x T)).heap.size=w.heap.size+1:=by simp
 have hb:(((w.alloc (.cells x T)).alloc (.cells y U)).alloc (.cells z V)).heap[w.heap.size+1]?=((w.alloc (.cells x T)).alloc (.cells y U)).heap[w.heap.size+1]?:=by
  rw [bA _ _ _ (by simp)]
 have h1:=iF (w.alloc (.cells x T)) y U j;have h2:=World.frozen?_alloc_at (w:=w.alloc (.cells x T)) y U (w.alloc (.cells x T)).heap.size j rfl;rw [e] at h1 h2;exact ⟨(cB (a:=⟨w.heap.size+1,j,none⟩) hb).trans h1,(fB (a:=⟨w.heap.size+1,j,none⟩) hb).trans h2⟩
theorem CG (w:Wz)(x y z:Array Wq)(T U V:Wk)(j:Nat):(((w.alloc (.cells x T)).alloc (.cells y U)).alloc (.cells z V)).cell? ⟨w.heap.size+1+1,j,none⟩=z[j]?/\(((w.alloc (.cells x T)).alloc (.cells y U)).alloc (.cells z V)).frozen? ⟨w.heap.size+1+1,j,none⟩=false:=by
 have e:((w.alloc (.cells x T)).alloc (.cells y U)).heap.size=w.heap.size+1+1:=by simp
 have h1:=iF ((w.alloc (.cells x T)).alloc (.cells y U)) z V j;have h2:=World.frozen?_alloc_at (w:=(w.alloc (.cells x T)).alloc (.cells y U)) z V ((w.alloc (.cells x T)).alloc (.cells y U)).heap.size j rfl;rw [e] at h1 h2;exact ⟨h1,h2⟩
theorem EG (saved:ByteArray)(w:Wz)(hs:saved.size<=maxLen):Calls Yq.prog 79 #[.string saved] w (CE saved w):=by
 have hb1:=Av;have hb2:=CD;have HS:Hid (saved.size<=maxLen):=hs;clear hs;go_enter (Yq.nq Tryz.func79),Tryz.ntmps79;go_wp2_with fail
 obtain ⟨t,ht⟩:∃t,t=w.heap.size:=⟨_,rfl⟩;obtain ⟨W3,hW3⟩:∃W3,W3=((w.alloc (.cells #[.pointer none,.int .i64 0,.int .i64 0,.int .u64 0] 59)).alloc (.cells #[.pointer none,.int .i64 0,.int .i64 0,.int .u64 0] 59)).alloc (.cells #[.string saved] 176):=⟨_,rfl⟩;rw [<-hW3,<-ht];have HL3:Hid (ak w W3/\W3.heap.size=t+3/\t=w.heap.size):=⟨by rw [hW3];exact ((ak.refl.alloc _).alloc _).alloc _,by rw [hW3,ht];simp,ht⟩;have hb0:∀j,W3.cell? ⟨t,j,none⟩=(#[.pointer none,.int .i64 0,.int .i64 0,.int .u64 0]:Array Wq)[j]?/\W3.frozen? ⟨t,j,none⟩=false:=fun j=>by
  rw [hW3,ht];exact CF w _ _ _ _ _ _ j
 have hb1':∀j,W3.cell? ⟨t+1,j,none⟩=(#[.pointer none,.int .i64 0,.int .i64 0,.int .u64 0]:Array Wq)[j]?/\W3.frozen? ⟨t+1,j,none⟩=false:=fun j=>by
  rw [hW3,ht];exact Aw w _ _ _ _ _ _ j
 have hb2':∀j,W3.cell? ⟨t+1+1,j,none⟩=(#[.string saved]:Array Wq)[j]?/\W3.frozen? ⟨t+1+1,j,none⟩=false:=fun j=>by
  rw [hW3,ht];exact CG w _ _ _ _ _ _ j
 have HI0:Hid (LdI saved W3 W3 (t+1) (t+1+1) (fun _=>False) st0 0 saved (saved.size+1)):=
  ⟨⟨⟨fun _ h=>h.elim,⟨none,(hb1' 0).1,ai.nil (fun _=>rfl)⟩,(hb1' 1).1,(hb1' 2).1,fun j=>(hb1' j).2⟩,(hb1' 3).1,(hb2' 0).1,(hb2' 0).2,by omega,fun h=>h⟩,HS.out,by omega,rfl,inv0,Eh,Two2.refl,fun _ h=>h.elim⟩
 have HZ:Hid (∀j,W3.cell? ⟨t,j,none⟩=(#[.pointer none,.int .i64 0,.int .i64 0,.int .u64 0]:Array Wq)[j]?/\W3.frozen? ⟨t,j,none⟩=false):=hb0;clear hb0 hb1' hb2' hW3 ht
 go_loopw [8] (fun _ wr=>∃ (A:Nat->Prop) (st:St) (tm:Int) (s:ByteArray) (n:Nat),LdI saved W3 wr (t+1) (t+1+1) A st tm s n) (fun _ wr=>FK wr (t+1+1))
 case atStart=>exact ⟨_,_,_,_,_,HI0.out⟩
 case round=>
  obtain ⟨A,st,tm,s,n,hL⟩:=hrel;have HLD:Hid (LdI saved W3 wr (t+1) (t+1+1) A st tm s n):=hL;have c0:=hL.ld.rd;clear hL HI0;by_cases h0:s.size=0
  .obtain rfl:s=⟨#[]⟩:=ByteArray.ext (Array.toList_inj.1 (List.eq_nil_of_length_eq_zero (by simpa using h0)));clear h0;go_wp2_with fail
   refine (Ap HLD.out.ld.store HLD.out.ld.time HLD.out.inv HLD.out.invT).mono ?_;rintro e w1 ⟨rfl,l1⟩;have hbt:w1.heap[t]?=W3.heap[t]?:=by
    have h1:=HL3.out.2.1;have h2:=HLD.out.two.size;rw [l1.block t (by omega),HLD.out.two.block t (by omega) (by omega) (by omega)]
   have hz:∀j,w1.cell? ⟨t,j,none⟩=(#[.pointer none,.int .i64 0,.int .i64 0,.int .u64 0]:Array Wq)[j]?/\w1.frozen? ⟨t,j,none⟩=false:=fun j=>⟨(cB (a:=⟨t,j,none⟩) hbt).trans (HZ.out j).1,(fB (a:=⟨t,j,none⟩) hbt).trans (HZ.out j).2⟩
   obtain ⟨z0,y0⟩:=hz 0;obtain ⟨z1,y1⟩:=hz 1;obtain ⟨z2,y2⟩:=hz 2;obtain ⟨z3,y3⟩:=hz 3;simp only [gA,gZ,gS] at z0 z1 z2 z3;obtain ⟨p,C,hN⟩:=HLD.out.ld.store.cells;have e0:=l1.cell C.c0;have e1:=l1.cell C.c1;have e2:=l1.cell C.c2;have e3:=l1.cell HLD.out.ld.time;have HN:Hid (ai A 41 wr p st.f/\ak wr w1):=⟨hN,l1⟩;have HLW:Hid (∀x0 x1 x2 x3,ak w ((((w1.setCell ⟨t,0,none⟩ x0).setCell ⟨t,1,none⟩ x1).setCell ⟨t,2,none⟩ x2).setCell ⟨t,3,none⟩ x3)):=fun x0 x1 x2 x3=>by
    have h1:=HL3.out;have h2:=HLD.out.two;have hl:ak w w1:=⟨l1.os.trans (h2.os.trans h1.1.os),lT h1.1.size (lT h2.size l1.size),fun b hb=>by
     rw [l1.block b (by have:=h1.1.size;have:=h2.size;omega),h2.block b (by have:=h1.1.size;omega) (by omega) (by omega),h1.1.block b hb]⟩
    exact (((hl.set (by omega) _ _).set (by omega) _ _).set (by omega) _ _).set (by omega) _ _
   have HEQ:Hid (kJ (saved.size+1) st0 0 saved=some (st,tm)):=by
    show kJ (saved.size+1) st0 0 saved=some (st,tm);rw [<-HLD.out.eq];have:=HLD.out.fuel;obtain ⟨m,rfl⟩:∃m,n=m+1:=⟨n-1,by omega⟩;rw [kJ,if_pos (by decide)]
   clear hz hbt C hN l1 HZ;by_cases heq:jl st tm=saved
   .have HF:Hid (iv saved=some (st,tm)):=by show iv saved=some (st,tm);rw [iv,HEQ.out];simp [heq]
    rw [heq];go_wp2_with fail
    refine bodyPost_ret (v:=.tuple #[.agg #[.pointer p,.int .i64 st.count,.int .i64 st.last,.int .u64 tm],.int .i64 0]) (by simp [results,Tryz.results79,go_sem,z0,z1,z2,z3]) rfl ⟨HLW.out _ _ _ _,.inr ⟨st,tm,p,A,HF.out,rfl,?_,fun b hb=>?_,HLD.out.inv,HLD.out.invT⟩⟩
    .have h1:=HL3.out;have h2:=HLD.out;refine ai.keep (fun b hb hlt=>⟨hb,?_⟩) 41 _ _ HN.out.1;have hbt:b≠t:=by have:=h2.far b hb;omega
     rw [bS _ _ _ _ hbt,bS _ _ _ _ hbt,bS _ _ _ _ hbt,bS _ _ _ _ hbt];exact HN.out.2.block b hlt
    .have h1:=HL3.out;have:=HLD.out.far b hb;omega
   .have HF:Hid (iv saved=none):=by show iv saved=none;rw [iv,HEQ.out];simp [heq]
    have hne':¬(jl st tm).toList=saved.toList:=fun e=>heq (ByteArray.ext (Array.toList_inj.1 (by rw [<-ByteArray.toList_eq,<-ByteArray.toList_eq];exact e)))
    have hne:((jl st tm).toList==saved.toList)=false:=by simpa using hne'
    clear hne';clear heq;generalize jl st tm=sb at *;go_wp2_with fail
    exact bodyPost_ret (v:=.tuple #[.agg #[.pointer none,.int .i64 0,.int .i64 0,.int .u64 0],.int .i64 12]) (by simp [results,Tryz.results79,go_sem,z0,z1,z2,z3]) rfl ⟨HLW.out _ _ _ _,.inl ⟨HF.out,rfl⟩⟩
  .have hem:=xR (t:=s) (fun e=>h0 (by rw [e];rfl));have HNZ:Hid (s.size≠0):=h0;clear h0;go_wp2_with fail
   refine (EF HLD.out.ld HLD.out.size HLD.out.inv HLD.out.invT).mono ?_;rintro e w1 ⟨t1,⟨hp,rfl⟩|⟨st',tm',s',hp,rfl,A',hA',ld',i',j'⟩⟩
   .have HF:Hid (iv saved=none):=by
     show iv saved=none;rw [iv,<-HLD.out.eq];have:=HLD.out.fuel;obtain ⟨m,rfl⟩:∃m,n=m+1:=⟨n-1,by omega⟩;rw [kJ,if_neg HNZ.out,hp]
    have hbt:w1.heap[t]?=W3.heap[t]?:=by
     have h1:=HL3.out.2.1;have h2:=HLD.out.two.size;rw [t1.block t (by omega) (by omega) (by omega),HLD.out.two.block t (by omega) (by omega) (by omega)]
    have hz:∀j,w1.cell? ⟨t,j,none⟩=(#[.pointer none,.int .i64 0,.int .i64 0,.int .u64 0]:Array Wq)[j]?/\w1.frozen? ⟨t,j,none⟩=false:=fun j=>⟨(cB (a:=⟨t,j,none⟩) hbt).trans (HZ.out j).1,(fB (a:=⟨t,j,none⟩) hbt).trans (HZ.out j).2⟩
    obtain ⟨z0,y0⟩:=hz 0;obtain ⟨z1,y1⟩:=hz 1;obtain ⟨z2,y2⟩:=hz 2;obtain ⟨z3,y3⟩:=hz 3;simp only [gA,gZ,gS] at z0 z1 z2 z3;have HLW:Hid (∀x0 x1 x2 x3,ak w ((((w1.setCell ⟨t,0,none⟩ x0).setCell ⟨t,1,none⟩ x1).setCell ⟨t,2,none⟩ x2).setCell ⟨t,3,none⟩ x3)):=fun x0 x1 x2 x3=>by
     have h1:=HL3.out;have h2:=HLD.out.two;have hl:ak w w1:=⟨t1.os.trans (h2.os.trans h1.1.os),lT h1.1.size (lT h2.size t1.size),fun b hb=>by
      rw [t1.block b (by have:=h1.1.size;have:=h2.size;omega) (by omega) (by omega),h2.block b (by have:=h1.1.size;omega) (by omega) (by omega),h1.1.block b hb]⟩
     exact (((hl.set (by omega) _ _).set (by omega) _ _).set (by omega) _ _).set (by omega) _ _
    clear hz hbt hp t1 HZ;go_wp2_with fail
    exact bodyPost_ret (v:=.tuple #[.agg #[.pointer none,.int .i64 0,.int .i64 0,.int .u64 0],.int .i64 12]) (by simp [results,Tryz.results79,go_sem,z0,z1,z2,z3]) rfl ⟨HLW.out _ _ _ _,.inl ⟨HF.out,rfl⟩⟩
   .have HNX:Hid ((∃A st tm s n,LdI saved W3 w1 (t+1) (t+1+1) A st tm s n)/\FK w1 (t+1+1)<FK wr (t+1+1)):=by
     have hls:=Au HNZ.out hp;simp only at hls;have h:=HLD.out;have hf:=h.fuel;have hsz:=h.size;obtain ⟨m,rfl⟩:∃m,n=m+1:=⟨n-1,by omega⟩;refine ⟨⟨A',st',tm',s',m,ld',by omega,by omega,?_,i',j',h.two.trans t1,fun b hb=>?_⟩,?_⟩
     .have:=h.eq;rw [kJ,if_neg HNZ.out,hp] at this;exact this
     .rcases hA' b hb with h1|h1
      .exact h.far b h1
      .have:=h.two.size;omega
     .simp only [FK,ld'.rd,h.ld.rd];exact hls
    clear hp t1 hA' ld' i' j';go_wp2_with fail
    exact HNX.out
def dx (ks:List Int)(bs:List ByteArray)(src:Int)(body:ByteArray):ByteArray:=
 if 0<=src/\src<bs.length then (if ks[src.toNat]?.getD 0=11 then bs[src.toNat]?.getD ⟨#[]⟩ else body) else body
def cG (st:St)(L:Lg)(b:ByteArray):St×Lg×iu:=match iv b with
 |none=>(st,L,⟨12,0,⟨#[]⟩,[],⟨#[]⟩⟩)
 |some x=>(x.1,{L with opened:=[],tm:=x.2},⟨0,0,⟨#[]⟩,[],⟨#[]⟩⟩)
theorem Ax {st:St}{tm:Int}{s:ByteArray}{x:St×Int×ByteArray}(hI:Inv st 0)(hT:dW st)(h:dh st tm s=some x):Inv x.1 0/\dW x.1:=by
 have hl:∀l,qg st.last (nm8 (rsB s 1))=some l->Inv (lastSt st l) 0/\dW (lastSt st l):=fun l e=>⟨hI.lastSt (fv e).1 (fv e).2,hT.lastSt l⟩
 unfold dh at h;split at h
 .split at h
  .exact absurd h (by simp)
  .rename_i l e;split at h
   .rw [<-oJ h];dsimp only;have:=vJ (hl l e).1 (hl l e).2 (txB (rsB (rsB s 1) 8)) (txB (txR (rsB (rsB s 1) 8)));exact ⟨this.1.norm this.2,this.2⟩
   .exact absurd h (by simp)
 .split at h
  .split at h
   .exact absurd h (by simp)
   .rename_i l e;split at h
    .rw [<-oJ h];dsimp only;have:=sg (hl l e).1 (hl l e).2 (txB (rsB (rsB s 1) 8));exact ⟨this.1.norm this.2,this.2⟩
    .exact absurd h (by simp)
  .split at h
   .split at h
    .exact absurd h (by simp)
    .rename_i l e;rw [<-oJ h];dsimp only;exact hl l e
   .split at h
    .rw [<-oJ h];dsimp only;exact ⟨hI,hT⟩
    .exact absurd h (by simp)
theorem sj:∀ (n:Nat)(st:St)(tm:Int)(s:ByteArray)(x:St×Int),Inv st 0->dW st->kJ n st tm s=some x->Inv x.1 0/\dW x.1
 | 0,_,_,_,_,_,_,h=>by simp [kJ] at h
 |n+1,st,tm,s,x,hI,hT,h=>by
  unfold kJ at h;split at h
  .cases h;exact ⟨hI,hT⟩
  .split at h
   .exact absurd h (by simp)
   .rename_i y e;have:=Ax hI hT e;exact sj n _ _ _ x this.1 this.2 h
theorem xS {b:ByteArray}{x:St×Int}(h:iv b=some x):kJ (b.size+1) st0 0 b=some x/\jl x.1 x.2=b:=by
 unfold iv at h;split at h
 .exact absurd h (by simp)
 .rename_i y e;split at h
  .rename_i hs;cases h;exact ⟨e,hs⟩
  .exact absurd h (by simp)
theorem Ay {b:ByteArray}{x:St×Int}(h:iv b=some x):Inv x.1 0/\dW x.1:=
 sj _ _ _ _ x inv0 Eh (xS h).1
theorem sk (xs:List Wq):(bytesOf xs).size=xs.length:=by simp [bytesOf,ByteArray.size]
theorem CH (k:ByteArray)(v:Ver):(Ae k v).length=uq k v:=by
 unfold Ae uq;split
 .simp only [lP,lS,pY,r8];omega
 .simp only [lP,lS,pY,r8];omega
theorem Az (E:List (ByteArray×Ver)):(fV E).length=dg E:=by
 induction E with
 |nil=>rfl
 |cons e E ih=>
  simp only [fV,dg,List.flatMap_cons,lP,List.map_cons,List.sum_cons] at ih ⊢;rw [ih,CH]
theorem xT {st:St}(hT:dW st):(jQ st).length<=200:=by
 have h3:fT (cF st.f [])=tot 41 st.f:=rfl;have:=hT.cnt;have:=hT.le;rw [jQ,fX,jP];omega
theorem xU {st:St}(hT:dW st)(tm:Int):(jl st tm).size<=maxLen:=by
 have hn:=se (E:=jQ st) fun e he=>⟨(fY he).1,by obtain ⟨k,hk⟩:=(fY he).2;exact hT.body k _ hk⟩
 have hl:=xT hT;rw [jl,sk];simp only [lP,lS,pY,Az,maxLen];omega
structure Db (w:Wz)(k0 g0 s:Nat)(ks:List Int)(bs:List ByteArray):Prop where
 kl:ks.length=s
 bl:bs.length=s
 small:∀b∈bs,b.size<=maxLen
 script:∃sb so sn sc,w.cell? ⟨k0,7,none⟩=some (.slice (some ⟨sb,so,none⟩) sn sc)/\s<=sn/\∀i (hi:i<ks.length),w.cell? ⟨sb,so+i * 7,none⟩=some (.int .i64 ks[i])
 bodies:∀i (hi:i<bs.length),w.cell? ⟨g0,i * 5+2,none⟩=some (.string bs[i])
theorem Db.left {w w':Wz}{k0 g0 s:Nat}{ks:List Int}{bs:List ByteArray}(h:Db w k0 g0 s ks bs)(hl:ak w w'):Db w' k0 g0 s ks bs:=by
 obtain ⟨sb,so,sn,sc,h1,h2,h3⟩:=h.script;exact ⟨h.kl,h.bl,h.small,⟨sb,so,sn,sc,hl.cell h1,h2,fun i hi=>hl.cell (h3 i hi)⟩,fun i hi=>hl.cell (h.bodies i hi)⟩
section
variable {A:Nat->Prop} {B k0:Nat} {w:Wz} {st:St} {L:Lg}
theorem sp (h:aG A B w k0 st L)(hB:B<=w.heap.size)(hop:L.opened.length<=3)(o:OpD)(hk:o.kind=10):
  Calls Yq.prog 33 #[.pointer (some ⟨k0,0,none⟩),cj o] w (bc A B k0 w st L ⟨0,st.count,⟨#[]⟩,L.opened.map iR,⟨#[]⟩⟩):=by
 have hd0:aG A B (cu w o).drew k0 st L:=h.left ((aJ o).drew);have HT:=zT (cu w o).drew hd0.ls hop;have HN:=Cm k0 st.count (cu w o).drew hd0.store.count;obtain ⟨its,hits⟩:∃its,its=L.opened.map iR:=⟨_,rfl⟩;rw [<-hits] at HT ⊢;have hLd:ak (cu w o) (cu w o).drew:=ak.refl.drew;have hkw:k0<(cu w o).heap.size:=by have:=h.ls.lt;rw [aK];omega
 have HB:Hid (∀w1,Below (cu w o).drew.heap.size (cu w o).drew w1->_):=fun w1 hb=>box5 (jN o h.ls (FrC.left hkw (hLd.trans (.below hb))))
 have HF:Hid (∀w1 so sn sc x0 x1 x2 x3 x4,Below (cu w o).drew.heap.size (cu w o).drew w1->w1.ownsRow (cu w o).drew.heap.size 41 3 (.slice so sn sc) its.length (ax its)->bc A B k0 w st L ⟨0,st.count,⟨#[]⟩,its,⟨#[]⟩⟩ (.returned (iH ⟨0,st.count,⟨#[]⟩,its,⟨#[]⟩⟩ (.slice so sn sc))) (put5 w1 (w.heap.size+1) x0 x1 x2 x3 x4)):=fun w1 so sn sc x0 x1 x2 x3 x4 hb hrow=>by
  have hl:ak (cu w o) w1:=hLd.trans (.below hb);obtain ⟨A',a1,a2,a3,a4,a5,a6⟩:=aY.page (h.ls.left (aJ o)) hl hrow (lR _) (fun _ _ _=>rfl);have d1:=(h.left (aJ o)).step a4 a1 a3 rfl;obtain ⟨e1,e2,e3,e4⟩:=kH (A':=A') (sv:=.slice so sn sc) (its:=its) (r:=w.heap.size+1) (aJ o) h.ls.lt hB (by omega) (by rw [aK];omega) ⟨_,fu o,rfl⟩ a1 a2 h.ls.inn d1 a4.weak a6 (eX o h.ls) a5 x0 x1 x2 x3 x4;exact ⟨_,rfl,A',a1,e1,e2,e3,e4⟩
 have hb1:=xH;clear hits hd0 hLd hkw;obtain ⟨kind,key,body,delim,past,n,src⟩:=o;simp only at hk;subst hk;unfold cu at HT HF HB HN;clear h;unfold cj;go_enter (Yq.nq Tryz.func33),Tryz.ntmps33;go_wp2_with fail
 go_region_with (first
  |(go_at_call 46;refine HN.mono ?_;rintro e w1 ⟨rfl,rfl⟩)
  |(go_at_call 47;refine HT.mono ?_;rintro e w1 ⟨sv,rfl,hrow,hb⟩;obtain ⟨so,sc,rfl,-⟩:=aI hrow;obtain ⟨⟨b0,b1,b2,b3,b4⟩,f0,f1,f2,f3,f4⟩:=HB.out w1 hb))
 all_goals
  go_wp2;exact bodyPost_ret (v:=iH ⟨0,st.count,⟨#[]⟩,its,⟨#[]⟩⟩ (.slice so its.length sc)) (by simp [results,Tryz.results33,go_sem,iH,b0,b1,b2,b3,b4]) rfl (HF.out w1 _ _ _ _ _ _ _ _ hb hrow)
end
def EH (R:Lg×List ItD×ByteArray×Int):iu:=⟨R.2.2.2,0,⟨#[]⟩,R.2.1,R.2.2.1⟩
def stepA (st:St)(L:Lg)(toks:List ByteArray)(o:OpD):St×Lg×iu:=
 if o.kind=6 then (st,(fG L st.f ⟨false,o.key,o.delim,o.past⟩ o.n).1,EH (fG L st.f ⟨false,o.key,o.delim,o.past⟩ o.n))
 else if o.kind=7 then (st,(fG L st.f ⟨true,o.key,o.delim,o.past⟩ o.n).1,EH (fG L st.f ⟨true,o.key,o.delim,o.past⟩ o.n))
 else if o.kind=8 then (st,(eU L (gK toks o.src o.body)).1,EH (eU L (gK toks o.src o.body)))
 else if o.kind=9 then (st,(ir L o.n).1,⟨(ir L o.n).2,0,⟨#[]⟩,[],⟨#[]⟩⟩)
 else if o.kind=10 then (st,L,⟨0,st.count,⟨#[]⟩,L.opened.map iR,⟨#[]⟩⟩)
 else if o.kind=11 then (st,L,⟨0,0,jl st L.tm,[],⟨#[]⟩⟩)
 else ((bf st o).1,L,⟨(bf st o).2.code,(bf st o).2.ver,(bf st o).2.body,[],⟨#[]⟩⟩)
def qj (st:St)(L:Lg)(toks:List ByteArray)(b:ByteArray)(o:OpD):St×Lg×iu:=if o.kind=12 then cG st L b else stepA st L toks o
structure nT (Qok:Qy->Prop)(o:OpD):Prop where
 q:o.kind=6->Qok ⟨false,o.key,o.delim,o.past⟩
 q7:o.kind=7->Qok ⟨true,o.key,o.delim,o.past⟩
structure oO (Qok:Qy->Prop)(o:OpD):Prop where
 k12:o.kind≠12
 q:o.kind=6->Qok ⟨false,o.key,o.delim,o.past⟩
 q7:o.kind=7->Qok ⟨true,o.key,o.delim,o.past⟩
theorem oO.e {Qok:Qy->Prop}{o:OpD}(h:oO Qok o):nT Qok o:=⟨h.q,h.q7⟩
structure nU (Qok:Qy->Prop)(L:Lg)(s:Nat):Prop where
 len:L.opened.length<=3
 left:∀x∈L.opened,0<=x.left/\x.left<=10
 ok:∀x∈L.opened,Qok x.q/\fT (cF x.f x.q.p.data.toList)<=1000/\x.q.p.size<=maxLen
 begun:0<=L.begun/\L.begun<=s
 told:∀tok n pg,d9 tok L.told=some (n,pg)->(0<=n/\n<=s)/\0<=pg/\pg<=s+1
theorem oP (k k':ByteArray)(x:Int×Int)(t:Told):d9 k (lr k' x t)=if k=k' then some x else d9 k t:=by
 induction t with
 |nil=>simp [lr,d9]
 |cons a r ih=>
  obtain ⟨a1,a2⟩:=a;by_cases h:k'=a1
  .subst h;simp only [lr,if_true,d9];by_cases h2:k=k'<;>simp [h2]
  .simp only [lr,if_neg h,d9,ih];by_cases h2:k=a1
   .subst h2;rw [if_pos rfl,if_neg (fun e=>h e.symm),if_pos rfl]
   .rw [if_neg h2,if_neg h2]
theorem dW.sum {st:St}(h:dW st)(p:List UInt8):fT (cF st.f p)<=1000:=by
 have h2:=zC p 41 st.f;have h3:fT (cF st.f p)=tot (41-p.length) fun k=>st.f (p++k):=rL _ _ _ _
 have:=h.cnt;have:=h.le;omega
section
variable {Qok:Qy->Prop} {L:Lg} {s:Nat} {st:St}
theorem nU.mono (h:nU Qok L s){s':Nat}(hs:s<=s'):nU Qok L s':=
 ⟨h.len,h.left,h.ok,⟨h.begun.1,by have:=h.begun.2;omega⟩,fun tok n pg e=>by have:=h.told tok n pg e;omega⟩
theorem nU.beg (h:nU Qok L s)(hT:dW st)(q:Qy)(n:Int)(hq:Qok q)(hp:q.p.size<=maxLen):nU Qok (fG L st.f q n).1 (s+1):=by
 have hb:=h.begun;unfold fG;split
 .exact h.mono (by omega)
 .split
  .exact h.mono (by omega)
  .split
   .exact h.mono (by omega)
   .refine ⟨by simp only [lP,lS];omega,fun x hx=>?_,fun x hx=>?_,⟨by simp only;omega,by simp only;omega⟩,fun tok n' pg e=>?_⟩
    .rcases List.mem_append.1 hx with hx|hx
     .exact h.left x hx
     .simp only [List.mem_singleton] at hx;subst hx;exact ⟨by simp [ji],by simp [ji]⟩
    .rcases List.mem_append.1 hx with hx|hx
     .exact h.ok x hx
     .simp only [List.mem_singleton] at hx;subst hx;exact ⟨hq,hT.sum _,hp⟩
    .simp only [oP] at e;split at e
     .cases e;omega
     .have:=h.told tok n' pg e;omega
theorem nU.next (h:nU Qok L s)(tok:ByteArray):nU Qok (eU L tok).1 (s+1):=by
 unfold eU;split
 .exact h.mono (by omega)
 .rename_i n pg e1;split
  .exact h.mono (by omega)
  .split
   .exact h.mono (by omega)
   .rename_i i e2 x e3;have hx:x∈L.opened:=List.mem_of_getElem? e3;have hb:=h.begun;refine ⟨by simpa using h.len,fun y hy=>?_,fun y hy=>?_,⟨hb.1,by simp only;omega⟩,fun tok' n' pg' e=>?_⟩
    .rcases List.mem_or_eq_of_mem_set hy with hy|rfl
     .exact h.left y hy
     .exact ⟨by simp [LsA.again],by simp [LsA.again]⟩
    .rcases List.mem_or_eq_of_mem_set hy with hy|rfl
     .exact h.ok y hy
     .exact h.ok x hx
    .simp only at e;split at e
     .have:=h.told tok' n' pg' e;omega
     .rw [oP] at e;split at e
      .cases e;have:=h.told tok n pg e1;omega
      .have:=h.told tok' n' pg' e;omega
theorem nU.tick (h:nU Qok L s)(u:Int):nU Qok (ir L u).1 (s+1):=by
 unfold ir;split
 .exact h.mono (by omega)
 .rename_i hu;have hb:=h.begun;refine ⟨?_,fun y hy=>?_,fun y hy=>?_,⟨hb.1,by simp only [pW];omega⟩,fun tok n pg e=>by have:=h.told tok n pg e;omega⟩
  .have:=List.length_filter_le (fun x:LsA=>!decide (x.left<=0)) (L.opened.map fun x=>x.again (x.left-u));rw [lM] at this;exact lT this h.len
  .simp only [pW,List.mem_filter,List.mem_map] at hy;obtain ⟨⟨x,hx,rfl⟩,hy⟩:=hy;have:=h.left x hx;have hy':¬(x.left-u<=0):=fun e=>by simp [LsA.again,e] at hy
   show 0<=x.left-u/\x.left-u<=10;omega
  .simp only [pW,List.mem_filter,List.mem_map] at hy;obtain ⟨⟨x,hx,rfl⟩,hy⟩:=hy;exact h.ok x hx
theorem nU.step (h:nU Qok L s)(hT:dW st)(toks:List ByteArray)(o:OpD)(hk:nT Qok o)(hp:o.key.size<=maxLen):nU Qok (stepA st L toks o).2.1 (s+1):=by
 unfold stepA;split
 .rename_i h6;exact h.beg hT _ _ (hk.q h6) hp
 .split
  .rename_i h7;exact h.beg hT _ _ (hk.q7 h7) hp
  .split
   .exact h.next _
   .split
    .exact h.tick _
    .split
     .exact h.mono (by omega)
     .split
      .exact h.mono (by omega)
      .exact h.mono (by omega)
theorem dW.stepA (hT:dW st)(toks:List ByteArray)(o:OpD):dW (stepA st L toks o).1:=by
 unfold Go.Proofs.Qw.stepA
 repeat' split
 all_goals first|exact hT|exact hT.step o
theorem Inv.stepA (hI:Inv st s)(toks:List ByteArray)(o:OpD):Inv (stepA st L toks o).1 (s+1):=by
 have hm:Inv st (s+1):=hI.mono (by omega);unfold Go.Proofs.Qw.stepA
 repeat' split
 all_goals first|exact hm|exact hI.step o
end
def FL (_:OpD):Prop:=True
def lu (Qok:Qy->Prop)(K:OpD->Prop)(G:Wz->Prop)(N:Nat):Prop:=
 ∀ {A:Nat->Prop} {B k0:Nat} {w:Wz} {st:St} {L:Lg} (_:aG A B w k0 st L) (_:B<=w.heap.size) (_:∀w',aH A B k0 w w'->G w') (o:OpD) (_:K o) (_:nT Qok o) (_:o.key.size<=maxLen) (_:o.body.size<=maxLen) {s:Nat} (_:Inv st s) (_:dW st) (_:nU Qok L s) (_:s<N)
  (g0 cp:Nat) (toks:List ByteArray) (_:toks.length=s) (_:w.cell? ⟨k0,8,none⟩=some (.slice (some ⟨g0,0,none⟩) s cp)) (_:∀i (hi:i<toks.length),w.cell? ⟨g0,i * 5+4,none⟩=some (.string toks[i])) (ks:List Int) (bs:List ByteArray) (_:Db w k0 g0 s ks bs),
  Calls Yq.prog 33 #[.pointer (some ⟨k0,0,none⟩),cj o] w fun e w'=>bc A B k0 w (qj st L toks (dx ks bs o.src o.body) o).1 (qj st L toks (dx ks bs o.src o.body) o).2.1 (qj st L toks (dx ks bs o.src o.body) o).2.2 e w'\/Stop Qok e w'
structure Dk where
 st:St
 L:Lg
 al:List iu
def Dk.toks (d:Dk):List ByteArray:=d.al.map (·.tok)
def nV (d:Dk)(o:OpD):Dk:=⟨(stepA d.st d.L d.toks o).1,(stepA d.st d.L d.toks o).2.1,d.al++[(stepA d.st d.L d.toks o).2.2]⟩
def dk0:Dk:=⟨st0,⟨[],0,[],0⟩,[]⟩
def CI (ops:List OpD):Dk:=ops.foldl nV dk0
structure FM (Qok:Qy->Prop)(d:Dk)(s:Nat):Prop where
 i:Inv d.st s
 t:dW d.st
 l:nU Qok d.L s
 n:d.al.length=s
theorem FZ (Qok:Qy->Prop):FM Qok dk0 0:=⟨inv0,Eh,⟨by simp [dk0],by simp [dk0],by simp [dk0],by simp [dk0],by simp [dk0,d9]⟩,rfl⟩
def Dk.bods (d:Dk):List ByteArray:=d.al.map (·.body)
def lW (a:List OpD)(d:Dk)(o:OpD):St×Lg×iu:=qj d.st d.L d.toks (dx (a.map (·.kind)) d.bods o.src o.body) o
def gN (a:List OpD)(d:Dk)(o:OpD):Dk:=⟨(lW a d o).1,(lW a d o).2.1,d.al++[(lW a d o).2.2]⟩
def gC (ops:List OpD)(x:List OpD×Dk):List OpD×Dk:=ops.foldl (fun x o=>(x.1++[o],gN x.1 x.2 o)) x
def fE (ops:List OpD):Dk:=(gC ops ([],dk0)).2
theorem AA (ops:List OpD):∀x,(gC ops x).1=x.1++ops:=by
 induction ops with
 |nil=>intro x;simp [gC]
 |cons o r ih=>intro x;show (gC r _).1=_;rw [ih];simp
theorem lw (a b:List OpD)(x:List OpD×Dk):gC (a++b) x=gC b (gC a x):=by simp [gC]
theorem ss (a:List OpD)(o:OpD):fE (a++[o])=gN a (fE a) o:=by
 rw [fE,lw];show gN (gC a ([],dk0)).1 _ o=_;rw [AA];rfl
theorem AB (ops:List OpD):∀x,(gC ops x).2.al.length=x.2.al.length+ops.length:=by
 induction ops with
 |nil=>intro x;rfl
 |cons o r ih=>intro x;show (gC r _).2.al.length=_;rw [ih];simp [gN];omega
theorem mt (ops:List OpD):(fE ops).al.length=ops.length:=by rw [fE,AB];simp [dk0]
theorem vM {a:List OpD}{d:Dk}{o:OpD}(h:o.kind≠12):gN a d o=nV d o:=by simp only [gN,lW,qj,if_neg h,nV]
theorem EI {ops:List OpD}(h:∀o∈ops,o.kind≠12):fE ops=CI ops:=by
 have:∀ (ops:List OpD) (x:List OpD×Dk),(∀o∈ops,o.kind≠12)->(gC ops x).2=ops.foldl nV x.2:=fun ops=>by
  induction ops with
  |nil=>intro x _;rfl
  |cons o r ih=>
   intro x h;show (gC r _).2=_;rw [ih _ fun y hy=>h y (by simp [hy]),List.foldl_cons];congr 1;exact vM (h o (by simp))
 exact this ops _ h
structure EJ (Qok:Qy->Prop)(d:Dk)(s:Nat):Prop extends FM Qok d s where
 small:∀b∈d.bods,b.size<=maxLen
theorem AC {st:St}{L:Lg}{s:Nat}{Qok:Qy->Prop}(b:ByteArray)(hI:Inv st s)(hT:dW st)(hL:nU Qok L s):Inv (cG st L b).1 (s+1)/\dW (cG st L b).1/\nU Qok (cG st L b).2.1 (s+1)/\(cG st L b).2.2.body=⟨#[]⟩:=by
 unfold cG;cases h:iv b with
 |none=>exact ⟨hI.mono (by omega),hT,hL.mono (by omega),rfl⟩
 |some x=>
  obtain ⟨h1,h2⟩:=Ay h;have hb:=hL.begun;exact ⟨h1.mono (by omega),h2,⟨by simp,by simp,by simp,⟨hb.1,by simp only;omega⟩,fun tok n pg e=>by have:=hL.told tok n pg e;omega⟩,rfl⟩
theorem ux {st:St}{L:Lg}(hT:dW st)(toks:List ByteArray)(o:OpD):(stepA st L toks o).2.2.body.size<=maxLen:=by
 have h0:(⟨#[]⟩:ByteArray).size<=maxLen:=Nat.zero_le _;have hv:∀k,∀v∈st.f k,v.body.size<=maxLen:=fun k v hv=>lT (hT.body k v hv) (by simp only [maxLen];decide)
 unfold stepA
 repeat' split
 all_goals first
  |exact h0
  |exact xU hT _
  |skip
 unfold bf;simp only
 repeat' split
 all_goals first
  |exact h0
  |(rename_i e _;exact hv _ _ (List.mem_of_getLast? e))
  |(rename_i e _;exact hv _ _ (List.mem_of_getElem? e))
theorem EJ.step {Qok:Qy->Prop}{d:Dk}{s:Nat}{a:List OpD}(h:EJ Qok d s)(o:OpD)(hk:nT Qok o)(hp:o.key.size<=maxLen):EJ Qok (gN a d o) (s+1):=by
 by_cases h12:o.kind=12
 .obtain ⟨h1,h2,h3,h4⟩:=AC (dx (a.map (·.kind)) d.bods o.src o.body) h.i h.t h.l;have e:lW a d o=cG d.st d.L (dx (a.map (·.kind)) d.bods o.src o.body):=by simp only [lW,qj,if_pos h12]
  refine ⟨⟨by rw [gN,e];exact h1,by rw [gN,e];exact h2,by rw [gN,e];exact h3,by simp [gN,h.n]⟩,fun b hb=>?_⟩;simp only [Dk.bods,gN,List.map_append,List.mem_append,List.map_cons,List.map_nil,List.mem_singleton] at hb;rcases hb with hb|rfl
  .exact h.small b hb
  .rw [e,h4];exact Nat.zero_le _
 .rw [vM h12];refine ⟨⟨h.i.stepA _ o,h.t.stepA _ o,h.l.step h.t _ o hk hp,by simp [nV,h.n]⟩,fun b hb=>?_⟩;simp only [Dk.bods,nV,List.map_append,List.mem_append,List.map_cons,List.map_nil,List.mem_singleton] at hb;rcases hb with hb|rfl
  .exact h.small b hb
  .exact ux h.t _ o
theorem vN {Qok:Qy->Prop}(ops:List OpD)(hk:∀o∈ops,nT Qok o/\o.key.size<=maxLen):EJ Qok (fE ops) ops.length:=by
 have:∀ (ops:List OpD) (x:List OpD×Dk) (s:Nat),(∀o∈ops,nT Qok o/\o.key.size<=maxLen)->EJ Qok x.2 s->EJ Qok (gC ops x).2 (s+ops.length):=fun ops=>by
  induction ops with
  |nil=>intro x s _ h;exact h
  |cons o r ih=>
   intro x s hk h;have:=ih (x.1++[o],gN x.1 x.2 o) (s+1) (fun y hy=>hk y (by simp [hy])) (h.step o (hk o (by simp)).1 (hk o (by simp)).2);rw [lC,show s+(r.length+1)=s+1+r.length by omega];exact this
 have:=this ops ([],dk0) 0 hk ⟨FZ Qok,by simp [Dk.bods,dk0]⟩
 rwa [zA] at this
def bV (zs:List (iu×Wq)):List Wq:=zs.flatMap fun z=>[.int .i64 z.1.code,.int .i64 z.1.ver,.string z.1.body,z.2,.string z.1.tok]
theorem oQ (zs:List (iu×Wq)):(bV zs).length=zs.length * 5:=fj 5 _ (fun _=>rfl) zs
theorem uy (zs:List (iu×Wq))(z:iu×Wq):bV (zs++[z])=bV zs++[.int .i64 z.1.code,.int .i64 z.1.ver,.string z.1.body,z.2,.string z.1.tok]:=by simp [bV]
theorem jR:∀ (zs:List (iu×Wq))(i:Nat)(hi:i<zs.length),(bV zs)[i * 5]?=some (.int .i64 zs[i].1.code)/\(bV zs)[i * 5+1]?=some (.int .i64 zs[i].1.ver)/\(bV zs)[i * 5+2]?=some (.string zs[i].1.body)/\(bV zs)[i * 5+3]?=some zs[i].2/\(bV zs)[i * 5+4]?=some (.string zs[i].1.tok)
 | [],i,hi=>by simp at hi
 |z::zs,0,hi=>by simp [bV]
 |z::zs,i+1,hi=>by
  have ih:=jR zs i (by simpa using hi);have e:bV (z::zs)=[.int .i64 z.1.code,.int .i64 z.1.ver,.string z.1.body,z.2,.string z.1.tok]++bV zs:=by simp [bV]
  have hh:∀j,(bV (z::zs))[(i+1) * 5+j]?=(bV zs)[i * 5+j]?:=fun j=>by
   rw [e,aR (by simp;omega)];congr 1;simp;omega
  simp only [List.getElem_cons_succ];exact ⟨(hh 0).trans ih.1,(hh 1).trans ih.2.1,(hh 2).trans ih.2.2.1,(hh 3).trans ih.2.2.2.1,(hh 4).trans ih.2.2.2.2⟩
def vO (A:Nat->Prop)(w:Wz)(zs:List (iu×Wq)):Prop:=∀z∈zs,bz A w z.2 z.1.items.length (ax z.1.items)
def nJ (ops:List OpD)(w:Wz)(e:Ending)(w':Wz):Prop:=
 ∃ (A:Nat->Prop) (zs:List (iu×Wq)),e=.returned (.slice (some ⟨w.heap.size,0,none⟩) ops.length ops.length)/\zs.map (·.1)=(CI ops).al/\w'.ownsRow w.heap.size 36 5 (.slice (some ⟨w.heap.size,0,none⟩) ops.length ops.length) ops.length (bV zs)/\vO A w' zs/\(∀b,A b->w.heap.size<b)/\ak w w'
def fw (ops:List OpD)(w:Wz)(e:Ending)(w':Wz):Prop:=
 ∃ (A:Nat->Prop) (zs:List (iu×Wq)),e=.returned (.slice (some ⟨w.heap.size,0,none⟩) ops.length ops.length)/\zs.map (·.1)=(fE ops).al/\w'.ownsRow w.heap.size 36 5 (.slice (some ⟨w.heap.size,0,none⟩) ops.length ops.length) ops.length (bV zs)/\vO A w' zs/\(∀b,A b->w.heap.size<b)/\ak w w'
theorem fw.d {ops:List OpD}{w w':Wz}{e:Ending}(h:fw ops w e w')(hk:∀o∈ops,o.kind≠12):nJ ops w e w':=by
 unfold fw at h;rw [EI hk] at h;exact h
section
variable {A:Nat->Prop} {B k0:Nat} {w w':Wz} {st:St} {L:Lg}
theorem aG.apart {g0:Nat}(h:aG A B w k0 st L)(hsz:w.heap.size<=w'.heap.size)(hne:∀b,b<w.heap.size->b≠k0->b≠g0->w'.heap[b]?=w.heap[b]?)(hA:¬A g0)(hgB:g0<B)(hc:∀j,j<7->w'.cell? ⟨k0,j,none⟩=w.cell? ⟨k0,j,none⟩)(hf:∀j,w'.frozen? ⟨k0,j,none⟩=w.frozen? ⟨k0,j,none⟩):aG A B w' k0 st L:=by
 have hAk:=h.ls.avoid;have hlow:=h.ls.low;have hN:∀n p f,ai A n w p f->ai A n w' p f:=fun n p f hn=>ai.keep (fun b hb hlt=>⟨hb,hne b hlt (fun e=>hAk (e▸hb)) (fun e=>hA (e▸hb))⟩) n p f hn
 have c3:=h.time;obtain ⟨p,c0,hp⟩:=h.store.tree;obtain ⟨v,c4,zs,z1,z2,z3,z4⟩:=h.ls.opened;obtain ⟨mv,c6,hm⟩:=h.ls.told;refine ⟨⟨h.store.avoid,⟨p,(hc 0 (by omega)).trans c0,hN _ _ _ hp⟩,(hc 1 (by omega)).trans h.store.count,(hc 2 (by omega)).trans h.store.last,fun j=>(hf j).trans (h.store.frozen j)⟩,⟨⟨v,(hc 4 (by omega)).trans c4,zs,z1,aW z2 fun g h1 hg=>hne g hg (by omega) (by omega),z3,fun z hz=>hN _ _ _ (z4 z hz)⟩,(hc 5 (by omega)).trans h.ls.begun,⟨mv,(hc 6 (by omega)).trans c6,?_⟩,fun j=>(hf j).trans (h.ls.frozen j),h.ls.avoid,h.ls.low,fun b hb=>by have:=h.ls.inn b hb;omega⟩,(hc 3 (by omega)).trans c3⟩;rcases hm with hm|⟨m,es,clock,m1,m2,m3,m4,m5⟩
 .exact .inl hm
 .have hml:=(eS m2).1;exact .inr ⟨m,es,clock,m1,(hne m hml (by omega) (by omega)).trans m2,m3,m4,m5⟩
theorem AD {c7 c8:Wq}{T:Wk}:aG (fun _=>False) (w.heap.size+1) (w.alloc (.cells #[.pointer none,.int .i64 0,.int .i64 0,.int .u64 0,.slice none 0 0,.int .i64 0,.map none,c7,c8] T)) w.heap.size st0 ⟨[],0,[],0⟩:=by
 have hd:∀j,(w.alloc (.cells #[.pointer none,.int .i64 0,.int .i64 0,.int .u64 0,.slice none 0 0,.int .i64 0,.map none,c7,c8] T)).cell? ⟨w.heap.size,j,none⟩=(#[.pointer none,.int .i64 0,.int .i64 0,.int .u64 0,.slice none 0 0,.int .i64 0,.map none,c7,c8]:Array Wq)[j]?:=fun j=>cA (w:=w) _ _ w.heap.size j rfl
 have hf:∀j,(w.alloc (.cells #[.pointer none,.int .i64 0,.int .i64 0,.int .u64 0,.slice none 0 0,.int .i64 0,.map none,c7,c8] T)).frozen? ⟨w.heap.size,j,none⟩=false:=fun j=>World.frozen?_alloc_at (w:=w) _ _ w.heap.size j rfl
 refine ⟨⟨fun _ h=>h.elim,⟨none,hd 0,ai.nil (fun _=>rfl)⟩,hd 1,hd 2,hf⟩,⟨⟨_,hd 4,[],rfl,⟨by simp [aQ],.inl ⟨rfl,rfl⟩⟩,fun g h=>by simp [Value.ownBlock] at h,fun z hz=>by simp at hz⟩,hd 5,⟨_,hd 6,.inl ⟨rfl,rfl⟩⟩,hf,fun h=>h,by omega,fun _ h=>h.elim⟩,hd 3⟩
theorem EK {zs:List (iu×Wq)}{al:List iu}(hz:zs.map (·.1)=al){base n cap g:Nat}{T:Wk}(h:w.ownsRow base T 5 (.slice (some ⟨g,0,none⟩) n cap) n (bV zs)):∀i (hi:i<(al.map (·.body)).length),w.cell? ⟨g,i * 5+2,none⟩=some (.string (al.map (·.body))[i]):=by
 subst hz;intro i hi;have hi':i<zs.length:=by simpa using hi
 have:=(jR zs i hi').2.2.1;rw [h.cellAt _ (by have:=h.1;rw [oQ] at this;omega)];simpa using this
theorem EL {zs:List (iu×Wq)}{al:List iu}(hz:zs.map (·.1)=al){base n cap g:Nat}{T:Wk}(h:w.ownsRow base T 5 (.slice (some ⟨g,0,none⟩) n cap) n (bV zs)):∀i (hi:i<(al.map (·.tok)).length),w.cell? ⟨g,i * 5+4,none⟩=some (.string (al.map (·.tok))[i]):=by
 subst hz;intro i hi;have hi':i<zs.length:=by simpa using hi
 have:=(jR zs i hi').2.2.2.2;rw [h.cellAt _ (by have:=h.1;rw [oQ] at this;omega)];simpa using this
end
theorem xV {A:Nat->Prop}{B k0:Nat}{w w':Wz}(h:dO A B k0 w w'){base n cap g:Nat}{T:Wk}{xs:List Wq}(ho:w.ownsRow base T 5 (.slice (some ⟨g,0,none⟩) n cap) n xs)(hB:g<B)(hk:g≠k0):w'.ownsRow base T 5 (.slice (some ⟨g,0,none⟩) n cap) n xs:=
 eb ho fun g' hg'=>by
  simp [Value.ownBlock] at hg';subst hg';exact h.low _ hB (ho.lt _ rfl).2 hk
structure AS (Qok:Qy->Prop)(ops:List OpD)(sc:Wq)(n k0:Nat)(w wr:Wz)(i:Nat)(A:Nat->Prop)(zs:List (iu×Wq)):Prop where
 desk:aG A (k0+1) wr k0 (fE (ops.take i)).st (fE (ops.take i)).L
 above:∀b,A b->w.heap.size<b
 c7:wr.cell? ⟨k0,7,none⟩=some sc
 c8:wr.cell? ⟨k0,8,none⟩=some (.slice (some ⟨w.heap.size,0,none⟩) i n)
 own:wr.ownsRow w.heap.size 36 5 (.slice (some ⟨w.heap.size,0,none⟩) i n) i (bV zs)
 al:zs.map (·.1)=(fE (ops.take i)).al
 rows:vO A wr zs
 left:ak w wr
 k0:w.heap.size<k0
theorem AS.leftD {Qok:Qy->Prop}{ops:List OpD}{sc:Wq}{n k0 i:Nat}{w wr W1 w':Wz}{A:Nat->Prop}{zs:List (iu×Wq)}(h:AS Qok ops sc n k0 w wr i A zs)(hl:ak wr W1)(hd:aH A (k0+1) k0 W1 w'):ak w w':=by
 have h0:=h.left;have hk:=h.k0;have hs:=h0.size;have hs1:=hl.size;refine ⟨hd.os.trans (hl.os.trans h0.os),by have:=hd.size;omega,fun b hb=>?_⟩;rw [hd.low b (by omega) (by omega) (by omega),hl.block b (by omega),h0.block b hb]
theorem AS.next {Qok:Qy->Prop}{ops:List OpD}{sc:Wq}{n k0 i:Nat}{w wr W1 w2 w3:Wz}{A:Nat->Prop}{zs:List (iu×Wq)}(h:AS Qok ops sc n k0 w wr i A zs)(hi:i<ops.length)(hl:ak wr W1){sv:Wq}{X:Obj}(hp:bc A (k0+1) k0 W1 (lW (ops.take i) (fE (ops.take i)) ops[i]).1 (lW (ops.take i) (fE (ops.take i)) ops[i]).2.1 (lW (ops.take i) (fE (ops.take i)) ops[i]).2.2 (.returned (iH (lW (ops.take i) (fE (ops.take i)) ops[i]).2.2 sv)) w2)
  (ho:w3.ownsRow w.heap.size 36 5 (.slice (some ⟨w.heap.size,0,none⟩) (i+1) n) (i+1) (bV (zs++[((lW (ops.take i) (fE (ops.take i)) ops[i]).2.2,sv)]))) (hg:(w2.alloc X).grownBy w3 (some w.heap.size)) (hfz:w3.cell? ⟨k0,8,none⟩=some (.slice (some ⟨w.heap.size,0,none⟩) i n)):
  ∃A',AS Qok ops sc n k0 w (w3.setCell ⟨k0,8,none⟩ (.slice (some ⟨w.heap.size,0,none⟩) (i+1) n)) (i+1) A' (zs++[((lW (ops.take i) (fE (ops.take i)) ops[i]).2.2,sv)]):=by
 obtain ⟨sv',he,A',a1,a2,hd,hw,hrow⟩:=hp;have hsv:sv'=sv:=by
  simp [iH] at he;exact he.symm
 subst hsv;have htk:ops.take (i+1)=ops.take i++[ops[i]]:=tS hi;have hrd:fE (ops.take (i+1))=gN (ops.take i) (fE (ops.take i)) ops[i]:=by rw [htk,ss]
 have hk:=h.k0;have hs0:=h.left.size;have hs1:=hl.size;have hs2:=hw.size;have hs3:=hg.size;simp at hs3;have hne:∀b,b<w2.heap.size->b≠k0->b≠w.heap.size->(w3.setCell ⟨k0,8,none⟩ (.slice (some ⟨w.heap.size,0,none⟩) (i+1) n)).heap[b]?=w2.heap[b]?:=fun b hb h1 h2=>by
  rw [bS _ _ _ _ h1,hg.block b (by simp;omega) (fun e=>h2 (oJ e)),bA _ _ _ hb]
 have hlk:k0<w2.heap.size:=hd.ls.lt;have hk3:w3.heap[k0]?=w2.heap[k0]?:=by
  rw [hg.block k0 (by simp;omega) (fun e=>by have:=oJ e;omega),bA _ _ _ hlk]
 have ha':∀b,A' b->w.heap.size<b:=fun b hb=>by
  rcases a2 b hb with h1|h1
  .exact h.above b h1
  .have:=h.desk.ls.lt;omega
 have hc:∀j,j≠8->(w3.setCell ⟨k0,8,none⟩ (.slice (some ⟨w.heap.size,0,none⟩) (i+1) n)).cell? ⟨k0,j,none⟩=w2.cell? ⟨k0,j,none⟩:=fun j hj=>by
  rw [cO _ _ _ _ (aU (fun e=>hj e.symm))];exact cB (a:=⟨k0,j,none⟩) hk3
 have hf:∀j,(w3.setCell ⟨k0,8,none⟩ (.slice (some ⟨w.heap.size,0,none⟩) (i+1) n)).frozen? ⟨k0,j,none⟩=w2.frozen? ⟨k0,j,none⟩:=fun j=>by
  rw [World.frozen?_setCell];exact fB (a:=⟨k0,j,none⟩) hk3
 refine ⟨A',?_,ha',(hc 7 (by omega)).trans ((hw.cells 7 (by omega)).trans (hl.cell h.c7)),cS _ _ _ (by rw [hfz];rfl),?_,?_,?_,?_,h.k0⟩
 .rw [hrd];show aG A' (k0+1) _ k0 (lW _ _ _).1 (lW _ _ _).2.1;exact hd.apart (g0:=w.heap.size) (by simp;omega) hne (fun hx=>by have:=ha' _ hx;omega) (by omega) (fun j hj=>hc j (by omega)) hf
 .exact eb ho fun g hg'=>by
   simp [Value.ownBlock] at hg';subst hg';exact bS _ _ _ _ (by show w.heap.size≠k0;omega)
 .rw [hrd,List.map_append,h.al];rfl
 .intro z hz;have hkeep:∀ {v:Wq} {m:Nat} {xs:List Wq},bz A' w2 v m xs->bz A' (w3.setCell ⟨k0,8,none⟩ (.slice (some ⟨w.heap.size,0,none⟩) (i+1) n)) v m xs:=fun hr=>bz.keep hr fun b hb hlt=>⟨hb,hne b hlt (fun e=>hd.ls.avoid (e▸hb)) (fun e=>by have:=ha' b hb;omega)⟩
  rcases List.mem_append.1 hz with hz|hz
  .refine hkeep (bz.keep (h.rows z hz) fun b hb hlt=>⟨a1 b hb,?_⟩);rw [hw.tree b hb (by omega),hl.block b hlt]
  .simp only [List.mem_singleton] at hz;subst hz;exact hkeep hrow
 .refine ⟨?_,by simp;omega,fun b hb=>?_⟩
  .show w3.os=w.os;rw [hg.os];exact hw.os.trans (hl.os.trans h.left.os)
  .have hkk:=h.desk.ls.lt;rw [hne b (by omega) (by omega) (by omega),hw.low b (by omega) (by omega) (by omega),hl.block b (by omega),h.left.block b hb]
theorem su (Qok:Qy->Prop)(K:OpD->Prop)(G:Wz->Prop)(N:Nat)(hAns:lu Qok K G N)(b off cap:Nat)(ops:List OpD)(w:Wz)(hG:∀w',ak w w'->G w')(hS:mn w b off ops)(hz:Sized ops)(hn:ops.length<=N)(hN:N<2199023255300)(hko:∀o∈ops,nT Qok o)(hkk:∀o∈ops,K o):
  Calls Yq.prog 18 #[.slice (some ⟨b,off,none⟩) ops.length cap] w fun e w'=>fw ops w e w'\/Stop Qok e w':=by
 obtain ⟨i0,hi0,hz0,hz1,hz2⟩:=info_parts Yq.infoAns;have HSc:Hid (mn w b off ops/\Sized ops):=⟨hS,hz⟩;have HPL:Hid (∀o∈ops,nT Qok o):=hko;have HAN0:Hid (lu Qok K G N):=hAns;have HGG:Hid (∀w',ak w w'->G w'):=hG;have HKK:Hid (∀o∈ops,K o):=hkk;have HRP:Hid (∀e w',fw ops w e w'↔fw ops w e w'):=fun _ _=>Iff.rfl
 obtain ⟨P,hP⟩:∃P:Ending->Wz->Prop,P=fun e w'=>fw ops w e w'\/Stop Qok e w':=⟨_,rfl⟩
 have HP1:Hid (∀e w',fw ops w e w'->P e w'):=fun e w' h=>by rw [hP];exact .inl h
 have HP2:Hid (∀e w',Stop Qok e w'->P e w'):=fun e w' h=>by rw [hP];exact .inr h
 rw [<-hP];obtain ⟨n,hnl⟩:∃n,ops.length=n:=⟨_,rfl⟩;have HN:Hid (ops.length=n):=hnl;rw [hnl] at hn ⊢;clear hS hz hnl hko hAns hP HRP hkk hG;go_enter (Yq.nq Tryz.func18),Tryz.ntmps18;go_wp2_with (at_make;refine wpList_make_own _ rfl _ _ 27 rfl w.heap.size 36 i0 _ 5 (Yq.u Tryz.underlying27) hi0 hz0 hz1 _ _ _ n rfl rfl (by omega) ?qb1 ?qb2 ?qb3 ?_)
 case qb1=>rw [hz2];omega
 case qb2=>simp only [maxLen];omega
 case qb3=>simp
 intro w1 hown1 hgrow1;have hlt1:w.heap.size<w1.heap.size:=(hown1.lt w.heap.size rfl).2;have b1:Below w.heap.size w w1:=⟨hgrow1.os,hgrow1.tape,hgrow1.output,hgrow1.size,fun k hk=>hgrow1.block k hk (by simp)⟩;go_wp2_with fail
 obtain ⟨W0,hW0⟩:∃W0,W0=w1.alloc (.cells #[.pointer none,.int .i64 0,.int .i64 0,.int .u64 0,.slice none 0 0,.int .i64 0,.map none,.slice (some ⟨b,off,none⟩) n cap,.slice (some ⟨w.heap.size,0,none⟩) 0 n] 65):=⟨_,rfl⟩;have HI0:Hid (AS Qok ops (.slice (some ⟨b,off,none⟩) n cap) n w1.heap.size w W0 0 (fun _=>False) []):=by
  rw [hW0];exact ⟨AD,fun _ h=>h.elim,by rw [iF];rfl,by rw [iF];rfl,hown1.alloc _,rfl,fun z hz=>by simp at hz,(ak.below b1).alloc _,hlt1⟩
 rw [<-hW0];generalize w1.heap.size=k0 at *;clear b1 hown1 hgrow1 hW0
 go_loopw [5,13] (fun _ s12 wr=>∃ (i:Nat) (A:Nat->Prop) (zs:List (iu×Wq)),i<=n/\s12=.int .i64 i/\AS Qok ops (.slice (some ⟨b,off,none⟩) n cap) n k0 w wr i A zs) (fun _ s12 _=>n-(intOf s12).toNat)
 case atStart=>exact ⟨0,fun _=>False,[],Nat.zero_le _,rfl,HI0.out⟩
 case round=>
  obtain ⟨i,A,zs,hin,rfl,HR0⟩:=hrel;have HR:Hid (AS Qok ops (.slice (some ⟨b,off,none⟩) n cap) n k0 w wr i A zs):=HR0;clear HR0 HI0;by_cases hlt:i<n
  .have hlo:i<ops.length:=by rw [HN.out];exact hlt
   have hb:=HR.out.left;obtain ⟨c0,c1,c2,c3,c4,c5,c6⟩:=HSc.out.1 i hlo;replace c0:=hb.cell c0;replace c1:=hb.cell c1;replace c2:=hb.cell c2;replace c3:=hb.cell c3;replace c4:=hb.cell c4;replace c5:=hb.cell c5;replace c6:=hb.cell c6;obtain ⟨hzk,hzb⟩:=HSc.out.2 ops[i] (List.getElem_mem hlo);have hk1:=HPL.out ops[i] (List.getElem_mem hlo);have hk2:=HKK.out ops[i] (List.getElem_mem hlo);have hID:EJ Qok (fE (ops.take i)) i:=by
    have:=vN (Qok:=Qok) (ops.take i) (fun o ho=>⟨HPL.out o (List.mem_of_mem_take ho),(HSc.out.2 o (List.mem_of_mem_take ho)).1⟩)
    rwa [tL,Nat.min_eq_left (by omega)] at this
   have HNX:∀ (W1 w2 w3:Wz) (sv:Wq) (X:Obj),ak wr W1->bc A (k0+1) k0 W1 (lW (ops.take i) (fE (ops.take i)) ops[i]).1 (lW (ops.take i) (fE (ops.take i)) ops[i]).2.1 (lW (ops.take i) (fE (ops.take i)) ops[i]).2.2 (.returned (iH (lW (ops.take i) (fE (ops.take i)) ops[i]).2.2 sv)) w2->w3.ownsRow w.heap.size 36 5 (.slice (some ⟨w.heap.size,0,none⟩) (i+1) n) (i+1) (bV (zs++[((lW (ops.take i) (fE (ops.take i)) ops[i]).2.2,sv)]))->(w2.alloc X).grownBy w3 (some w.heap.size)->w3.cell? ⟨k0,8,none⟩=some (.slice (some ⟨w.heap.size,0,none⟩) i n)->∃A' zs',AS Qok ops (.slice (some ⟨b,off,none⟩) n cap) n k0 w (w3.setCell ⟨k0,8,none⟩ (.slice (some ⟨w.heap.size,0,none⟩) (i+1) n)) (i+1) A' zs':=
    fun W1 w2 w3 sv X hl hp ho hg hc=>by
     obtain ⟨A',h⟩:=HR.out.next hlo hl hp ho hg hc
     exact ⟨A',_,h⟩
   obtain ⟨o,ho⟩:∃o,o=ops[i]:=⟨_,rfl⟩;rw [<-ho] at HNX c0 c1 c2 c3 c4 c5 c6 hzk hzb hk1 hk2;obtain ⟨kind,key,body,delim,past,nn,src⟩:=o;simp only at c0 c1 c2 c3 c4 c5 c6 hzk hzb;obtain ⟨W1,hW1⟩:∃W1,W1=wr.alloc (.cells #[.int .i64 kind,.string key,.string body,.string delim,.string past,.int .i64 nn,.int .i64 src] 31):=⟨_,rfl⟩;have hLW:ak wr W1.drew:=by rw [hW1];exact (ak.refl.alloc _).drew
   have hkl:k0<wr.heap.size:=HR.out.desk.ls.lt;have k8a:W1.drew.cell? ⟨k0,8,none⟩=some (.slice (some ⟨w.heap.size,0,none⟩) i n):=hLW.cell HR.out.c8;have hbk:Db W1.drew k0 w.heap.size i ((ops.take i).map (·.kind)) (fE (ops.take i)).bods:=by
    refine ⟨by simp;omega,by rw [Dk.bods,lM];exact hID.n,hID.small,⟨b,off,n,cap,hLW.cell HR.out.c7,by omega,fun j hj=>?_⟩,fun j hj=>hLW.cell (EK HR.out.al HR.out.own j hj)⟩;have hj':j<ops.length:=by simp at hj;omega
    have:=(HR.out.left.trans hLW).cell (HSc.out.1 j hj').1;simpa using this
   have HAN:=HAN0.out (HR.out.desk.left hLW) (by have:=hLW.size;omega) (fun w' hd=>HGG.out w' (HR.out.leftD hLW hd)) ⟨kind,key,body,delim,past,nn,src⟩ hk2 hk1 hzk hzb hID.i hID.t hID.l (by omega) w.heap.size n (fE (ops.take i)).toks (by rw [Dk.toks,lM];exact hID.n) k8a (fun j hj=>hLW.cell (EL HR.out.al HR.out.own j hj)) ((ops.take i).map (·.kind)) (fE (ops.take i)).bods hbk;change Calls _ _ _ _ (fun e w'=>bc A (k0+1) k0 W1.drew (lW (ops.take i) (fE (ops.take i)) ⟨kind,key,body,delim,past,nn,src⟩).1 (lW (ops.take i) (fE (ops.take i)) ⟨kind,key,body,delim,past,nn,src⟩).2.1 (lW (ops.take i) (fE (ops.take i)) ⟨kind,key,body,delim,past,nn,src⟩).2.2 e w'\/Stop Qok e w') at HAN;generalize lW (ops.take i) (fE (ops.take i)) ⟨kind,key,body,delim,past,nn,src⟩=sr at HAN HNX;obtain ⟨st',L',ad⟩:=sr;obtain ⟨code,ver,abody,its,tok⟩:=ad;simp only [cj] at HAN HNX;have HNX1:Hid (∀ (w2 w3:Wz) (sv:Wq) (X:Obj),bc A (k0+1) k0 W1.drew st' L' ⟨code,ver,abody,its,tok⟩ (.returned (iH ⟨code,ver,abody,its,tok⟩ sv)) w2->w3.ownsRow w.heap.size 36 5 (.slice (some ⟨w.heap.size,0,none⟩) (i+1) n) (i+1) (bV zs++[.int .i64 code,.int .i64 ver,.string abody,sv,.string tok])->(w2.alloc X).grownBy w3 (some w.heap.size)->w3.cell? ⟨k0,8,none⟩=some (.slice (some ⟨w.heap.size,0,none⟩) i n)->∃A' zs',AS Qok ops (.slice (some ⟨b,off,none⟩) n cap) n k0 w (w3.setCell ⟨k0,8,none⟩ (.slice (some ⟨w.heap.size,0,none⟩) (i+1) n)) (i+1) A' zs'):=
    fun w2 w3 sv X hp ho hg hc=>HNX _ w2 w3 sv X hLW hp (by rw [uy];exact ho) hg hc
   have HCL:Hid (Calls Yq.prog 33 #[.pointer (some ⟨k0,0,none⟩),.agg #[.int .i64 kind,.string key,.string body,.string delim,.string past,.int .i64 nn,.int .i64 src]] W1.drew fun e w'=>(∃v,e=.returned v/\∃so sn sc,v=.agg #[.int .i64 code,.int .i64 ver,.string abody,.slice so sn sc,.string tok]/\bc A (k0+1) k0 W1.drew st' L' ⟨code,ver,abody,its,tok⟩ (.returned (iH ⟨code,ver,abody,its,tok⟩ (.slice so sn sc))) w')\/∃ch,e=.panicked ch/\Stop Qok (.panicked ch) w'):=
    HAN.mono fun e w' h=>by
     rcases h with ⟨sv,rfl,A',a1,a2,a3,a4,a5⟩|hst
     .obtain ⟨so,sc,rfl,a6⟩:=a5;exact .inl ⟨_,rfl,so,_,sc,rfl,_,rfl,A',a1,a2,a3,a4,so,sc,rfl,a6⟩
     .obtain ⟨x,y,r,rfl,hst⟩:=hst;exact .inr ⟨_,rfl,x,y,r,rfl,hst⟩
   have HF8:Hid (∀w2 sv,bc A (k0+1) k0 W1.drew st' L' ⟨code,ver,abody,its,tok⟩ (.returned (iH ⟨code,ver,abody,its,tok⟩ sv)) w2->w2.cell? ⟨k0,8,none⟩=some (.slice (some ⟨w.heap.size,0,none⟩) i n)/\(∀X:Obj,(w2.alloc X).ownsRow w.heap.size 36 5 (.slice (some ⟨w.heap.size,0,none⟩) i n) i (bV zs))/\∀ (w3:Wz) (X:Obj),(w2.alloc X).grownBy w3 (some w.heap.size)->w3.cell? ⟨k0,8,none⟩=some (.slice (some ⟨w.heap.size,0,none⟩) i n)/\w3.frozen? ⟨k0,8,none⟩=false):=fun w2 sv hp=>by
    obtain ⟨_,-,A',-,-,hd,hw,-⟩:=hp;have hk0:=HR.out.k0;have e2:w2.cell? ⟨k0,8,none⟩=some (.slice (some ⟨w.heap.size,0,none⟩) i n):=(hw.cells 8 (by omega)).trans k8a;have hlt2:=hd.ls.lt;refine ⟨e2,fun X=>(xV hw (aW HR.out.own fun g _ hg=>hLW.block g hg) (by omega) (by omega)).alloc X,fun w3 X hg3=>?_⟩;have hk3:w3.heap[k0]?=w2.heap[k0]?:=by
     rw [hg3.block k0 (by simp;omega) (fun e=>by have:=oJ e;omega),bA _ _ _ hlt2]
    exact ⟨(cB (a:=⟨k0,8,none⟩) hk3).trans e2,(fB (a:=⟨k0,8,none⟩) hk3).trans (hd.ls.frozen 8)⟩
   have HW1:Hid (W1=wr.alloc (.cells #[.int .i64 kind,.string key,.string body,.string delim,.string past,.int .i64 nn,.int .i64 src] 31)):=hW1;have W1c:∀j,W1.drew.cell? ⟨wr.heap.size,j,none⟩=(#[.int .i64 kind,.string key,.string body,.string delim,.string past,.int .i64 nn,.int .i64 src]:Array Wq)[j]?:=fun j=>by rw [hW1];exact iF wr _ _ j
   have q0:=W1c 0;have q1:=W1c 1;have q2:=W1c 2;have q3:=W1c 3;have q4:=W1c 4;have q5:=W1c 5;have q6:=W1c 6;have HEN:Hid (∀ (args:Array Wq) (wx:Wz),(callFunc 33 args).run Yq.prog wx=.ok (.enter 33 args) wx):=fun args wx=>by go_simp
   have k8n:=HR.out.c8;clear W1c hW1 hb hID HNX HAN hk1 hk2 hzk hzb ho hLW;simp only [gA,gZ,gS] at q0 q1 q2 q3 q4 q5 q6
   go_upto_region 5 with fail
   rw [<-HW1.out]
   go_region_law (first
    |(refine bM rfl 33 #[.tmp 3,.tmp 19] #[65,31] rfl #[.pointer (some ⟨k0,0,none⟩),.agg #[.int .i64 kind,.string key,.string body,.string delim,.string past,.int .i64 nn,.int .i64 src]] (by simp [Act.eval]) (HEN.out _ _) _ _ HCL.out (by intro ch w' hs;exact ⟨rfl,HP2.out _ _ hs⟩) ?_;rintro v w2 ⟨so,sn,sc,rfl,hp⟩;obtain ⟨k8b,o8,f8⟩:=HF8.out w2 _ hp;have k8d:(w2.alloc (.cells #[.int .i64 code,.int .i64 ver,.string abody,.slice so sn sc,.string tok] 36)).cell? ⟨k0,8,none⟩=some (.slice (some ⟨w.heap.size,0,none⟩) i n):=an k8b _;have HX2:Hid (bc A (k0+1) k0 W1.drew st' L' ⟨code,ver,abody,its,tok⟩ (.returned (iH ⟨code,ver,abody,its,tok⟩ (.slice so sn sc))) w2):=hp;have HO8:Hid (∀X:Obj,(w2.alloc X).ownsRow w.heap.size 36 5 (.slice (some ⟨w.heap.size,0,none⟩) i n) i (bV zs)):=o8;have HG8:Hid (∀ (w3:Wz) (X:Obj),(w2.alloc X).grownBy w3 (some w.heap.size)->w3.cell? ⟨k0,8,none⟩=some (.slice (some ⟨w.heap.size,0,none⟩) i n)/\w3.frozen? ⟨k0,8,none⟩=false):=f8;clear hp o8 f8)
    |(refine lQ rfl (.tmp 18) (.tmp 21) 27 rfl w.heap.size 36 i0 5 (Yq.u Tryz.underlying27) hi0 hz1 w.heap.size i n (bV zs) (by simp [Act.eval]) (HO8.out _) ⟨w2.heap.size,0,none⟩ 1 1 [.int .i64 code,.int .i64 ver,.string abody,.slice so sn sc,.string tok] (by simp [Act.eval]) rfl (xF _ _ _ _ _ _ _) (by intro u hu;simp at hu;rcases hu with rfl|rfl|rfl|rfl|rfl<;>rfl) (by omega) ?_;intro w3 ho3 hg3;obtain ⟨k8c,f8c⟩:=HG8.out _ _ hg3;have HW3:Hid (w3.ownsRow w.heap.size 36 5 (.slice (some ⟨w.heap.size,0,none⟩) (i+1) n) (i+1) (bV zs++[.int .i64 code,.int .i64 ver,.string abody,.slice so sn sc,.string tok])/\(w2.alloc (.cells #[.int .i64 code,.int .i64 ver,.string abody,.slice so sn sc,.string tok] 36)).grownBy w3 (some w.heap.size)):=⟨ho3,hg3⟩;clear ho3 hg3))
   all_goals
    go_wp2;obtain ⟨A',zs',hI'⟩:=HNX1.out w2 w3 _ _ HX2.out HW3.out.1 HW3.out.2 k8c;exact ⟨⟨i+1,A',zs',by omega,by go_num,hI'⟩,by simp [intOf];omega⟩
  .have hie:i=n:=by omega
   subst hie;have HT:Hid (ops.take i=ops):=tO (by rw [HN.out];exact lR _);have c8:=HR.out.c8;go_wp2;refine HP1.out _ _ ⟨A,zs,by rw [HN.out];rfl,?_,?_,HR.out.rows,HR.out.above,HR.out.left⟩
   .have:=HR.out.al;rw [HT.out] at this;exact this
   .rw [HN.out];exact HR.out.own
theorem CJ (Qok:Qy->Prop)(K:OpD->Prop)(G:Wz->Prop)(N:Nat)(hAns:lu Qok K G N)(b off cap:Nat)(ops:List OpD)(w:Wz)(hG:∀w',ak w w'->G w')(hS:mn w b off ops)(hz:Sized ops)(hn:ops.length<=N)(hN:N<2199023255300)(hko:∀o∈ops,oO Qok o)(hkk:∀o∈ops,K o):
  Calls Yq.prog 18 #[.slice (some ⟨b,off,none⟩) ops.length cap] w fun e w'=>nJ ops w e w'\/Stop Qok e w':=
 (su Qok K G N hAns b off cap ops w hG hS hz hn hN (fun o ho=>(hko o ho).e) hkk).mono fun _ _ h=>h.imp (fun h=>h.d fun o ho=>(hko o ho).k12) id
end
section
open Go.RowKit
theorem kK (kind:Int)(key body:ByteArray)(w:Wz):Calls Yq.prog 20 #[.int .i64 kind,.string key,.string body] w fun e w'=>
  e=.returned (.agg #[.int .i64 kind,.string key,.string body,.string ⟨#[]⟩,.string ⟨#[]⟩,.int .i64 0,.int .i64 0])/\Below w.heap.size w w':=by
 go_enter (Yq.nq Tryz.func20),Tryz.ntmps20;go_wp2;exact bodyPost_ret (v:=.agg #[.int .i64 kind,.string key,.string body,.string ⟨#[]⟩,.string ⟨#[]⟩,.int .i64 0,.int .i64 0]) (by simp [results,Tryz.results20,go_sem]) rfl ⟨rfl,(bR _ _).alloc (lR _) _⟩
theorem CK (c:Int)(m:Nat)(w:Wz)(h1:-9223372036854775808<=c)(h2:c<=9223372036854775807)(hm:0<m)(hm2:m<=9223372036854775807):
  Calls Yq.prog 21 #[.int .i64 c,.int .i64 m] w fun e w'=>∃k:Nat,k<m/\e=.returned (.int .i64 k)/\w=w':=by
 have hm0:((m:Int)==0)=false:=by simp;omega
 by_cases hc:c<0
 .have e:-((c+1).tmod (m:Int))=(((-(c+1)) % (m:Int)).toNat:Int):=by
   rw [<-Int.neg_tmod,Int.tmod_eq_emod_of_nonneg (by omega)];have:=Int.emod_nonneg (-(c+1)) (b:=(m:Int)) (by omega);omega
  have hk:((-(c+1)) % (m:Int)).toNat<m:=by
   have h3:=Int.emod_nonneg (-(c+1)) (b:=(m:Int)) (by omega);have h4:=Int.emod_lt_of_pos (-(c+1)) (b:=(m:Int)) (by omega);omega
  have HE:Hid (-((c+1).tmod (m:Int))=(((-(c+1)) % (m:Int)).toNat:Int)/\((-(c+1)) % (m:Int)).toNat<m):=⟨e,hk⟩;clear e hk;go_enter (Yq.nq Tryz.func21),Tryz.ntmps21;go_wp2;go_ret;exact ⟨_,HE.out.2,oS HE.out.1,rfl⟩
 .have e:c % (m:Int)=((c % (m:Int)).toNat:Int):=by
   have:=Int.emod_nonneg c (b:=(m:Int)) (by omega);omega
  have hk:(c % (m:Int)).toNat<m:=by
   have h3:=Int.emod_nonneg c (b:=(m:Int)) (by omega);have h4:=Int.emod_lt_of_pos c (b:=(m:Int)) (by omega);omega
  have HE:Hid (c % (m:Int)=((c % (m:Int)).toNat:Int)/\(c % (m:Int)).toNat<m):=⟨e,hk⟩;clear e hk;go_enter (Yq.nq Tryz.func21),Tryz.ntmps21;go_wp2;go_ret;exact ⟨_,HE.out.2,oS HE.out.1,rfl⟩
end
section
open Go
open Go.Conc Go.ConcX Go.ConcX.Gen Go.RowKit
theorem CL (Qok:Qy->Prop)(K:OpD->Prop)(G:Wz->Prop)(N:Nat)(hAns:lu Qok K G N)(v:Wq)(ops:List OpD)(w:Wz)(hG:∀w',ak w w'->G w')(h:gy w v ops)(hne:ops≠[])(hn:ops.length<=N)(hN:N<2199023255300)(hko:∀o∈ops,oO Qok o)(hkk:∀o∈ops,K o):
  Calls Yq.prog 18 #[v] w fun e w'=>nJ ops w e w'\/Stop Qok e w':=by
 obtain ⟨a,cap,rfl,hx⟩:=h.form;obtain ⟨b,off,rfl,hS⟩:=hx hne;exact CJ Qok K G N hAns b off cap ops w hG hS h.sized hn hN hko hkk
theorem gy.left {w w':Wz}{v:Wq}{ops:List OpD}(h:gy w v ops)(hl:ak w w'):gy w' v ops:=by
 obtain ⟨a,cap,rfl,hx⟩:=h.form;refine ⟨⟨a,cap,rfl,fun hne=>?_⟩,h.sized,h.len⟩;obtain ⟨b,off,rfl,hS⟩:=hx hne;refine ⟨b,off,rfl,fun i hi=>?_⟩;obtain ⟨c0,c1,c2,c3,c4,c5,c6⟩:=hS i hi;exact ⟨hl.cell c0,hl.cell c1,hl.cell c2,hl.cell c3,hl.cell c4,hl.cell c5,hl.cell c6⟩
def F0 (ops:List OpD)(m:Nat)(w:Wz)(e:Ending)(w':Wz):Prop:=
 ∃ (g:Nat) (A:Nat->Prop) (zs:List (iu×Wq)),e=.returned (.slice (some ⟨g,0,none⟩) m m)/\zs.map (·.1)=(CI ops).al/\(∀j,j<m * 5->w'.cell? ⟨g,j,none⟩=(bV zs)[j]?)/\vO A w' zs/\ak w w'/\w.heap.size<=g
theorem nJ.g {ops:List OpD}{w w':Wz}{e:Ending}(h:nJ ops w e w')(m:Nat)(hm:ops.length=m):F0 ops m w e w':=by
 subst hm;obtain ⟨A,zs,rfl,hal,hown,hrows,hA,hl⟩:=h;exact ⟨_,A,zs,rfl,hal,fun j hj=>hown.cellAt j hj,hrows,hl,lR _⟩
theorem cR {a:iu}{l:List iu}{zs:List (iu×Wq)}(h:zs.map (·.1)=a::l):∃v zs',zs=(a,v)::zs'/\zs'.map (·.1)=l:=by
 cases zs with
 |nil=>simp at h
 |cons z r=>
  obtain ⟨b,v⟩:=z;simp only [List.map_cons,List.cons.injEq] at h;obtain ⟨rfl,h⟩:=h;exact ⟨v,r,rfl,h⟩
def toL (a:C7):iu:=⟨a.code,a.ver,a.body,[],⟨#[]⟩⟩
theorem AE (st:St)(L:Lg)(toks:List ByteArray)(o:OpD)(h:o.kind<6):stepA st L toks o=((bf st o).1,L,toL (bf st o).2):=by
 unfold stepA;rw [if_neg (by omega),if_neg (by omega),if_neg (by omega),if_neg (by omega),if_neg (by omega),if_neg (by omega)];rfl
theorem AF (ops:List OpD):∀ (d:Dk),(∀o∈ops,o.kind<6)->(ops.foldl nV d).al=d.al++(jg d.st ops).map toL:=by
 induction ops with
 |nil=>intro d _;simp [jg]
 |cons o r ih=>
  intro d h;rw [List.foldl_cons,ih _ fun x hx=>h x (by simp [hx])];simp only [nV,AE _ _ _ o (h o (by simp)),jg,List.map_cons,pA,List.singleton_append]
theorem CM (s more:List OpD)(h:∀o∈more,o.kind<6):(CI (s++more)).al=(CI s).al++(jg (CI s).st more).map toL:=by
 rw [CI,List.foldl_append];exact AF more _ h
def vP:List OpD:=[⟨1,⟨#[97]⟩,⟨#[120]⟩,⟨#[]⟩,⟨#[]⟩,0,0⟩,⟨1,⟨#[97]⟩,⟨#[121]⟩,⟨#[]⟩,⟨#[]⟩,0,0⟩,⟨4,⟨#[97]⟩,⟨#[]⟩,⟨#[]⟩,⟨#[]⟩,0,0⟩,⟨2,⟨#[97]⟩,⟨#[]⟩,⟨#[]⟩,⟨#[]⟩,0,0⟩,⟨5,⟨#[97]⟩,⟨#[]⟩,⟨#[]⟩,⟨#[]⟩,3,0⟩,⟨2,⟨#[97]⟩,⟨#[]⟩,⟨#[]⟩,⟨#[]⟩,0,0⟩,⟨2,⟨#[]⟩,⟨#[]⟩,⟨#[]⟩,⟨#[]⟩,0,0⟩]
theorem Gk:(CI vP).al=[⟨0,1,⟨#[]⟩⟩,⟨0,2,⟨#[]⟩⟩,⟨0,3,⟨#[]⟩⟩,⟨5,0,⟨#[]⟩⟩,⟨0,0,⟨#[]⟩⟩,⟨0,2,⟨#[121]⟩⟩,⟨2,0,⟨#[]⟩⟩].map toL:=by
 have h:=CM [] vP (by decide);rw [List.nil_append] at h;rw [h];have e:jg (CI []).st vP=[⟨0,1,⟨#[]⟩⟩,⟨0,2,⟨#[]⟩⟩,⟨0,3,⟨#[]⟩⟩,⟨5,0,⟨#[]⟩⟩,⟨0,0,⟨#[]⟩⟩,⟨0,2,⟨#[121]⟩⟩,⟨2,0,⟨#[]⟩⟩]:=by kernel_rfl
 rw [e];rfl
theorem EM:∀o∈vP,o.kind<=10:=by decide
theorem FE:Sized vP:=by
 intro o ho;simp only [vP,List.mem_cons,List.not_mem_nil,or_false] at ho;rcases ho with rfl|rfl|rfl|rfl|rfl|rfl|rfl<;>exact ⟨by simp only [maxLen];decide,by simp only [maxLen];decide⟩
def sw (_:Qy):Prop:=True
def F1 (o:OpD):Prop:=o.kind≠12
def F2 (G:Wz->Prop)(N:Nat):Prop:=lu sw F1 G N
theorem vQ (o:OpD)(h:o.kind≠12):oO sw o/\F1 o:=⟨⟨h,fun _=>trivial,fun _=>trivial⟩,h⟩
theorem EN {G:Wz->Prop}{N:Nat}(hAns:F2 G N)(v:Wq)(ops:List OpD)(w:Wz)(hG:∀w',ak w w'->G w')(h:gy w v ops)(hne:ops≠[])(hn:ops.length<=N)(hN:N<2199023255300)(hk:∀o∈ops,o.kind≠12):
  Calls Yq.prog 18 #[v] w fun e w'=>F0 ops ops.length w e w'\/Stop sw e w':=
 (CL sw F1 G N hAns v ops w hG h hne hn hN (fun o ho=>(vQ o (hk o ho)).1) (fun o ho=>(vQ o (hk o ho)).2)).mono fun _ _ h=>h.imp (fun h=>h.g _ rfl) id
theorem AG {G:Wz->Prop}{N:Nat}(hAns:F2 G N)(h7:7<=N)(hN:N<2199023255300)(w:Wz)(hG:∀w',ak w w'->G w'):Calls Yq.prog 16 #[] w fun e w'=>(e=.returned (.bool true)/\ak w w')\/Stop sw e w':=by
 have HR:Hid (∀W:Wz,ak w W->Calls Yq.prog 18 #[.slice (some ⟨W.heap.size,0,none⟩) 7 7] (W.alloc (.cells (vP.flatMap dZ).toArray 31)) fun e w'=>F0 vP 7 (W.alloc (.cells (vP.flatMap dZ).toArray 31)) e w'\/Stop sw e w'):=fun W hlW=>
  EN hAns _ vP _ (fun w' h=>hG w' ((hlW.alloc _).trans h)) (Ex W vP _ _ rfl 7 rfl FE (by simp [vP])) (by simp [vP]) (by simp [vP];omega) hN (fun o ho=>by have:=EM o ho;omega)
 clear hAns hG;go_enter (Yq.nq Tryz.func16),Tryz.ntmps16;go_wp2_with fail
 refine (kK _ _ _ w).mono ?_;rintro e w1 ⟨rfl,b1⟩;go_wp2_with fail
 refine (kK _ _ _ w1).mono ?_;rintro e w2 ⟨rfl,b2⟩;replace b2:=b1.trans (b2.mono b1.size);go_wp2_with fail
 refine (kK _ _ _ w2).mono ?_;rintro e w3 ⟨rfl,b3⟩;replace b3:=b2.trans (b3.mono b2.size);go_wp2_with fail
 refine (kK _ _ _ w3).mono ?_;rintro e w4 ⟨rfl,b4⟩;replace b4:=b3.trans (b4.mono b3.size);go_wp2_with fail
 refine (kK _ _ _ w4).mono ?_;rintro e w5 ⟨rfl,b5⟩;replace b5:=b4.trans (b5.mono b4.size);go_wp2_with fail
 refine (kK _ _ _ w5).mono ?_;rintro e w6 ⟨rfl,b6⟩;replace b6:=b5.trans (b6.mono b5.size);clear b1 b2 b3 b4 b5;go_wp2_with fail
 refine (HR.out w6 (.below b6)).mono ?_;rintro e w8 (⟨g,A,zs,rfl,hal,hown,hrows,hl,hg⟩|hst)
 .have HB:Hid (ak w w8):=((ak.below b6).alloc _).trans hl;rw [Gk] at hal;simp only [List.map_cons,List.map_nil,toL] at hal;obtain ⟨v0,zs1,rfl,hal1⟩:=cR hal;obtain ⟨v1,zs2,rfl,hal2⟩:=cR hal1;obtain ⟨v2,zs3,rfl,hal3⟩:=cR hal2;obtain ⟨v3,zs4,rfl,hal4⟩:=cR hal3;obtain ⟨v4,zs5,rfl,hal5⟩:=cR hal4;obtain ⟨v5,zs6,rfl,hal6⟩:=cR hal5;obtain ⟨v6,zs7,rfl,hal7⟩:=cR hal6;have hc:=hown;have c1:=hc 1 (by omega);have c11:=hc 11 (by omega);have c15:=hc 15 (by omega);have c20:=hc 20 (by omega);have c25:=hc 25 (by omega);have c26:=hc 26 (by omega);have c27:=hc 27 (by omega);have c30:=hc 30 (by omega);simp only [bV,List.flatMap_cons,List.cons_append,List.nil_append,gS,gZ] at c1 c11 c15 c20 c25 c26 c27 c30;clear hown hc hrows hl hal hal1 hal2 hal3 hal4 hal5 hal6 hal7 HR b6 hg;go_wp2;go_ret;exact .inl ⟨rfl,HB.out⟩
 .obtain ⟨x,y,r,rfl,hst⟩:=hst;exact ⟨rfl,.inr ⟨x,y,r,rfl,hst⟩⟩
end
