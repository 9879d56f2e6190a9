/- A part. -/
import Derived.Test.YtnapepbdohidgaaGreatDoorQU19
import Derived.Deep.QuietTactic
import Derived.BigQuiet
import Derived.Laws.AppendOwn
set_option maxHeartbeats 4000000
set_option maxRecDepth 100000
open Go renaming World->Wz,Value->Wq,TypeId->Wk
namespace Go.Proofs.Qw
section
open Go
open Go.Conc Go.ConcX Go.ConcX.Gen Go.RowKit
theorem sQ (a c:Int)(w:Wz):Calls Yq.prog 130 #[.int .i64 a,.int .i64 c] w fun e w'=>e=.returned (.bool (c==0))/\w'=w:=by
 go_enter (Yq.nq Tryz.func130),Tryz.ntmps130;go_wp2;go_ret;exact ⟨rfl,rfl⟩
theorem j9.lt {A:Nat->Prop}{w:Wz}{k r:Nat}{st:St}{tm:Int}{s:ByteArray}(h:j9 A w k r st tm s):r<w.heap.size:=bC w _ h.rd
theorem j9.setLast {A:Nat->Prop}{w:Wz}{k r:Nat}{st:St}{tm:Int}{s:ByteArray}(h:j9 A w k r st tm s)(l:Int):j9 A (w.setCell ⟨k,2,none⟩ (.int .i64 l)) k r (lastSt st l) tm s:=by
 obtain ⟨p,C,hN⟩:=h.store.cells;have hb:∀b,b≠k->(w.setCell ⟨k,2,none⟩ (.int .i64 l)).heap[b]?=w.heap[b]?:=fun b hne=>bS _ _ _ _ hne
 exact ⟨dB (st:=lastSt st l) (C.set2 _) (ai.keep (fun b h1 _=>⟨h1,hb b (h.store.avoid b h1)⟩) 41 p st.f hN) h.store.avoid,
  (cO w ⟨k,2,none⟩ ⟨k,3,none⟩ _ (by simp)).trans h.time,(cB (a:=⟨r,0,none⟩) (hb r (Ne.symm h.ne))).trans h.rd,(fB (a:=⟨r,0,none⟩) (hb r (Ne.symm h.ne))).trans h.fz,h.ne,h.avoid⟩
theorem j9.setTime {A:Nat->Prop}{w:Wz}{k r:Nat}{st:St}{tm:Int}{s:ByteArray}(h:j9 A w k r st tm s)(x:Int):j9 A (w.setCell ⟨k,3,none⟩ (.int .u64 x)) k r st x s:=by
 obtain ⟨p,C,hN⟩:=h.store.cells;have hb:∀b,b≠k->(w.setCell ⟨k,3,none⟩ (.int .u64 x)).heap[b]?=w.heap[b]?:=fun b hne=>bS _ _ _ _ hne
 exact ⟨dB ⟨co (by simp) C.c0,co (by simp) C.c1,co (by simp) C.c2,fun j=>fs (C.fz j)⟩ (ai.keep (fun b h1 _=>⟨h1,hb b (h.store.avoid b h1)⟩) 41 p st.f hN) h.store.avoid,
  cs h.time,(cB (a:=⟨r,0,none⟩) (hb r (Ne.symm h.ne))).trans h.rd,(fB (a:=⟨r,0,none⟩) (hb r (Ne.symm h.ne))).trans h.fz,h.ne,h.avoid⟩
theorem qz {w:Wz}{k r:Nat}(o:Nat)(v:Wq):Two2 k r w (w.setCell ⟨k,o,none⟩ v):=
 ⟨rfl,by simp [World.setCell],fun b _ h1 _=>bS _ _ _ _ h1⟩
theorem j9.grow {A:Nat->Prop}{w w':Wz}{k r:Nat}{st st':St}{tm:Int}{s:ByteArray}(h:j9 A w k r st tm s)(hS:ax (Grow A w) w' k st')(hg:bN w w' k):j9 (Grow A w) w' k r st' tm s:=by
 have hb:w'.heap[r]?=w.heap[r]?:=hg.g.block r h.lt (fun e=>h.ne (oJ e).symm);exact ⟨hS,(hg.t 3 (by omega)).trans h.time,(cB (a:=⟨r,0,none⟩) hb).trans h.rd,(fB (a:=⟨r,0,none⟩) hb).trans h.fz,h.ne,fun ha=>ha.elim (fun h1=>h.avoid h1.1) (fun h1=>by have:=h.lt;omega)⟩
def Df (A:Nat->Prop)(w:Wz)(k r:Nat)(st:St)(tm:Int)(s:ByteArray)(e:Ending)(w':Wz):Prop:=
 Two2 k r w w'/\((cu st tm s=none/\e=.returned (.bool false))\/∃st' tm' s',cu st tm s=some (st',tm',s')/\e=.returned (.bool true)/\∃A':Nat->Prop,(∀b,A' b->A b\/w.heap.size<=b)/\j9 A' w' k r st' tm' s'/\Inv st' 0/\eh st')
theorem Gg (s:ByteArray):nm8 s<18446744073709551616:=by
 have h1:=uZ (tkB s 8).data.toList;have h2:(tkB s 8).data.toList.length<=8:=by simpa using mJ s 8
 exact lL h1 (lT (Nat.pow_le_pow_right (by decide) h2) (by decide))
theorem qA (s:ByteArray):(txB s).size<=1000:=by
 have h1:=mJ (rsB s 1) (txL s);have h2:=DK s;unfold txB;omega
theorem Ff {A:Nat->Prop}{w:Wz}{k r:Nat}{st:St}{tm:Int}{s:ByteArray}(h:j9 A w k r st tm s)(hs:s.size<=maxLen)(hI:Inv st 0)(hT:eh st):
  Calls Yq.prog 106 #[.pointer (some ⟨k,0,none⟩),.pointer (some ⟨r,0,none⟩)] w (Df A w k r st tm s):=by
 have HH:Hid (j9 A w k r st tm s/\s.size<=maxLen/\Inv st 0/\eh st):=⟨h,hs,hI,hT⟩;have HN1:=nX r 1 s w hs (by omega) h.rd h.fz;clear h hs hI hT;go_enter (Yq.nq Tryz.func106),Tryz.ntmps106;go_wp2_with fail
 refine HN1.mono ?_;rintro e w1 ⟨rfl,r1⟩;have H1:Hid (j9 A w1 k r st tm (rsB s 1)/\Two2 k r w w1/\(rsB s 1).size<=maxLen):=⟨HH.out.1.rdTo r1,r1.two,by have:=HH.out.2.1;exact lT (du s 1) this⟩;have et:qG (tkB s 1).data.toList=txL s:=rfl;rw [et];have HP:Hid (cu st tm s=cu st tm s):=rfl;have HN2:Hid (Calls Yq.prog 127 #[.pointer (some ⟨r,0,none⟩),.int .i64 8] w1 fun e w'=>e=.returned (.int .u64 (nm8 (rsB s 1)))/\Hid (j9 A w' k r st tm (rsB (rsB s 1) 8)/\Two2 k r w w'/\(rsB (rsB s 1) 8).size<=maxLen)):=
  (nX r 8 (rsB s 1) w1 H1.out.2.2 (by omega) H1.out.1.rd H1.out.1.fz).mono fun e w2 h=>⟨h.1,H1.out.1.rdTo h.2,H1.out.2.1.trans h.2.two,lT (du _ _) H1.out.2.2⟩
 have hm:=Gg (rsB s 1);clear r1 HN1 et;by_cases t1:txL s=1
 .go_wp2_with fail
  refine HN2.out.mono ?_;rintro e w2 ⟨rfl,H2⟩;clear HN2;have HT2:=vg r (rsB (rsB s 1) 8) w2 H2.out.2.2 H2.out.1.rd H2.out.1.fz;go_wp2_with fail
  refine HT2.mono ?_;rintro e w3 ⟨rfl,r3⟩;have H3:Hid (j9 A w3 k r st tm (txR (rsB (rsB s 1) 8))/\Two2 k r w w3/\(txR (rsB (rsB s 1) 8)).size<=maxLen):=⟨H2.out.1.rdTo r3,H2.out.2.1.trans r3.two,lT (du _ _) (lT (du _ _) H2.out.2.2)⟩;have et3:tkB (rsB (rsB (rsB s 1) 8) 1) (txL (rsB (rsB s 1) 8))=txB (rsB (rsB s 1) 8):=rfl;rw [et3];clear r3 HT2 et3;have HT3:=vg r (txR (rsB (rsB s 1) 8)) w3 H3.out.2.2 H3.out.1.rd H3.out.1.fz;go_wp2_with fail
  refine HT3.mono ?_;rintro e w4 ⟨rfl,r4⟩;have H4:Hid (j9 A w4 k r st tm (txR (txR (rsB (rsB s 1) 8)))/\Two2 k r w w4/\(txR (txR (rsB (rsB s 1) 8))).size<=maxLen):=⟨H3.out.1.rdTo r4,H3.out.2.1.trans r4.two,lT (du _ _) (lT (du _ _) H3.out.2.2)⟩;have et4:tkB (rsB (txR (rsB (rsB s 1) 8)) 1) (txL (txR (rsB (rsB s 1) 8)))=txB (txR (rsB (rsB s 1) 8)):=rfl;rw [et4];clear r4 HT3 et4;have HP4:=nY k (nm8 (rsB s 1)) st.last w4 HH.out.2.2.1.last0 HH.out.2.2.1.lastS hm H4.out.1.store.last (H4.out.1.store.frozen 2);go_wp2_with fail
  refine HP4.mono ?_;clear HP4;rintro e w9 (⟨hp,rfl,rfl⟩|⟨l,hp,rfl,rfl⟩)
  .have hn:cu st tm s=none:=by simp [cu,t1,hp]
   have HR:Hid (cu st tm s=none):=hn;clear hn hp;go_wp2;go_ret;exact ⟨H4.out.2.1,.inl ⟨HR.out,rfl⟩⟩
  .have HLL:Hid (j9 A (w4.setCell ⟨k,2,none⟩ (.int .i64 l)) k r (lastSt st l) tm (txR (txR (rsB (rsB s 1) 8)))/\Two2 k r w (w4.setCell ⟨k,2,none⟩ (.int .i64 l))/\Inv (lastSt st l) 0/\eh (lastSt st l)):=⟨H4.out.1.setLast l,H4.out.2.1.trans (qz 2 _),HH.out.2.2.1.lastSt (fF hp).1 (fF hp).2,HH.out.2.2.2.lastSt l⟩;have HR:Hid (cu st tm s=if (jd (lastSt st l) (txB (rsB (rsB s 1) 8)) (txB (txR (rsB (rsB s 1) 8)))).2.2=0 then some ((jd (lastSt st l) (txB (rsB (rsB s 1) 8)) (txB (txR (rsB (rsB s 1) 8)))).1,tm,(txR (txR (rsB (rsB s 1) 8)))) else none):=show cu st tm s=_ by simp [cu,t1,hp]
   clear hp;generalize w4.setCell ⟨k,2,none⟩ (.int .i64 l)=w5 at *;go_wp2_with fail
   refine (wh A k (lastSt st l) 0 (txB (rsB (rsB s 1) 8)) (txB (txR (rsB (rsB s 1) 8))) w5 (lT (qA _) (by decide)) (lT (qA _) (by decide)) HLL.out.1.store HLL.out.2.2.1 (by omega)).mono ?_;rintro e w6 ⟨rfl,S6,g6⟩;have HV:=wE HLL.out.2.2.1 HLL.out.2.2.2 (txB (rsB (rsB s 1) 8)) (txB (txR (rsB (rsB s 1) 8)));have H6:Hid (j9 (Grow A w5) w6 k r (jd (lastSt st l) (txB (rsB (rsB s 1) 8)) (txB (txR (rsB (rsB s 1) 8)))).1 tm (txR (txR (rsB (rsB s 1) 8)))/\Two2 k r w w6/\Inv (jd (lastSt st l) (txB (rsB (rsB s 1) 8)) (txB (txR (rsB (rsB s 1) 8)))).1 0/\eh (jd (lastSt st l) (txB (rsB (rsB s 1) 8)) (txB (txR (rsB (rsB s 1) 8)))).1):=⟨HLL.out.1.grow S6 g6,HLL.out.2.1.trans g6.two,HV.1.norm HV.2,HV.2⟩;have HGW:Hid (w.heap.size<=w5.heap.size):=HLL.out.2.1.size;clear S6 g6 HV;generalize jd (lastSt st l) (txB (rsB (rsB s 1) 8)) (txB (txR (rsB (rsB s 1) 8)))=R at *;obtain ⟨st6,v6,c6⟩:=R;go_wp2_with fail
   refine (sQ _ _ w6).mono ?_;rintro e w7 ⟨rfl,h7⟩;obtain rfl:=h7.symm;clear h7;go_wp2_with fail
   go_ret;refine ⟨H6.out.2.1,?_⟩;by_cases hc:c6=0
   .refine .inr ⟨st6,tm,_,?_,by simp [hc],Grow A w5,fun b hb=>?_,H6.out.1,H6.out.2.2.1,H6.out.2.2.2⟩
    .rw [HR.out,if_pos hc]
    .rcases hb with ⟨hb,-⟩|hb
     .exact .inl hb
     .have:=HGW.out;exact .inr (by omega)
   .refine .inl ⟨?_,by simp [hc]⟩;rw [HR.out,if_neg hc]
 by_cases t2:txL s=2
 .go_wp2_with fail
  refine HN2.out.mono ?_;rintro e w2 ⟨rfl,H2⟩;clear HN2;have HT2:=vg r (rsB (rsB s 1) 8) w2 H2.out.2.2 H2.out.1.rd H2.out.1.fz;go_wp2_with fail
  refine HT2.mono ?_;rintro e w3 ⟨rfl,r3⟩;have H3:Hid (j9 A w3 k r st tm (txR (rsB (rsB s 1) 8))/\Two2 k r w w3/\(txR (rsB (rsB s 1) 8)).size<=maxLen):=⟨H2.out.1.rdTo r3,H2.out.2.1.trans r3.two,lT (du _ _) (lT (du _ _) H2.out.2.2)⟩;have et3:tkB (rsB (rsB (rsB s 1) 8) 1) (txL (rsB (rsB s 1) 8))=txB (rsB (rsB s 1) 8):=rfl;rw [et3];clear r3 HT2 et3;have HP3:=nY k (nm8 (rsB s 1)) st.last w3 HH.out.2.2.1.last0 HH.out.2.2.1.lastS hm H3.out.1.store.last (H3.out.1.store.frozen 2);go_wp2_with fail
  refine HP3.mono ?_;clear HP3;rintro e w9 (⟨hp,rfl,rfl⟩|⟨l,hp,rfl,rfl⟩)
  .have hn:cu st tm s=none:=by simp [cu,t2,hp]
   have HR:Hid (cu st tm s=none):=hn;clear hn hp;go_wp2;go_ret;exact ⟨H3.out.2.1,.inl ⟨HR.out,rfl⟩⟩
  .have HLL:Hid (j9 A (w3.setCell ⟨k,2,none⟩ (.int .i64 l)) k r (lastSt st l) tm (txR (rsB (rsB s 1) 8))/\Two2 k r w (w3.setCell ⟨k,2,none⟩ (.int .i64 l))/\Inv (lastSt st l) 0/\eh (lastSt st l)):=⟨H3.out.1.setLast l,H3.out.2.1.trans (qz 2 _),HH.out.2.2.1.lastSt (fF hp).1 (fF hp).2,HH.out.2.2.2.lastSt l⟩;have HR:Hid (cu st tm s=if (dD (lastSt st l) (txB (rsB (rsB s 1) 8))).2.2=0 then some ((dD (lastSt st l) (txB (rsB (rsB s 1) 8))).1,tm,(txR (rsB (rsB s 1) 8))) else none):=show cu st tm s=_ by simp [cu,t2,hp]
   clear hp;generalize w3.setCell ⟨k,2,none⟩ (.int .i64 l)=w5 at *;go_wp2_with fail
   refine (su A k (lastSt st l) 0 (txB (rsB (rsB s 1) 8)) w5 (lT (qA _) (by decide)) HLL.out.1.store HLL.out.2.2.1 (by omega)).mono ?_;rintro e w6 ⟨rfl,S6,g6⟩;have HV:=sP HLL.out.2.2.1 HLL.out.2.2.2 (txB (rsB (rsB s 1) 8));have H6:Hid (j9 (Grow A w5) w6 k r (dD (lastSt st l) (txB (rsB (rsB s 1) 8))).1 tm (txR (rsB (rsB s 1) 8))/\Two2 k r w w6/\Inv (dD (lastSt st l) (txB (rsB (rsB s 1) 8))).1 0/\eh (dD (lastSt st l) (txB (rsB (rsB s 1) 8))).1):=⟨HLL.out.1.grow S6 g6,HLL.out.2.1.trans g6.two,HV.1.norm HV.2,HV.2⟩;have HGW:Hid (w.heap.size<=w5.heap.size):=HLL.out.2.1.size;clear S6 g6 HV;generalize dD (lastSt st l) (txB (rsB (rsB s 1) 8))=R at *;obtain ⟨st6,v6,c6⟩:=R;go_wp2_with fail
   refine (sQ _ _ w6).mono ?_;rintro e w7 ⟨rfl,h7⟩;obtain rfl:=h7.symm;clear h7;go_wp2_with fail
   go_ret;refine ⟨H6.out.2.1,?_⟩;by_cases hc:c6=0
   .refine .inr ⟨st6,tm,_,?_,by simp [hc],Grow A w5,fun b hb=>?_,H6.out.1,H6.out.2.2.1,H6.out.2.2.2⟩
    .rw [HR.out,if_pos hc]
    .rcases hb with ⟨hb,-⟩|hb
     .exact .inl hb
     .have:=HGW.out;exact .inr (by omega)
   .refine .inl ⟨?_,by simp [hc]⟩;rw [HR.out,if_neg hc]
 by_cases t3:txL s=3
 .go_wp2_with fail
  refine HN2.out.mono ?_;rintro e w2 ⟨rfl,H2⟩;clear HN2;have HP2:=nY k (nm8 (rsB s 1)) st.last w2 HH.out.2.2.1.last0 HH.out.2.2.1.lastS hm H2.out.1.store.last (H2.out.1.store.frozen 2);go_wp2_with fail
  refine HP2.mono ?_;clear HP2;rintro e w9 (⟨hp,rfl,rfl⟩|⟨l,hp,rfl,rfl⟩)
  .have hn:cu st tm s=none:=by simp [cu,t3,hp]
   have HR:Hid (cu st tm s=none):=hn;clear hn hp;go_wp2;go_ret;exact ⟨H2.out.2.1,.inl ⟨HR.out,rfl⟩⟩
  .have HR:Hid (cu st tm s=some (lastSt st l,tm,rsB (rsB s 1) 8)):=show cu st tm s=_ by simp [cu,t3,hp]
   have HLL:Hid (j9 A (w2.setCell ⟨k,2,none⟩ (.int .i64 l)) k r (lastSt st l) tm (rsB (rsB s 1) 8)/\Two2 k r w (w2.setCell ⟨k,2,none⟩ (.int .i64 l))/\Inv (lastSt st l) 0/\eh (lastSt st l)):=⟨H2.out.1.setLast l,H2.out.2.1.trans (qz 2 _),HH.out.2.2.1.lastSt (fF hp).1 (fF hp).2,HH.out.2.2.2.lastSt l⟩;clear hp;go_wp2_with fail
   go_ret;exact ⟨HLL.out.2.1,.inr ⟨_,_,_,HR.out,rfl,A,fun b h=>.inl h,HLL.out.1,HLL.out.2.2.1,HLL.out.2.2.2⟩⟩
 by_cases t4:txL s=4
 .go_wp2_with fail
  refine HN2.out.mono ?_;rintro e w2 ⟨rfl,H2⟩;clear HN2;have HR:Hid (cu st tm s=some (st,((nm8 (rsB s 1):Nat):Int),rsB (rsB s 1) 8)):=show cu st tm s=_ by simp [cu,t4]
  have c3:=H2.out.1.time;have f3:=H2.out.1.store.frozen 3;go_wp2_with fail
  go_ret;exact ⟨H2.out.2.1.trans (qz 3 _),.inr ⟨_,_,_,HR.out,rfl,A,fun b h=>.inl h,H2.out.1.setTime _,HH.out.2.2.1,HH.out.2.2.2⟩⟩
 .have hn:cu st tm s=none:=by simp [cu,t1,t2,t3,t4]
  have HR:Hid (cu st tm s=none):=hn;clear hn hm HN2;generalize txL s=t at *;go_wp2;go_ret;exact ⟨H1.out.2.1,.inl ⟨HR.out,rfl⟩⟩
def gt:Nat->St->Int->ByteArray->Option (St×Int)
 | 0,_,_,_=>none
 |n+1,st,tm,s=>if s.size=0 then some (st,tm) else match cu st tm s with
  |none=>none
  |some x=>gt n x.1 x.2.1 x.2.2
def fj (saved:ByteArray):Option (St×Int):=match gt (saved.size+1) st0 0 saved with
 |none=>none
 |some x=>if dK x.1 x.2=saved then some x else none
theorem Dg (s:ByteArray)(n:Nat)(hn:0<n)(hs:s.size≠0):(rsB s n).size<s.size:=by
 have:(rsB s n).size=s.size-min n s.size:=by simp [rsB]
 omega
theorem A8 {st:St}{tm:Int}{s:ByteArray}{x:St×Int×ByteArray}(hs:s.size≠0)(h:cu st tm s=some x):x.2.2.size<s.size:=by
 have h1:=Dg s 1 (by omega) hs;have h2:=du (rsB s 1) 8;have h3:∀s,(txR s).size<=s.size:=fun s=>lT (du _ _) (du _ _)
 have h4:=h3 (rsB (rsB s 1) 8);have h5:=h3 (txR (rsB (rsB s 1) 8));unfold cu at h
 repeat' split at h
 all_goals first
  |(exfalso;revert h;simp;done)
  |(have e:=oJ h;rw [<-e];dsimp only;omega)
theorem yE {t:ByteArray}(h:t≠⟨#[]⟩):t.toList.isEmpty=false:=by
 rw [ByteArray.toList_eq];cases e:t.data.toList with
 |nil=>exact absurd (ByteArray.ext (Array.toList_inj.1 (e.trans rfl))) h
 |cons a r=>rfl
def Gu (w:Wz)(r:Nat):Nat:=match w.cell? ⟨r,0,none⟩ with
 |some (.string s)=>s.size
 |_=>0
theorem A9 (w:Wz):(Instr.build 59 #[]).run Yq.prog w=.ok (.agg #[.pointer none,.int .i64 0,.int .i64 0,.int .u64 0]) w:=by kernel_rfl
theorem Dh (s:ByteArray)(w:Wz):(Instr.build 176 #[(0,.string s)]).run Yq.prog w=.ok (.agg #[.string s]) w:=by kernel_rfl
def Di (saved:ByteArray)(w:Wz)(e:Ending)(w':Wz):Prop:=
 ak w w'/\((fj saved=none/\e=.returned (.tuple #[.agg #[.pointer none,.int .i64 0,.int .i64 0,.int .u64 0],.int .i64 12])) \/
  ∃ (st:St) (tm:Int) (p:Option Addr) (A:Nat->Prop),fj saved=some (st,tm)/\e=.returned (.tuple #[.agg #[.pointer p,.int .i64 st.count,.int .i64 st.last,.int .u64 tm],.int .i64 0])/\ai A 41 w' p st.f/\(∀b,A b->w.heap.size<=b)/\Inv st 0/\eh st)
structure LdI (saved:ByteArray)(W wr:Wz)(k r:Nat)(A:Nat->Prop)(st:St)(tm:Int)(s:ByteArray)(n:Nat):Prop where
 ld:j9 A wr k r st tm s
 size:s.size<=maxLen
 fuel:s.size<n
 eq:gt n st tm s=gt (saved.size+1) st0 0 saved
 inv:Inv st 0
 invT:eh st
 two:Two2 k r W wr
 far:∀b,A b->W.heap.size<=b
theorem Dj (w:Wz)(x y z:Array Wq)(T U V:Wk)(j:Nat):(((w.alloc (.cells x T)).alloc (.cells y U)).alloc (.cells z V)).cell? ⟨w.heap.size,j,none⟩=x[j]?/\(((w.alloc (.cells x T)).alloc (.cells y U)).alloc (.cells z V)).frozen? ⟨w.heap.size,j,none⟩=false:=by
 have hb:(((w.alloc (.cells x T)).alloc (.cells y U)).alloc (.cells z V)).heap[w.heap.size]?=(w.alloc (.cells x T)).heap[w.heap.size]?:=by
  rw [bA _ _ _ (by simp;omega),bA _ _ _ (by simp)]
 exact ⟨(cB (a:=⟨w.heap.size,j,none⟩) hb).trans (gJ w _ _ j),(fB (a:=⟨w.heap.size,j,none⟩) hb).trans (World.frozen?_alloc_at (w:=w) _ _ w.heap.size j rfl)⟩
theorem Ba (w:Wz)(x y z:Array Wq)(T U V:Wk)(j:Nat):(((w.alloc (.cells x T)).alloc (.cells y U)).alloc (.cells z V)).cell? ⟨w.heap.size+1,j,none⟩=y[j]?/\(((w.alloc (.cells x T)).alloc (.cells y U)).alloc (.cells z V)).frozen? ⟨w.heap.size+1,j,none⟩=false:=by
 have e:(w.alloc (.cells x T)).heap.size=w.heap.size+1:=by simp
 have hb:(((w.alloc (.cells x T)).alloc (.cells y U)).alloc (.cells z V)).heap[w.heap.size+1]?=((w.alloc (.cells x T)).alloc (.cells y U)).heap[w.heap.size+1]?:=by
  rw [bA _ _ _ (by simp)]
 have h1:=gJ (w.alloc (.cells x T)) y U j;have h2:=World.frozen?_alloc_at (w:=w.alloc (.cells x T)) y U (w.alloc (.cells x T)).heap.size j rfl;rw [e] at h1 h2;exact ⟨(cB (a:=⟨w.heap.size+1,j,none⟩) hb).trans h1,(fB (a:=⟨w.heap.size+1,j,none⟩) hb).trans h2⟩
theorem Dl (w:Wz)(x y z:Array Wq)(T U V:Wk)(j:Nat):(((w.alloc (.cells x T)).alloc (.cells y U)).alloc (.cells z V)).cell? ⟨w.heap.size+1+1,j,none⟩=z[j]?/\(((w.alloc (.cells x T)).alloc (.cells y U)).alloc (.cells z V)).frozen? ⟨w.heap.size+1+1,j,none⟩=false:=by
 have e:((w.alloc (.cells x T)).alloc (.cells y U)).heap.size=w.heap.size+1+1:=by simp
 have h1:=gJ ((w.alloc (.cells x T)).alloc (.cells y U)) z V j;have h2:=World.frozen?_alloc_at (w:=(w.alloc (.cells x T)).alloc (.cells y U)) z V ((w.alloc (.cells x T)).alloc (.cells y U)).heap.size j rfl;rw [e] at h1 h2;exact ⟨h1,h2⟩
theorem Fg (saved:ByteArray)(w:Wz)(hs:saved.size<=maxLen):Calls Yq.prog 79 #[.string saved] w (Di saved w):=by
 have hb1:=A9;have hb2:=Dh;have HS:Hid (saved.size<=maxLen):=hs;clear hs;go_enter (Yq.nq Tryz.func79),Tryz.ntmps79;go_wp2_with fail
 obtain ⟨t,ht⟩:∃t,t=w.heap.size:=⟨_,rfl⟩;obtain ⟨W3,hW3⟩:∃W3,W3=((w.alloc (.cells #[.pointer none,.int .i64 0,.int .i64 0,.int .u64 0] 59)).alloc (.cells #[.pointer none,.int .i64 0,.int .i64 0,.int .u64 0] 59)).alloc (.cells #[.string saved] 176):=⟨_,rfl⟩;rw [<-hW3,<-ht];have HL3:Hid (ak w W3/\W3.heap.size=t+3/\t=w.heap.size):=⟨by rw [hW3];exact ((ak.refl.alloc _).alloc _).alloc _,by rw [hW3,ht];simp,ht⟩;have hb0:∀j,W3.cell? ⟨t,j,none⟩=(#[.pointer none,.int .i64 0,.int .i64 0,.int .u64 0]:Array Wq)[j]?/\W3.frozen? ⟨t,j,none⟩=false:=fun j=>by
  rw [hW3,ht];exact Dj w _ _ _ _ _ _ j
 have hb1':∀j,W3.cell? ⟨t+1,j,none⟩=(#[.pointer none,.int .i64 0,.int .i64 0,.int .u64 0]:Array Wq)[j]?/\W3.frozen? ⟨t+1,j,none⟩=false:=fun j=>by
  rw [hW3,ht];exact Ba w _ _ _ _ _ _ j
 have hb2':∀j,W3.cell? ⟨t+1+1,j,none⟩=(#[.string saved]:Array Wq)[j]?/\W3.frozen? ⟨t+1+1,j,none⟩=false:=fun j=>by
  rw [hW3,ht];exact Dl w _ _ _ _ _ _ j
 have HI0:Hid (LdI saved W3 W3 (t+1) (t+1+1) (fun _=>False) st0 0 saved (saved.size+1)):=
  ⟨⟨⟨fun _ h=>h.elim,⟨none,(hb1' 0).1,ai.nil (fun _=>rfl)⟩,(hb1' 1).1,(hb1' 2).1,fun j=>(hb1' j).2⟩,(hb1' 3).1,(hb2' 0).1,(hb2' 0).2,by omega,fun h=>h⟩,HS.out,by omega,rfl,inv0,ES,Two2.refl,fun _ h=>h.elim⟩
 have HZZ:Hid (∀wr w1,Two2 (t+1) (t+1+1) W3 wr->Two2 (t+1) (t+1+1) wr w1->(w1.cell? ⟨t,0,none⟩=some (.pointer none)/\w1.frozen? ⟨t,0,none⟩=false)/\(w1.cell? ⟨t,1,none⟩=some (.int .i64 0)/\w1.frozen? ⟨t,1,none⟩=false)/\(w1.cell? ⟨t,2,none⟩=some (.int .i64 0)/\w1.frozen? ⟨t,2,none⟩=false)/\(w1.cell? ⟨t,3,none⟩=some (.int .u64 0)/\w1.frozen? ⟨t,3,none⟩=false)/\Hid (∀x0 x1 x2 x3,ak w ((((w1.setCell ⟨t,0,none⟩ x0).setCell ⟨t,1,none⟩ x1).setCell ⟨t,2,none⟩ x2).setCell ⟨t,3,none⟩ x3))):=fun wr w1 t0 t1=>by
  have h1:=HL3.out;have h2:=t0.trans t1;have h3:=h1.1.size;have hbt:=h2.block t (by omega) (by omega) (by omega);have hz:∀j,w1.cell? ⟨t,j,none⟩=(#[.pointer none,.int .i64 0,.int .i64 0,.int .u64 0]:Array Wq)[j]?/\w1.frozen? ⟨t,j,none⟩=false:=fun j=>⟨(cB (a:=⟨t,j,none⟩) hbt).trans (hb0 j).1,(fB (a:=⟨t,j,none⟩) hbt).trans (hb0 j).2⟩
  have hl:ak w w1:=⟨h2.os.trans h1.1.os,lT h3 h2.size,fun b hb=>by rw [h2.block b (by omega) (by omega) (by omega),h1.1.block b hb]⟩;exact ⟨hz 0,hz 1,hz 2,hz 3,fun x0 x1 x2 x3=>(((hl.set (by omega) _ _).set (by omega) _ _).set (by omega) _ _).set (by omega) _ _⟩
 clear hb0 hb1' hb2' hW3 ht
 go_loopw [8] (fun _ wr=>∃ (A:Nat->Prop) (st:St) (tm:Int) (s:ByteArray) (n:Nat),LdI saved W3 wr (t+1) (t+1+1) A st tm s n) (fun _ wr=>Gu wr (t+1+1))
 case atStart=>exact ⟨_,_,_,_,_,HI0.out⟩
 case round=>
  obtain ⟨A,st,tm,s,n,hL⟩:=hrel;have HLD:Hid (LdI saved W3 wr (t+1) (t+1+1) A st tm s n):=hL;have c0:=hL.ld.rd;clear hL HI0;by_cases h0:s.size=0
  .obtain rfl:s=⟨#[]⟩:=ByteArray.ext (Array.toList_inj.1 (List.eq_nil_of_length_eq_zero (by simpa using h0)));clear h0;go_wp2_with fail
   refine (A4 HLD.out.ld.store HLD.out.ld.time HLD.out.inv HLD.out.invT).mono ?_;rintro e w1 ⟨rfl,l1⟩;obtain ⟨⟨z0,y0⟩,⟨z1,y1⟩,⟨z2,y2⟩,⟨z3,y3⟩,HLW⟩:=HZZ.out wr w1 HLD.out.two ⟨l1.os,l1.size,fun b hb _ _=>l1.block b hb⟩;obtain ⟨p,C,hN⟩:=HLD.out.ld.store.cells;have e0:=l1.cell C.c0;have e1:=l1.cell C.c1;have e2:=l1.cell C.c2;have e3:=l1.cell HLD.out.ld.time;have HN:Hid (ai A 41 wr p st.f/\ak wr w1):=⟨hN,l1⟩;have HEQ:Hid (gt (saved.size+1) st0 0 saved=some (st,tm)):=by
    show gt (saved.size+1) st0 0 saved=some (st,tm);rw [<-HLD.out.eq];have:=HLD.out.fuel;obtain ⟨m,rfl⟩:∃m,n=m+1:=⟨n-1,by omega⟩;rw [gt,if_pos (by decide)]
   clear C hN l1;by_cases heq:dK st tm=saved
   .have HF:Hid (fj saved=some (st,tm)):=by show fj saved=some (st,tm);rw [fj,HEQ.out];simp [heq]
    rw [heq];go_wp2_with fail
    refine bodyPost_ret (v:=.tuple #[.agg #[.pointer p,.int .i64 st.count,.int .i64 st.last,.int .u64 tm],.int .i64 0]) (by simp [results,Tryz.results79,go_sem,z0,z1,z2,z3]) rfl ⟨HLW.out _ _ _ _,.inr ⟨st,tm,p,A,HF.out,rfl,?_,fun b hb=>?_,HLD.out.inv,HLD.out.invT⟩⟩
    .have h1:=HL3.out;have h2:=HLD.out;refine ai.keep (fun b hb hlt=>⟨hb,?_⟩) 41 _ _ HN.out.1;have hbt:b≠t:=by have:=h2.far b hb;omega
     rw [bS _ _ _ _ hbt,bS _ _ _ _ hbt,bS _ _ _ _ hbt,bS _ _ _ _ hbt];exact HN.out.2.block b hlt
    .have h1:=HL3.out;have:=HLD.out.far b hb;omega
   .have HF:Hid (fj saved=none):=by show fj saved=none;rw [fj,HEQ.out];simp [heq]
    have hne':¬(dK st tm).toList=saved.toList:=fun e=>heq (ByteArray.ext (Array.toList_inj.1 (by rw [<-ByteArray.toList_eq,<-ByteArray.toList_eq];exact e)))
    have hne:((dK st tm).toList==saved.toList)=false:=by simpa using hne'
    clear hne';clear heq;generalize dK st tm=sb at *;go_wp2_with fail
    exact bodyPost_ret (v:=.tuple #[.agg #[.pointer none,.int .i64 0,.int .i64 0,.int .u64 0],.int .i64 12]) (by simp [results,Tryz.results79,go_sem,z0,z1,z2,z3]) rfl ⟨HLW.out _ _ _ _,.inl ⟨HF.out,rfl⟩⟩
  .have hem:=yE (t:=s) (fun e=>h0 (by rw [e];rfl));have HNZ:Hid (s.size≠0):=h0;clear h0;go_wp2_with fail
   refine (Ff HLD.out.ld HLD.out.size HLD.out.inv HLD.out.invT).mono ?_;rintro e w1 ⟨t1,⟨hp,rfl⟩|⟨st',tm',s',hp,rfl,A',hA',ld',i',j'⟩⟩
   .have HF:Hid (fj saved=none):=by
     show fj saved=none;rw [fj,<-HLD.out.eq];have:=HLD.out.fuel;obtain ⟨m,rfl⟩:∃m,n=m+1:=⟨n-1,by omega⟩;rw [gt,if_neg HNZ.out,hp]
    obtain ⟨⟨z0,y0⟩,⟨z1,y1⟩,⟨z2,y2⟩,⟨z3,y3⟩,HLW⟩:=HZZ.out wr w1 HLD.out.two t1;clear hp t1;go_wp2_with fail
    exact bodyPost_ret (v:=.tuple #[.agg #[.pointer none,.int .i64 0,.int .i64 0,.int .u64 0],.int .i64 12]) (by simp [results,Tryz.results79,go_sem,z0,z1,z2,z3]) rfl ⟨HLW.out _ _ _ _,.inl ⟨HF.out,rfl⟩⟩
   .have HNX:Hid ((∃A st tm s n,LdI saved W3 w1 (t+1) (t+1+1) A st tm s n)/\Gu w1 (t+1+1)<Gu wr (t+1+1)):=by
     have hls:=A8 HNZ.out hp;simp only at hls;have h:=HLD.out;have hf:=h.fuel;have hsz:=h.size;obtain ⟨m,rfl⟩:∃m,n=m+1:=⟨n-1,by omega⟩;refine ⟨⟨A',st',tm',s',m,ld',by omega,by omega,?_,i',j',h.two.trans t1,fun b hb=>?_⟩,?_⟩
     .have:=h.eq;rw [gt,if_neg HNZ.out,hp] at this;exact this
     .rcases hA' b hb with h1|h1
      .exact h.far b h1
      .have:=h.two.size;omega
     .simp only [Gu,ld'.rd,h.ld.rd];exact hls
    clear hp t1 hA' ld' i' j';go_wp2_with fail
    exact HNX.out
def cW (ks:List Int)(bs:List ByteArray)(src:Int)(body:ByteArray):ByteArray:=
 if 0<=src/\src<bs.length then (if ks[src.toNat]?.getD 0=11 then bs[src.toNat]?.getD ⟨#[]⟩ else body) else body
def cE (st:St)(L:Lg)(b:ByteArray):St×Lg×iE:=match fj b with
 |none=>(st,L,⟨12,0,⟨#[]⟩,[],⟨#[]⟩⟩)
 |some x=>(x.1,{L with opened:=[],tm:=x.2},⟨0,0,⟨#[]⟩,[],⟨#[]⟩⟩)
theorem Bb {st:St}{tm:Int}{s:ByteArray}{x:St×Int×ByteArray}(hI:Inv st 0)(hT:eh st)(h:cu st tm s=some x):Inv x.1 0/\eh x.1:=by
 have hl:∀l,ll st.last (nm8 (rsB s 1))=some l->Inv (lastSt st l) 0/\eh (lastSt st l):=fun l e=>⟨hI.lastSt (fF e).1 (fF e).2,hT.lastSt l⟩
 unfold cu at h;split at h
 .split at h
  .exact absurd h (by simp)
  .rename_i l e;split at h
   .rw [<-oJ h];dsimp only;have:=wE (hl l e).1 (hl l e).2 (txB (rsB (rsB s 1) 8)) (txB (txR (rsB (rsB s 1) 8)));exact ⟨this.1.norm this.2,this.2⟩
   .exact absurd h (by simp)
 .split at h
  .split at h
   .exact absurd h (by simp)
   .rename_i l e;split at h
    .rw [<-oJ h];dsimp only;have:=sP (hl l e).1 (hl l e).2 (txB (rsB (rsB s 1) 8));exact ⟨this.1.norm this.2,this.2⟩
    .exact absurd h (by simp)
  .split at h
   .split at h
    .exact absurd h (by simp)
    .rename_i l e;rw [<-oJ h];dsimp only;exact hl l e
   .split at h
    .rw [<-oJ h];dsimp only;exact ⟨hI,hT⟩
    .exact absurd h (by simp)
theorem sR:∀ (n:Nat)(st:St)(tm:Int)(s:ByteArray)(x:St×Int),Inv st 0->eh st->gt n st tm s=some x->Inv x.1 0/\eh x.1
 | 0,_,_,_,_,_,_,h=>by simp [gt] at h
 |n+1,st,tm,s,x,hI,hT,h=>by
  unfold gt at h;split at h
  .cases h;exact ⟨hI,hT⟩
  .split at h
   .exact absurd h (by simp)
   .rename_i y e;have:=Bb hI hT e;exact sR n _ _ _ x this.1 this.2 h
theorem o7 {b:ByteArray}{x:St×Int}(h:fj b=some x):gt (b.size+1) st0 0 b=some x/\dK x.1 x.2=b:=by
 unfold fj at h;split at h
 .exact absurd h (by simp)
 .rename_i y e;split at h
  .rename_i hs;cases h;exact ⟨e,hs⟩
  .exact absurd h (by simp)
theorem Bc {b:ByteArray}{x:St×Int}(h:fj b=some x):Inv x.1 0/\eh x.1:=
 sR _ _ _ _ x inv0 ES (o7 h).1
theorem sU (xs:List Wq):(bytesOf xs).size=xs.length:=by simp [bytesOf,ByteArray.size]
theorem Dm (k:ByteArray)(v:Ver):(AT k v).length=uU k v:=by
 unfold AT uU;split
 .simp only [lP,lS,qv,sJ];omega
 .simp only [lP,lS,qv,sJ];omega
theorem Bd (E:List (ByteArray×Ver)):(fO E).length=dl E:=by
 induction E with
 |nil=>rfl
 |cons e E ih=>
  simp only [fO,dl,List.flatMap_cons,lP,List.map_cons,List.sum_cons] at ih ⊢;rw [ih,Dm]
theorem yF {st:St}(hT:eh st):(iG st).length<=200:=by
 have h3:gm (db st.f [])=tot 41 st.f:=rfl;have:=hT.cnt;have:=hT.le;rw [iG,gq,j1];omega
theorem yG {st:St}(hT:eh st)(tm:Int):(dK st tm).size<=maxLen:=by
 have hn:=sO (E:=iG st) fun e he=>⟨(gr he).1,by obtain ⟨k,hk⟩:=(gr he).2;exact hT.body k _ hk⟩
 have hl:=yF hT;rw [dK,sU];simp only [lP,lS,qv,Bd,maxLen];omega
structure DL (w:Wz)(k0 g0 s:Nat)(ks:List Int)(bs:List ByteArray):Prop where
 kl:ks.length=s
 bl:bs.length=s
 small:∀b∈bs,b.size<=maxLen
 script:∃sb so sn sc,w.cell? ⟨k0,7,none⟩=some (.slice (some ⟨sb,so,none⟩) sn sc)/\s<=sn/\∀i (hi:i<ks.length),w.cell? ⟨sb,so+i * 7,none⟩=some (.int .i64 ks[i])
 bodies:∀i (hi:i<bs.length),w.cell? ⟨g0,i * 5+2,none⟩=some (.string bs[i])
theorem DL.left {w w':Wz}{k0 g0 s:Nat}{ks:List Int}{bs:List ByteArray}(h:DL w k0 g0 s ks bs)(hl:ak w w'):DL w' k0 g0 s ks bs:=by
 obtain ⟨sb,so,sn,sc,h1,h2,h3⟩:=h.script;exact ⟨h.kl,h.bl,h.small,⟨sb,so,sn,sc,hl.cell h1,h2,fun i hi=>hl.cell (h3 i hi)⟩,fun i hi=>hl.cell (h.bodies i hi)⟩
section
variable {A:Nat->Prop} {B k0:Nat} {w:Wz} {st:St} {L:Lg}
theorem sW (h:aH A B w k0 st L)(hB:B<=w.heap.size)(hop:L.opened.length<=3)(o:OpD)(hk:o.kind=10):
  Calls Yq.prog 33 #[.pointer (some ⟨k0,0,none⟩),cj o] w (bg A B k0 w st L ⟨0,st.count,⟨#[]⟩,L.opened.map iD,⟨#[]⟩⟩):=by
 have hd0:aH A B (cx w o).drew k0 st L:=h.left ((aK o).drew);have HT:=AI (cx w o).drew hd0.ls hop;have HN:=CY k0 st.count (cx w o).drew hd0.store.count;obtain ⟨its,hits⟩:∃its,its=L.opened.map iD:=⟨_,rfl⟩;rw [<-hits] at HT ⊢;have hLd:ak (cx w o) (cx w o).drew:=ak.refl.drew;have hkw:k0<(cx w o).heap.size:=by have:=h.ls.lt;rw [aL];omega
 have HB:Hid (∀w1,Below (cx w o).drew.heap.size (cx w o).drew w1->_):=fun w1 hb=>box5 (jZ o h.ls (FrC.left hkw (hLd.trans (.below hb))))
 have HF:Hid (∀w1 so sn sc x0 x1 x2 x3 x4,Below (cx w o).drew.heap.size (cx w o).drew w1->w1.ownsRow (cx w o).drew.heap.size 41 3 (.slice so sn sc) its.length (ay its)->bg A B k0 w st L ⟨0,st.count,⟨#[]⟩,its,⟨#[]⟩⟩ (.returned (iS ⟨0,st.count,⟨#[]⟩,its,⟨#[]⟩⟩ (.slice so sn sc))) (put5 w1 (w.heap.size+1) x0 x1 x2 x3 x4)):=fun w1 so sn sc x0 x1 x2 x3 x4 hb hrow=>by
  have hl:ak (cx w o) w1:=hLd.trans (.below hb);obtain ⟨A',a1,a2,a3,a4,a5,a6⟩:=bc.page (h.ls.left (aK o)) hl hrow (lR _) (fun _ _ _=>rfl);have d1:=(h.left (aK o)).step a4 a1 a3 rfl;obtain ⟨e1,e2,e3,e4⟩:=kZ (A':=A') (sv:=.slice so sn sc) (its:=its) (r:=w.heap.size+1) (aK o) h.ls.lt hB (by omega) (by rw [aL];omega) ⟨_,fD o,rfl⟩ a1 a2 h.ls.inn d1 a4.weak a6 (fg o h.ls) a5 x0 x1 x2 x3 x4;exact ⟨_,rfl,A',a1,e1,e2,e3,e4⟩
 have hb1:=yr;clear hits hd0 hLd hkw;obtain ⟨kind,key,body,delim,past,n,src⟩:=o;simp only at hk;subst hk;unfold cx at HT HF HB HN;clear h;unfold cj;go_enter (Yq.nq Tryz.func33),Tryz.ntmps33;go_wp2_with fail
 go_region_with (first
  |(go_at_call 46;refine HN.mono ?_;rintro e w1 ⟨rfl,rfl⟩)
  |(go_at_call 47;refine HT.mono ?_;rintro e w1 ⟨sv,rfl,hrow,hb⟩;obtain ⟨so,sc,rfl,-⟩:=aw hrow;obtain ⟨⟨b0,b1,b2,b3,b4⟩,f0,f1,f2,f3,f4⟩:=HB.out w1 hb))
 all_goals
  go_wp2;exact bodyPost_ret (v:=iS ⟨0,st.count,⟨#[]⟩,its,⟨#[]⟩⟩ (.slice so its.length sc)) (by simp [results,Tryz.results33,go_sem,iS,b0,b1,b2,b3,b4]) rfl (HF.out w1 _ _ _ _ _ _ _ _ hb hrow)
end
def Fh (R:Lg×List ItD×ByteArray×Int):iE:=⟨R.2.2.2,0,⟨#[]⟩,R.2.1,R.2.2.1⟩
def stepA (st:St)(L:Lg)(toks:List ByteArray)(o:OpD):St×Lg×iE:=
 if o.kind=6 then (st,(gu L st.f ⟨false,o.key,o.delim,o.past⟩ o.n).1,Fh (gu L st.f ⟨false,o.key,o.delim,o.past⟩ o.n))
 else if o.kind=7 then (st,(gu L st.f ⟨true,o.key,o.delim,o.past⟩ o.n).1,Fh (gu L st.f ⟨true,o.key,o.delim,o.past⟩ o.n))
 else if o.kind=8 then (st,(fM L (gW toks o.src o.body)).1,Fh (fM L (gW toks o.src o.body)))
 else if o.kind=9 then (st,(iC L o.n).1,⟨(iC L o.n).2,0,⟨#[]⟩,[],⟨#[]⟩⟩)
 else if o.kind=10 then (st,L,⟨0,st.count,⟨#[]⟩,L.opened.map iD,⟨#[]⟩⟩)
 else if o.kind=11 then (st,L,⟨0,0,dK st L.tm,[],⟨#[]⟩⟩)
 else ((bz st o).1,L,⟨(bz st o).2.code,(bz st o).2.ver,(bz st o).2.body,[],⟨#[]⟩⟩)
def lm (st:St)(L:Lg)(toks:List ByteArray)(b:ByteArray)(o:OpD):St×Lg×iE:=if o.kind=12 then cE st L b else stepA st L toks o
structure sX (Qok:Qy->Prop)(o:OpD):Prop where
 q:o.kind=6->Qok ⟨false,o.key,o.delim,o.past⟩
 q7:o.kind=7->Qok ⟨true,o.key,o.delim,o.past⟩
structure Gh (Qok:Qy->Prop)(o:OpD):Prop where
 k12:o.kind≠12
 q:o.kind=6->Qok ⟨false,o.key,o.delim,o.past⟩
 q7:o.kind=7->Qok ⟨true,o.key,o.delim,o.past⟩
structure qB (Qok:Qy->Prop)(L:Lg)(s:Nat):Prop where
 len:L.opened.length<=3
 left:∀x∈L.opened,0<=x.left/\x.left<=10
 ok:∀x∈L.opened,Qok x.q/\gm (db x.f x.q.p.data.toList)<=1000/\x.q.p.size<=maxLen
 begun:0<=L.begun/\L.begun<=s
 told:∀tok n pg,em tok L.told=some (n,pg)->(0<=n/\n<=s)/\0<=pg/\pg<=s+1
theorem o9 (k k':ByteArray)(x:Int×Int)(t:Told):em k (lX k' x t)=if k=k' then some x else em k t:=by
 induction t with
 |nil=>simp [lX,em]
 |cons a r ih=>
  obtain ⟨a1,a2⟩:=a;by_cases h:k'=a1
  .subst h;simp only [lX,if_true,em];by_cases h2:k=k'<;>simp [h2]
  .simp only [lX,if_neg h,em,ih];by_cases h2:k=a1
   .subst h2;rw [if_pos rfl,if_neg (fun e=>h e.symm),if_pos rfl]
   .rw [if_neg h2,if_neg h2]
theorem eh.sum {st:St}(h:eh st)(p:List UInt8):gm (db st.f p)<=1000:=by
 have h2:=Aq p 41 st.f;have h3:gm (db st.f p)=tot (41-p.length) fun k=>st.f (p++k):=sj _ _ _ _
 have:=h.cnt;have:=h.le;omega
section
variable {Qok:Qy->Prop} {L:Lg} {s:Nat} {st:St}
theorem qB.mono (h:qB Qok L s){s':Nat}(hs:s<=s'):qB Qok L s':=
 ⟨h.len,h.left,h.ok,⟨h.begun.1,by have:=h.begun.2;omega⟩,fun tok n pg e=>by have:=h.told tok n pg e;omega⟩
theorem qB.beg (h:qB Qok L s)(hT:eh st)(q:Qy)(n:Int)(hq:Qok q)(hp:q.p.size<=maxLen):qB Qok (gu L st.f q n).1 (s+1):=by
 have hb:=h.begun;unfold gu;split
 .exact h.mono (by omega)
 .split
  .exact h.mono (by omega)
  .split
   .exact h.mono (by omega)
   .refine ⟨by simp only [lP,lS];omega,fun x hx=>?_,fun x hx=>?_,⟨by simp only;omega,by simp only;omega⟩,fun tok n' pg e=>?_⟩
    .rcases List.mem_append.1 hx with hx|hx
     .exact h.left x hx
     .simp only [List.mem_singleton] at hx;subst hx;exact ⟨by simp [jA],by simp [jA]⟩
    .rcases List.mem_append.1 hx with hx|hx
     .exact h.ok x hx
     .simp only [List.mem_singleton] at hx;subst hx;exact ⟨hq,hT.sum _,hp⟩
    .simp only [o9] at e;split at e
     .cases e;omega
     .have:=h.told tok n' pg e;omega
theorem qB.next (h:qB Qok L s)(tok:ByteArray):qB Qok (fM L tok).1 (s+1):=by
 unfold fM;split
 .exact h.mono (by omega)
 .rename_i n pg e1;split
  .exact h.mono (by omega)
  .split
   .exact h.mono (by omega)
   .rename_i i e2 x e3;have hx:x∈L.opened:=List.mem_of_getElem? e3;have hb:=h.begun;refine ⟨by simpa using h.len,fun y hy=>?_,fun y hy=>?_,⟨hb.1,by simp only;omega⟩,fun tok' n' pg' e=>?_⟩
    .rcases List.mem_or_eq_of_mem_set hy with hy|rfl
     .exact h.left y hy
     .exact ⟨by simp [LsA.again],by simp [LsA.again]⟩
    .rcases List.mem_or_eq_of_mem_set hy with hy|rfl
     .exact h.ok y hy
     .exact h.ok x hx
    .simp only at e;split at e
     .have:=h.told tok' n' pg' e;omega
     .rw [o9] at e;split at e
      .cases e;have:=h.told tok n pg e1;omega
      .have:=h.told tok' n' pg' e;omega
theorem qB.tick (h:qB Qok L s)(u:Int):qB Qok (iC L u).1 (s+1):=by
 unfold iC;split
 .exact h.mono (by omega)
 .rename_i hu;have hb:=h.begun;refine ⟨?_,fun y hy=>?_,fun y hy=>?_,⟨hb.1,by simp only [qt];omega⟩,fun tok n pg e=>by have:=h.told tok n pg e;omega⟩
  .have:=List.length_filter_le (fun x:LsA=>!decide (x.left<=0)) (L.opened.map fun x=>x.again (x.left-u));rw [lM] at this;exact lT this h.len
  .simp only [qt,List.mem_filter,List.mem_map] at hy;obtain ⟨⟨x,hx,rfl⟩,hy⟩:=hy;have:=h.left x hx;have hy':¬(x.left-u<=0):=fun e=>by simp [LsA.again,e] at hy
   show 0<=x.left-u/\x.left-u<=10;omega
  .simp only [qt,List.mem_filter,List.mem_map] at hy;obtain ⟨⟨x,hx,rfl⟩,hy⟩:=hy;exact h.ok x hx
theorem qB.step (h:qB Qok L s)(hT:eh st)(toks:List ByteArray)(o:OpD)(hk:sX Qok o)(hp:o.key.size<=maxLen):qB Qok (stepA st L toks o).2.1 (s+1):=by
 unfold stepA;split
 .rename_i h6;exact h.beg hT _ _ (hk.q h6) hp
 .split
  .rename_i h7;exact h.beg hT _ _ (hk.q7 h7) hp
  .split
   .exact h.next _
   .split
    .exact h.tick _
    .split
     .exact h.mono (by omega)
     .split
      .exact h.mono (by omega)
      .exact h.mono (by omega)
theorem eh.stepA (hT:eh st)(toks:List ByteArray)(o:OpD):eh (stepA st L toks o).1:=by
 unfold Go.Proofs.Qw.stepA
 repeat' split
 all_goals first|exact hT|exact hT.step o
theorem Inv.stepA (hI:Inv st s)(toks:List ByteArray)(o:OpD):Inv (stepA st L toks o).1 (s+1):=by
 have hm:Inv st (s+1):=hI.mono (by omega);unfold Go.Proofs.Qw.stepA
 repeat' split
 all_goals first|exact hm|exact hI.step o
end
def Gv (_:OpD):Prop:=True
def sY (Qok:Qy->Prop)(K:OpD->Prop)(G:Wz->Prop)(N:Nat):Prop:=
 ∀ {A:Nat->Prop} {B k0:Nat} {w:Wz} {st:St} {L:Lg} (_:aH A B w k0 st L) (_:B<=w.heap.size) (_:∀w',aI A B k0 w w'->G w') (o:OpD) (_:K o) (_:sX Qok o) (_:o.key.size<=maxLen) (_:o.body.size<=maxLen) {s:Nat} (_:Inv st s) (_:eh st) (_:qB Qok L s) (_:s<N)
  (g0 cp:Nat) (toks:List ByteArray) (_:toks.length=s) (_:w.cell? ⟨k0,8,none⟩=some (.slice (some ⟨g0,0,none⟩) s cp)) (_:∀i (hi:i<toks.length),w.cell? ⟨g0,i * 5+4,none⟩=some (.string toks[i])) (ks:List Int) (bs:List ByteArray) (_:DL w k0 g0 s ks bs),
  Calls Yq.prog 33 #[.pointer (some ⟨k0,0,none⟩),cj o] w fun e w'=>bg A B k0 w (lm st L toks (cW ks bs o.src o.body) o).1 (lm st L toks (cW ks bs o.src o.body) o).2.1 (lm st L toks (cW ks bs o.src o.body) o).2.2 e w'\/Stop Qok e w'
structure Dk where
 st:St
 L:Lg
 al:List iE
def Dk.toks (d:Dk):List ByteArray:=d.al.map (·.tok)
def yH (d:Dk)(o:OpD):Dk:=⟨(stepA d.st d.L d.toks o).1,(stepA d.st d.L d.toks o).2.1,d.al++[(stepA d.st d.L d.toks o).2.2]⟩
def dk0:Dk:=⟨st0,⟨[],0,[],0⟩,[]⟩
structure Gw (Qok:Qy->Prop)(d:Dk)(s:Nat):Prop where
 i:Inv d.st s
 t:eh d.st
 l:qB Qok d.L s
 n:d.al.length=s
theorem GK (Qok:Qy->Prop):Gw Qok dk0 0:=⟨inv0,ES,⟨by simp [dk0],by simp [dk0],by simp [dk0],by simp [dk0],by simp [dk0,em]⟩,rfl⟩
def Dk.bods (d:Dk):List ByteArray:=d.al.map (·.body)
def gY (a:List OpD)(d:Dk)(o:OpD):St×Lg×iE:=lm d.st d.L d.toks (cW (a.map (·.kind)) d.bods o.src o.body) o
def fP (a:List OpD)(d:Dk)(o:OpD):Dk:=⟨(gY a d o).1,(gY a d o).2.1,d.al++[(gY a d o).2.2]⟩
def mt (ops:List OpD)(x:List OpD×Dk):List OpD×Dk:=ops.foldl (fun x o=>(x.1++[o],fP x.1 x.2 o)) x
def cq (ops:List OpD):Dk:=(mt ops ([],dk0)).2
theorem Be (ops:List OpD):∀x,(mt ops x).1=x.1++ops:=by
 induction ops with
 |nil=>intro x;simp [mt]
 |cons o r ih=>intro x;show (mt r _).1=_;rw [ih];simp
theorem sZ (a b:List OpD)(x:List OpD×Dk):mt (a++b) x=mt b (mt a x):=by simp [mt]
theorem eb (a:List OpD)(o:OpD):cq (a++[o])=fP a (cq a) o:=by
 rw [cq,sZ];show fP (mt a ([],dk0)).1 _ o=_;rw [Be];rfl
theorem Bf (ops:List OpD):∀x,(mt ops x).2.al.length=x.2.al.length+ops.length:=by
 induction ops with
 |nil=>intro x;rfl
 |cons o r ih=>intro x;show (mt r _).2.al.length=_;rw [ih];simp [fP];omega
theorem iV (ops:List OpD):(cq ops).al.length=ops.length:=by rw [cq,Bf];simp [dk0]
theorem Dn {a:List OpD}{d:Dk}{o:OpD}(h:o.kind≠12):fP a d o=yH d o:=by simp only [fP,gY,lm,if_neg h,yH]
structure Fi (Qok:Qy->Prop)(d:Dk)(s:Nat):Prop extends Gw Qok d s where
 small:∀b∈d.bods,b.size<=maxLen
theorem Bg {st:St}{L:Lg}{s:Nat}{Qok:Qy->Prop}(b:ByteArray)(hI:Inv st s)(hT:eh st)(hL:qB Qok L s):Inv (cE st L b).1 (s+1)/\eh (cE st L b).1/\qB Qok (cE st L b).2.1 (s+1)/\(cE st L b).2.2.body=⟨#[]⟩:=by
 unfold cE;cases h:fj b with
 |none=>exact ⟨hI.mono (by omega),hT,hL.mono (by omega),rfl⟩
 |some x=>
  obtain ⟨h1,h2⟩:=Bc h;have hb:=hL.begun;exact ⟨h1.mono (by omega),h2,⟨by simp,by simp,by simp,⟨hb.1,by simp only;omega⟩,fun tok n pg e=>by have:=hL.told tok n pg e;omega⟩,rfl⟩
theorem vh {st:St}{L:Lg}(hT:eh st)(toks:List ByteArray)(o:OpD):(stepA st L toks o).2.2.body.size<=maxLen:=by
 have h0:(⟨#[]⟩:ByteArray).size<=maxLen:=Nat.zero_le _;have hv:∀k,∀v∈st.f k,v.body.size<=maxLen:=fun k v hv=>lT (hT.body k v hv) (by simp only [maxLen];decide)
 unfold stepA
 repeat' split
 all_goals first
  |exact h0
  |exact yG hT _
  |skip
 unfold bz;simp only
 repeat' split
 all_goals first
  |exact h0
  |(rename_i e _;exact hv _ _ (List.mem_of_getLast? e))
  |(rename_i e _;exact hv _ _ (List.mem_of_getElem? e))
theorem Fi.step {Qok:Qy->Prop}{d:Dk}{s:Nat}{a:List OpD}(h:Fi Qok d s)(o:OpD)(hk:sX Qok o)(hp:o.key.size<=maxLen):Fi Qok (fP a d o) (s+1):=by
 by_cases h12:o.kind=12
 .obtain ⟨h1,h2,h3,h4⟩:=Bg (cW (a.map (·.kind)) d.bods o.src o.body) h.i h.t h.l;have e:gY a d o=cE d.st d.L (cW (a.map (·.kind)) d.bods o.src o.body):=by simp only [gY,lm,if_pos h12]
  refine ⟨⟨by rw [fP,e];exact h1,by rw [fP,e];exact h2,by rw [fP,e];exact h3,by simp [fP,h.n]⟩,fun b hb=>?_⟩;simp only [Dk.bods,fP,List.map_append,List.mem_append,List.map_cons,List.map_nil,List.mem_singleton] at hb;rcases hb with hb|rfl
  .exact h.small b hb
  .rw [e,h4];exact Nat.zero_le _
 .rw [Dn h12];refine ⟨⟨h.i.stepA _ o,h.t.stepA _ o,h.l.step h.t _ o hk hp,by simp [yH,h.n]⟩,fun b hb=>?_⟩;simp only [Dk.bods,yH,List.map_append,List.mem_append,List.map_cons,List.map_nil,List.mem_singleton] at hb;rcases hb with hb|rfl
  .exact h.small b hb
  .exact vh h.t _ o
theorem wF {Qok:Qy->Prop}(ops:List OpD)(hk:∀o∈ops,sX Qok o/\o.key.size<=maxLen):Fi Qok (cq ops) ops.length:=by
 have:∀ (ops:List OpD) (x:List OpD×Dk) (s:Nat),(∀o∈ops,sX Qok o/\o.key.size<=maxLen)->Fi Qok x.2 s->Fi Qok (mt ops x).2 (s+ops.length):=fun ops=>by
  induction ops with
  |nil=>intro x s _ h;exact h
  |cons o r ih=>
   intro x s hk h;have:=ih (x.1++[o],fP x.1 x.2 o) (s+1) (fun y hy=>hk y (by simp [hy])) (h.step o (hk o (by simp)).1 (hk o (by simp)).2);rw [lC,show s+(r.length+1)=s+1+r.length by omega];exact this
 have:=this ops ([],dk0) 0 hk ⟨GK Qok,by simp [Dk.bods,dk0]⟩
 rwa [zA] at this
def cy (zs:List (iE×Wq)):List Wq:=zs.flatMap fun z=>[.int .i64 z.1.code,.int .i64 z.1.ver,.string z.1.body,z.2,.string z.1.tok]
theorem pa (zs:List (iE×Wq)):(cy zs).length=zs.length * 5:=eD 5 _ (fun _=>rfl) zs
theorem vi (zs:List (iE×Wq))(z:iE×Wq):cy (zs++[z])=cy zs++[.int .i64 z.1.code,.int .i64 z.1.ver,.string z.1.body,z.2,.string z.1.tok]:=by simp [cy]
theorem j3:∀ (zs:List (iE×Wq))(i:Nat)(hi:i<zs.length),(cy zs)[i * 5]?=some (.int .i64 zs[i].1.code)/\(cy zs)[i * 5+1]?=some (.int .i64 zs[i].1.ver)/\(cy zs)[i * 5+2]?=some (.string zs[i].1.body)/\(cy zs)[i * 5+3]?=some zs[i].2/\(cy zs)[i * 5+4]?=some (.string zs[i].1.tok)
 | [],i,hi=>by simp at hi
 |z::zs,0,hi=>by simp [cy]
 |z::zs,i+1,hi=>by
  have ih:=j3 zs i (by simpa using hi);have e:cy (z::zs)=[.int .i64 z.1.code,.int .i64 z.1.ver,.string z.1.body,z.2,.string z.1.tok]++cy zs:=by simp [cy]
  have hh:∀j,(cy (z::zs))[(i+1) * 5+j]?=(cy zs)[i * 5+j]?:=fun j=>by
   rw [e,aR (by simp;omega)];congr 1;simp;omega
  simp only [List.getElem_cons_succ];exact ⟨(hh 0).trans ih.1,(hh 1).trans ih.2.1,(hh 2).trans ih.2.2.1,(hh 3).trans ih.2.2.2.1,(hh 4).trans ih.2.2.2.2⟩
def DM (A:Nat->Prop)(w:Wz)(zs:List (iE×Wq)):Prop:=∀z∈zs,bD A w z.2 z.1.items.length (ay z.1.items)
def j4 (ops:List OpD)(w:Wz)(e:Ending)(w':Wz):Prop:=
 ∃ (A:Nat->Prop) (zs:List (iE×Wq)),e=.returned (.slice (some ⟨w.heap.size,0,none⟩) ops.length ops.length)/\zs.map (·.1)=(cq ops).al/\w'.ownsRow w.heap.size 36 5 (.slice (some ⟨w.heap.size,0,none⟩) ops.length ops.length) ops.length (cy zs)/\DM A w' zs/\(∀b,A b->w.heap.size<b)/\ak w w'
section
variable {A:Nat->Prop} {B k0:Nat} {w w':Wz} {st:St} {L:Lg}
theorem aH.apart {g0:Nat}(h:aH A B w k0 st L)(hsz:w.heap.size<=w'.heap.size)(hne:∀b,b<w.heap.size->b≠k0->b≠g0->w'.heap[b]?=w.heap[b]?)(hA:¬A g0)(hgB:g0<B)(hc:∀j,j<7->w'.cell? ⟨k0,j,none⟩=w.cell? ⟨k0,j,none⟩)(hf:∀j,w'.frozen? ⟨k0,j,none⟩=w.frozen? ⟨k0,j,none⟩):aH A B w' k0 st L:=by
 have hAk:=h.ls.avoid;have hlow:=h.ls.low;have hN:∀n p f,ai A n w p f->ai A n w' p f:=fun n p f hn=>ai.keep (fun b hb hlt=>⟨hb,hne b hlt (fun e=>hAk (e▸hb)) (fun e=>hA (e▸hb))⟩) n p f hn
 have c3:=h.time;obtain ⟨p,c0,hp⟩:=h.store.tree;obtain ⟨v,c4,zs,z1,z2,z3,z4⟩:=h.ls.opened;obtain ⟨mv,c6,hm⟩:=h.ls.told;refine ⟨⟨h.store.avoid,⟨p,(hc 0 (by omega)).trans c0,hN _ _ _ hp⟩,(hc 1 (by omega)).trans h.store.count,(hc 2 (by omega)).trans h.store.last,fun j=>(hf j).trans (h.store.frozen j)⟩,⟨⟨v,(hc 4 (by omega)).trans c4,zs,z1,aX z2 fun g h1 hg=>hne g hg (by omega) (by omega),z3,fun z hz=>hN _ _ _ (z4 z hz)⟩,(hc 5 (by omega)).trans h.ls.begun,⟨mv,(hc 6 (by omega)).trans c6,?_⟩,fun j=>(hf j).trans (h.ls.frozen j),h.ls.avoid,h.ls.low,fun b hb=>by have:=h.ls.inn b hb;omega⟩,(hc 3 (by omega)).trans c3⟩;rcases hm with hm|⟨m,es,clock,m1,m2,m3,m4,m5⟩
 .exact .inl hm
 .have hml:=(eS m2).1;exact .inr ⟨m,es,clock,m1,(hne m hml (by omega) (by omega)).trans m2,m3,m4,m5⟩
theorem Bh {c7 c8:Wq}{T:Wk}:aH (fun _=>False) (w.heap.size+1) (w.alloc (.cells #[.pointer none,.int .i64 0,.int .i64 0,.int .u64 0,.slice none 0 0,.int .i64 0,.map none,c7,c8] T)) w.heap.size st0 ⟨[],0,[],0⟩:=by
 have hd:∀j,(w.alloc (.cells #[.pointer none,.int .i64 0,.int .i64 0,.int .u64 0,.slice none 0 0,.int .i64 0,.map none,c7,c8] T)).cell? ⟨w.heap.size,j,none⟩=(#[.pointer none,.int .i64 0,.int .i64 0,.int .u64 0,.slice none 0 0,.int .i64 0,.map none,c7,c8]:Array Wq)[j]?:=fun j=>cA (w:=w) _ _ w.heap.size j rfl
 have hf:∀j,(w.alloc (.cells #[.pointer none,.int .i64 0,.int .i64 0,.int .u64 0,.slice none 0 0,.int .i64 0,.map none,c7,c8] T)).frozen? ⟨w.heap.size,j,none⟩=false:=fun j=>World.frozen?_alloc_at (w:=w) _ _ w.heap.size j rfl
 refine ⟨⟨fun _ h=>h.elim,⟨none,hd 0,ai.nil (fun _=>rfl)⟩,hd 1,hd 2,hf⟩,⟨⟨_,hd 4,[],rfl,⟨by simp [aS],.inl ⟨rfl,rfl⟩⟩,fun g h=>by simp [Value.ownBlock] at h,fun z hz=>by simp at hz⟩,hd 5,⟨_,hd 6,.inl ⟨rfl,rfl⟩⟩,hf,fun h=>h,by omega,fun _ h=>h.elim⟩,hd 3⟩
theorem Fj {zs:List (iE×Wq)}{al:List iE}(hz:zs.map (·.1)=al){base n cap g:Nat}{T:Wk}(h:w.ownsRow base T 5 (.slice (some ⟨g,0,none⟩) n cap) n (cy zs)):∀i (hi:i<(al.map (·.body)).length),w.cell? ⟨g,i * 5+2,none⟩=some (.string (al.map (·.body))[i]):=by
 subst hz;intro i hi;have hi':i<zs.length:=by simpa using hi
 have:=(j3 zs i hi').2.2.1;rw [h.cellAt _ (by have:=h.1;rw [pa] at this;omega)];simpa using this
theorem Fk {zs:List (iE×Wq)}{al:List iE}(hz:zs.map (·.1)=al){base n cap g:Nat}{T:Wk}(h:w.ownsRow base T 5 (.slice (some ⟨g,0,none⟩) n cap) n (cy zs)):∀i (hi:i<(al.map (·.tok)).length),w.cell? ⟨g,i * 5+4,none⟩=some (.string (al.map (·.tok))[i]):=by
 subst hz;intro i hi;have hi':i<zs.length:=by simpa using hi
 have:=(j3 zs i hi').2.2.2.2;rw [h.cellAt _ (by have:=h.1;rw [pa] at this;omega)];simpa using this
end
theorem yI {A:Nat->Prop}{B k0:Nat}{w w':Wz}(h:dR A B k0 w w'){base n cap g:Nat}{T:Wk}{xs:List Wq}(ho:w.ownsRow base T 5 (.slice (some ⟨g,0,none⟩) n cap) n xs)(hB:g<B)(hk:g≠k0):w'.ownsRow base T 5 (.slice (some ⟨g,0,none⟩) n cap) n xs:=
 ep ho fun g' hg'=>by
  simp [Value.ownBlock] at hg';subst hg';exact h.low _ hB (ho.lt _ rfl).2 hk
structure Bx (Qok:Qy->Prop)(ops:List OpD)(sc:Wq)(n k0:Nat)(w wr:Wz)(i:Nat)(A:Nat->Prop)(zs:List (iE×Wq)):Prop where
 desk:aH A (k0+1) wr k0 (cq (ops.take i)).st (cq (ops.take i)).L
 above:∀b,A b->w.heap.size<b
 c7:wr.cell? ⟨k0,7,none⟩=some sc
 c8:wr.cell? ⟨k0,8,none⟩=some (.slice (some ⟨w.heap.size,0,none⟩) i n)
 own:wr.ownsRow w.heap.size 36 5 (.slice (some ⟨w.heap.size,0,none⟩) i n) i (cy zs)
 al:zs.map (·.1)=(cq (ops.take i)).al
 rows:DM A wr zs
 left:ak w wr
 k0:w.heap.size<k0
theorem Bx.leftD {Qok:Qy->Prop}{ops:List OpD}{sc:Wq}{n k0 i:Nat}{w wr W1 w':Wz}{A:Nat->Prop}{zs:List (iE×Wq)}(h:Bx Qok ops sc n k0 w wr i A zs)(hl:ak wr W1)(hd:aI A (k0+1) k0 W1 w'):ak w w':=by
 have h0:=h.left;have hk:=h.k0;have hs:=h0.size;have hs1:=hl.size;refine ⟨hd.os.trans (hl.os.trans h0.os),by have:=hd.size;omega,fun b hb=>?_⟩;rw [hd.low b (by omega) (by omega) (by omega),hl.block b (by omega),h0.block b hb]
theorem Bx.next {Qok:Qy->Prop}{ops:List OpD}{sc:Wq}{n k0 i:Nat}{w wr W1 w2 w3:Wz}{A:Nat->Prop}{zs:List (iE×Wq)}(h:Bx Qok ops sc n k0 w wr i A zs)(hi:i<ops.length)(hl:ak wr W1){sv:Wq}{X:Obj}(hp:bg A (k0+1) k0 W1 (gY (ops.take i) (cq (ops.take i)) ops[i]).1 (gY (ops.take i) (cq (ops.take i)) ops[i]).2.1 (gY (ops.take i) (cq (ops.take i)) ops[i]).2.2 (.returned (iS (gY (ops.take i) (cq (ops.take i)) ops[i]).2.2 sv)) w2)
  (ho:w3.ownsRow w.heap.size 36 5 (.slice (some ⟨w.heap.size,0,none⟩) (i+1) n) (i+1) (cy (zs++[((gY (ops.take i) (cq (ops.take i)) ops[i]).2.2,sv)]))) (hg:(w2.alloc X).grownBy w3 (some w.heap.size)) (hfz:w3.cell? ⟨k0,8,none⟩=some (.slice (some ⟨w.heap.size,0,none⟩) i n)):
  ∃A',Bx Qok ops sc n k0 w (w3.setCell ⟨k0,8,none⟩ (.slice (some ⟨w.heap.size,0,none⟩) (i+1) n)) (i+1) A' (zs++[((gY (ops.take i) (cq (ops.take i)) ops[i]).2.2,sv)]):=by
 obtain ⟨sv',he,A',a1,a2,hd,hw,hrow⟩:=hp;have hsv:sv'=sv:=by
  simp [iS] at he;exact he.symm
 subst hsv;have htk:ops.take (i+1)=ops.take i++[ops[i]]:=tS hi;have hrd:cq (ops.take (i+1))=fP (ops.take i) (cq (ops.take i)) ops[i]:=by rw [htk,eb]
 have hk:=h.k0;have hs0:=h.left.size;have hs1:=hl.size;have hs2:=hw.size;have hs3:=hg.size;simp at hs3;have hne:∀b,b<w2.heap.size->b≠k0->b≠w.heap.size->(w3.setCell ⟨k0,8,none⟩ (.slice (some ⟨w.heap.size,0,none⟩) (i+1) n)).heap[b]?=w2.heap[b]?:=fun b hb h1 h2=>by
  rw [bS _ _ _ _ h1,hg.block b (by simp;omega) (fun e=>h2 (oJ e)),bA _ _ _ hb]
 have hlk:k0<w2.heap.size:=hd.ls.lt;have hk3:w3.heap[k0]?=w2.heap[k0]?:=by
  rw [hg.block k0 (by simp;omega) (fun e=>by have:=oJ e;omega),bA _ _ _ hlk]
 have ha':∀b,A' b->w.heap.size<b:=fun b hb=>by
  rcases a2 b hb with h1|h1
  .exact h.above b h1
  .have:=h.desk.ls.lt;omega
 have hc:∀j,j≠8->(w3.setCell ⟨k0,8,none⟩ (.slice (some ⟨w.heap.size,0,none⟩) (i+1) n)).cell? ⟨k0,j,none⟩=w2.cell? ⟨k0,j,none⟩:=fun j hj=>by
  rw [cO _ _ _ _ (aV (fun e=>hj e.symm))];exact cB (a:=⟨k0,j,none⟩) hk3
 have hf:∀j,(w3.setCell ⟨k0,8,none⟩ (.slice (some ⟨w.heap.size,0,none⟩) (i+1) n)).frozen? ⟨k0,j,none⟩=w2.frozen? ⟨k0,j,none⟩:=fun j=>by
  rw [World.frozen?_setCell];exact fB (a:=⟨k0,j,none⟩) hk3
 refine ⟨A',?_,ha',(hc 7 (by omega)).trans ((hw.cells 7 (by omega)).trans (hl.cell h.c7)),cS _ _ _ (by rw [hfz];rfl),?_,?_,?_,?_,h.k0⟩
 .rw [hrd];show aH A' (k0+1) _ k0 (gY _ _ _).1 (gY _ _ _).2.1;exact hd.apart (g0:=w.heap.size) (by simp;omega) hne (fun hx=>by have:=ha' _ hx;omega) (by omega) (fun j hj=>hc j (by omega)) hf
 .exact ep ho fun g hg'=>by
   simp [Value.ownBlock] at hg';subst hg';exact bS _ _ _ _ (by show w.heap.size≠k0;omega)
 .rw [hrd,List.map_append,h.al];rfl
 .intro z hz;have hkeep:∀ {v:Wq} {m:Nat} {xs:List Wq},bD A' w2 v m xs->bD A' (w3.setCell ⟨k0,8,none⟩ (.slice (some ⟨w.heap.size,0,none⟩) (i+1) n)) v m xs:=fun hr=>bD.keep hr fun b hb hlt=>⟨hb,hne b hlt (fun e=>hd.ls.avoid (e▸hb)) (fun e=>by have:=ha' b hb;omega)⟩
  rcases List.mem_append.1 hz with hz|hz
  .refine hkeep (bD.keep (h.rows z hz) fun b hb hlt=>⟨a1 b hb,?_⟩);rw [hw.tree b hb (by omega),hl.block b hlt]
  .simp only [List.mem_singleton] at hz;subst hz;exact hkeep hrow
 .refine ⟨?_,by simp;omega,fun b hb=>?_⟩
  .show w3.os=w.os;rw [hg.os];exact hw.os.trans (hl.os.trans h.left.os)
  .have hkk:=h.desk.ls.lt;rw [hne b (by omega) (by omega) (by omega),hw.low b (by omega) (by omega) (by omega),hl.block b (by omega),h.left.block b hb]
theorem Bi (Qok:Qy->Prop)(K:OpD->Prop)(G:Wz->Prop)(N:Nat)(hAns:sY Qok K G N)(b off cap:Nat)(ops:List OpD)(w:Wz)(hG:∀w',ak w w'->G w')(hS:qp w b off ops)(hz:Sized ops)(hn:ops.length<=N)(hN:N<2199023255300)(hko:∀o∈ops,sX Qok o)(hkk:∀o∈ops,K o):
  Calls Yq.prog 18 #[.slice (some ⟨b,off,none⟩) ops.length cap] w fun e w'=>j4 ops w e w'\/Stop Qok e w':=by
 obtain ⟨i0,hi0,hz0,hz1,hz2⟩:=info_parts Yq.infoAns;have HSc:Hid (qp w b off ops/\Sized ops):=⟨hS,hz⟩;have HPL:Hid (∀o∈ops,sX Qok o):=hko;have HAN0:Hid (sY Qok K G N):=hAns;have HGG:Hid (∀w',ak w w'->G w'):=hG;have HKK:Hid (∀o∈ops,K o):=hkk;have HRP:Hid (∀e w',j4 ops w e w'↔j4 ops w e w'):=fun _ _=>Iff.rfl
 obtain ⟨P,hP⟩:∃P:Ending->Wz->Prop,P=fun e w'=>j4 ops w e w'\/Stop Qok e w':=⟨_,rfl⟩
 have HP1:Hid (∀e w',j4 ops w e w'->P e w'):=fun e w' h=>by rw [hP];exact .inl h
 have HP2:Hid (∀e w',Stop Qok e w'->P e w'):=fun e w' h=>by rw [hP];exact .inr h
 rw [<-hP];obtain ⟨n,hnl⟩:∃n,ops.length=n:=⟨_,rfl⟩;have HN:Hid (ops.length=n):=hnl;rw [hnl] at hn ⊢;clear hS hz hnl hko hAns hP HRP hkk hG;go_enter (Yq.nq Tryz.func18),Tryz.ntmps18;go_wp2_with (at_make;refine wpList_make_own _ rfl _ _ 27 rfl w.heap.size 36 i0 _ 5 (Yq.u Tryz.underlying27) hi0 hz0 hz1 _ _ _ n rfl rfl (by omega) ?qb1 ?qb2 ?qb3 ?_)
 case qb1=>rw [hz2];omega
 case qb2=>simp only [maxLen];omega
 case qb3=>simp
 intro w1 hown1 hgrow1;have hlt1:w.heap.size<w1.heap.size:=(hown1.lt w.heap.size rfl).2;have b1:Below w.heap.size w w1:=⟨hgrow1.os,hgrow1.tape,hgrow1.output,hgrow1.size,fun k hk=>hgrow1.block k hk (by simp)⟩;go_wp2_with fail
 obtain ⟨W0,hW0⟩:∃W0,W0=w1.alloc (.cells #[.pointer none,.int .i64 0,.int .i64 0,.int .u64 0,.slice none 0 0,.int .i64 0,.map none,.slice (some ⟨b,off,none⟩) n cap,.slice (some ⟨w.heap.size,0,none⟩) 0 n] 65):=⟨_,rfl⟩;have HI0:Hid (Bx Qok ops (.slice (some ⟨b,off,none⟩) n cap) n w1.heap.size w W0 0 (fun _=>False) []):=by
  rw [hW0];exact ⟨Bh,fun _ h=>h.elim,by rw [gJ];rfl,by rw [gJ];rfl,hown1.alloc _,rfl,fun z hz=>by simp at hz,(ak.below b1).alloc _,hlt1⟩
 rw [<-hW0];generalize w1.heap.size=k0 at *;clear b1 hown1 hgrow1 hW0
 go_loopw [5,13] (fun _ s12 wr=>∃ (i:Nat) (A:Nat->Prop) (zs:List (iE×Wq)),i<=n/\s12=.int .i64 i/\Bx Qok ops (.slice (some ⟨b,off,none⟩) n cap) n k0 w wr i A zs) (fun _ s12 _=>n-(intOf s12).toNat)
 case atStart=>exact ⟨0,fun _=>False,[],Nat.zero_le _,rfl,HI0.out⟩
 case round=>
  obtain ⟨i,A,zs,hin,rfl,HR0⟩:=hrel;have HR:Hid (Bx Qok ops (.slice (some ⟨b,off,none⟩) n cap) n k0 w wr i A zs):=HR0;clear HR0 HI0;by_cases hlt:i<n
  .have hlo:i<ops.length:=by rw [HN.out];exact hlt
   have hb:=HR.out.left;obtain ⟨c0,c1,c2,c3,c4,c5,c6⟩:=HSc.out.1 i hlo;replace c0:=hb.cell c0;replace c1:=hb.cell c1;replace c2:=hb.cell c2;replace c3:=hb.cell c3;replace c4:=hb.cell c4;replace c5:=hb.cell c5;replace c6:=hb.cell c6;obtain ⟨hzk,hzb⟩:=HSc.out.2 ops[i] (List.getElem_mem hlo);have hk1:=HPL.out ops[i] (List.getElem_mem hlo);have hk2:=HKK.out ops[i] (List.getElem_mem hlo);have hID:Fi Qok (cq (ops.take i)) i:=by
    have:=wF (Qok:=Qok) (ops.take i) (fun o ho=>⟨HPL.out o (List.mem_of_mem_take ho),(HSc.out.2 o (List.mem_of_mem_take ho)).1⟩)
    rwa [tL,Nat.min_eq_left (by omega)] at this
   have HNX:∀ (W1 w2 w3:Wz) (sv:Wq) (X:Obj),ak wr W1->bg A (k0+1) k0 W1 (gY (ops.take i) (cq (ops.take i)) ops[i]).1 (gY (ops.take i) (cq (ops.take i)) ops[i]).2.1 (gY (ops.take i) (cq (ops.take i)) ops[i]).2.2 (.returned (iS (gY (ops.take i) (cq (ops.take i)) ops[i]).2.2 sv)) w2->w3.ownsRow w.heap.size 36 5 (.slice (some ⟨w.heap.size,0,none⟩) (i+1) n) (i+1) (cy (zs++[((gY (ops.take i) (cq (ops.take i)) ops[i]).2.2,sv)]))->(w2.alloc X).grownBy w3 (some w.heap.size)->w3.cell? ⟨k0,8,none⟩=some (.slice (some ⟨w.heap.size,0,none⟩) i n)->∃A' zs',Bx Qok ops (.slice (some ⟨b,off,none⟩) n cap) n k0 w (w3.setCell ⟨k0,8,none⟩ (.slice (some ⟨w.heap.size,0,none⟩) (i+1) n)) (i+1) A' zs':=
    fun W1 w2 w3 sv X hl hp ho hg hc=>by
     obtain ⟨A',h⟩:=HR.out.next hlo hl hp ho hg hc
     exact ⟨A',_,h⟩
   obtain ⟨o,ho⟩:∃o,o=ops[i]:=⟨_,rfl⟩;rw [<-ho] at HNX c0 c1 c2 c3 c4 c5 c6 hzk hzb hk1 hk2;obtain ⟨kind,key,body,delim,past,nn,src⟩:=o;simp only at c0 c1 c2 c3 c4 c5 c6 hzk hzb;obtain ⟨W1,hW1⟩:∃W1,W1=wr.alloc (.cells #[.int .i64 kind,.string key,.string body,.string delim,.string past,.int .i64 nn,.int .i64 src] 31):=⟨_,rfl⟩;have hLW:ak wr W1.drew:=by rw [hW1];exact (ak.refl.alloc _).drew
   have hkl:k0<wr.heap.size:=HR.out.desk.ls.lt;have k8a:W1.drew.cell? ⟨k0,8,none⟩=some (.slice (some ⟨w.heap.size,0,none⟩) i n):=hLW.cell HR.out.c8;have hbk:DL W1.drew k0 w.heap.size i ((ops.take i).map (·.kind)) (cq (ops.take i)).bods:=by
    refine ⟨by simp;omega,by rw [Dk.bods,lM];exact hID.n,hID.small,⟨b,off,n,cap,hLW.cell HR.out.c7,by omega,fun j hj=>?_⟩,fun j hj=>hLW.cell (Fj HR.out.al HR.out.own j hj)⟩;have hj':j<ops.length:=by simp at hj;omega
    have:=(HR.out.left.trans hLW).cell (HSc.out.1 j hj').1;simpa using this
   have HAN:=HAN0.out (HR.out.desk.left hLW) (by have:=hLW.size;omega) (fun w' hd=>HGG.out w' (HR.out.leftD hLW hd)) ⟨kind,key,body,delim,past,nn,src⟩ hk2 hk1 hzk hzb hID.i hID.t hID.l (by omega) w.heap.size n (cq (ops.take i)).toks (by rw [Dk.toks,lM];exact hID.n) k8a (fun j hj=>hLW.cell (Fk HR.out.al HR.out.own j hj)) ((ops.take i).map (·.kind)) (cq (ops.take i)).bods hbk;change Calls _ _ _ _ (fun e w'=>bg A (k0+1) k0 W1.drew (gY (ops.take i) (cq (ops.take i)) ⟨kind,key,body,delim,past,nn,src⟩).1 (gY (ops.take i) (cq (ops.take i)) ⟨kind,key,body,delim,past,nn,src⟩).2.1 (gY (ops.take i) (cq (ops.take i)) ⟨kind,key,body,delim,past,nn,src⟩).2.2 e w'\/Stop Qok e w') at HAN;generalize gY (ops.take i) (cq (ops.take i)) ⟨kind,key,body,delim,past,nn,src⟩=sr at HAN HNX;obtain ⟨st',L',ad⟩:=sr;obtain ⟨code,ver,abody,its,tok⟩:=ad;simp only [cj] at HAN HNX;have HNX1:Hid (∀ (w2 w3:Wz) (sv:Wq) (X:Obj),bg A (k0+1) k0 W1.drew st' L' ⟨code,ver,abody,its,tok⟩ (.returned (iS ⟨code,ver,abody,its,tok⟩ sv)) w2->w3.ownsRow w.heap.size 36 5 (.slice (some ⟨w.heap.size,0,none⟩) (i+1) n) (i+1) (cy zs++[.int .i64 code,.int .i64 ver,.string abody,sv,.string tok])->(w2.alloc X).grownBy w3 (some w.heap.size)->w3.cell? ⟨k0,8,none⟩=some (.slice (some ⟨w.heap.size,0,none⟩) i n)->∃A' zs',Bx Qok ops (.slice (some ⟨b,off,none⟩) n cap) n k0 w (w3.setCell ⟨k0,8,none⟩ (.slice (some ⟨w.heap.size,0,none⟩) (i+1) n)) (i+1) A' zs'):=
    fun w2 w3 sv X hp ho hg hc=>HNX _ w2 w3 sv X hLW hp (by rw [vi];exact ho) hg hc
   have HCL:Hid (Calls Yq.prog 33 #[.pointer (some ⟨k0,0,none⟩),.agg #[.int .i64 kind,.string key,.string body,.string delim,.string past,.int .i64 nn,.int .i64 src]] W1.drew fun e w'=>(∃v,e=.returned v/\∃so sn sc,v=.agg #[.int .i64 code,.int .i64 ver,.string abody,.slice so sn sc,.string tok]/\bg A (k0+1) k0 W1.drew st' L' ⟨code,ver,abody,its,tok⟩ (.returned (iS ⟨code,ver,abody,its,tok⟩ (.slice so sn sc))) w')\/∃ch,e=.panicked ch/\Stop Qok (.panicked ch) w'):=
    HAN.mono fun e w' h=>by
     rcases h with ⟨sv,rfl,A',a1,a2,a3,a4,a5⟩|hst
     .obtain ⟨so,sc,rfl,a6⟩:=a5;exact .inl ⟨_,rfl,so,_,sc,rfl,_,rfl,A',a1,a2,a3,a4,so,sc,rfl,a6⟩
     .obtain ⟨x,y,r,rfl,hst⟩:=hst;exact .inr ⟨_,rfl,x,y,r,rfl,hst⟩
   have HF8:Hid (∀w2 sv,bg A (k0+1) k0 W1.drew st' L' ⟨code,ver,abody,its,tok⟩ (.returned (iS ⟨code,ver,abody,its,tok⟩ sv)) w2->w2.cell? ⟨k0,8,none⟩=some (.slice (some ⟨w.heap.size,0,none⟩) i n)/\(∀X:Obj,(w2.alloc X).ownsRow w.heap.size 36 5 (.slice (some ⟨w.heap.size,0,none⟩) i n) i (cy zs))/\∀ (w3:Wz) (X:Obj),(w2.alloc X).grownBy w3 (some w.heap.size)->w3.cell? ⟨k0,8,none⟩=some (.slice (some ⟨w.heap.size,0,none⟩) i n)/\w3.frozen? ⟨k0,8,none⟩=false):=fun w2 sv hp=>by
    obtain ⟨_,-,A',-,-,hd,hw,-⟩:=hp;have hk0:=HR.out.k0;have e2:w2.cell? ⟨k0,8,none⟩=some (.slice (some ⟨w.heap.size,0,none⟩) i n):=(hw.cells 8 (by omega)).trans k8a;have hlt2:=hd.ls.lt;refine ⟨e2,fun X=>(yI hw (aX HR.out.own fun g _ hg=>hLW.block g hg) (by omega) (by omega)).alloc X,fun w3 X hg3=>?_⟩;have hk3:w3.heap[k0]?=w2.heap[k0]?:=by
     rw [hg3.block k0 (by simp;omega) (fun e=>by have:=oJ e;omega),bA _ _ _ hlt2]
    exact ⟨(cB (a:=⟨k0,8,none⟩) hk3).trans e2,(fB (a:=⟨k0,8,none⟩) hk3).trans (hd.ls.frozen 8)⟩
   have HW1:Hid (W1=wr.alloc (.cells #[.int .i64 kind,.string key,.string body,.string delim,.string past,.int .i64 nn,.int .i64 src] 31)):=hW1;have W1c:∀j,W1.drew.cell? ⟨wr.heap.size,j,none⟩=(#[.int .i64 kind,.string key,.string body,.string delim,.string past,.int .i64 nn,.int .i64 src]:Array Wq)[j]?:=fun j=>by rw [hW1];exact gJ wr _ _ j
   have q0:=W1c 0;have q1:=W1c 1;have q2:=W1c 2;have q3:=W1c 3;have q4:=W1c 4;have q5:=W1c 5;have q6:=W1c 6;have HEN:Hid (∀ (args:Array Wq) (wx:Wz),(callFunc 33 args).run Yq.prog wx=.ok (.enter 33 args) wx):=fun args wx=>by go_simp
   have k8n:=HR.out.c8;clear W1c hW1 hb hID HNX HAN hk1 hk2 hzk hzb ho hLW;simp only [gA,gZ,gS] at q0 q1 q2 q3 q4 q5 q6
   go_upto_region 5 with fail
   rw [<-HW1.out]
   go_region_law (first
    |(refine bO rfl 33 #[.tmp 3,.tmp 19] #[65,31] rfl #[.pointer (some ⟨k0,0,none⟩),.agg #[.int .i64 kind,.string key,.string body,.string delim,.string past,.int .i64 nn,.int .i64 src]] (by simp [Act.eval]) (HEN.out _ _) _ _ HCL.out (by intro ch w' hs;exact ⟨rfl,HP2.out _ _ hs⟩) ?_;rintro v w2 ⟨so,sn,sc,rfl,hp⟩;obtain ⟨k8b,o8,f8⟩:=HF8.out w2 _ hp;have k8d:(w2.alloc (.cells #[.int .i64 code,.int .i64 ver,.string abody,.slice so sn sc,.string tok] 36)).cell? ⟨k0,8,none⟩=some (.slice (some ⟨w.heap.size,0,none⟩) i n):=an k8b _;have HX2:Hid (bg A (k0+1) k0 W1.drew st' L' ⟨code,ver,abody,its,tok⟩ (.returned (iS ⟨code,ver,abody,its,tok⟩ (.slice so sn sc))) w2):=hp;have HO8:Hid (∀X:Obj,(w2.alloc X).ownsRow w.heap.size 36 5 (.slice (some ⟨w.heap.size,0,none⟩) i n) i (cy zs)):=o8;have HG8:Hid (∀ (w3:Wz) (X:Obj),(w2.alloc X).grownBy w3 (some w.heap.size)->w3.cell? ⟨k0,8,none⟩=some (.slice (some ⟨w.heap.size,0,none⟩) i n)/\w3.frozen? ⟨k0,8,none⟩=false):=f8;clear hp o8 f8)
    |(refine mq rfl (.tmp 18) (.tmp 21) 27 rfl w.heap.size 36 i0 5 (Yq.u Tryz.underlying27) hi0 hz1 w.heap.size i n (cy zs) (by simp [Act.eval]) (HO8.out _) ⟨w2.heap.size,0,none⟩ 1 1 [.int .i64 code,.int .i64 ver,.string abody,.slice so sn sc,.string tok] (by simp [Act.eval]) rfl (yp _ _ _ _ _ _ _) (by intro u hu;simp at hu;rcases hu with rfl|rfl|rfl|rfl|rfl<;>rfl) (by omega) ?_;intro w3 ho3 hg3;obtain ⟨k8c,f8c⟩:=HG8.out _ _ hg3;have HW3:Hid (w3.ownsRow w.heap.size 36 5 (.slice (some ⟨w.heap.size,0,none⟩) (i+1) n) (i+1) (cy zs++[.int .i64 code,.int .i64 ver,.string abody,.slice so sn sc,.string tok])/\(w2.alloc (.cells #[.int .i64 code,.int .i64 ver,.string abody,.slice so sn sc,.string tok] 36)).grownBy w3 (some w.heap.size)):=⟨ho3,hg3⟩;clear ho3 hg3))
   all_goals
    go_wp2;obtain ⟨A',zs',hI'⟩:=HNX1.out w2 w3 _ _ HX2.out HW3.out.1 HW3.out.2 k8c;exact ⟨⟨i+1,A',zs',by omega,by go_num,hI'⟩,by simp [intOf];omega⟩
  .have hie:i=n:=by omega
   subst hie;have HT:Hid (ops.take i=ops):=tO (by rw [HN.out];exact lR _);have c8:=HR.out.c8;go_wp2;refine HP1.out _ _ ⟨A,zs,by rw [HN.out];rfl,?_,?_,HR.out.rows,HR.out.above,HR.out.left⟩
   .have:=HR.out.al;rw [HT.out] at this;exact this
   .rw [HN.out];exact HR.out.own
end
section
open Go.RowKit
theorem vj (kind:Int)(key body:ByteArray)(w:Wz):Calls Yq.prog 20 #[.int .i64 kind,.string key,.string body] w fun e w'=>
  e=.returned (.agg #[.int .i64 kind,.string key,.string body,.string ⟨#[]⟩,.string ⟨#[]⟩,.int .i64 0,.int .i64 0])/\Below w.heap.size w w':=by
 go_enter (Yq.nq Tryz.func20),Tryz.ntmps20;go_wp2;exact bodyPost_ret (v:=.agg #[.int .i64 kind,.string key,.string body,.string ⟨#[]⟩,.string ⟨#[]⟩,.int .i64 0,.int .i64 0]) (by simp [results,Tryz.results20,go_sem]) rfl ⟨rfl,(bR _ _).alloc (lR _) _⟩
end
section
open Go
open Go.Conc Go.ConcX Go.ConcX.Gen Go.RowKit
theorem eH.left {w w':Wz}{v:Wq}{ops:List OpD}(h:eH w v ops)(hl:ak w w'):eH w' v ops:=by
 obtain ⟨a,cap,rfl,hx⟩:=h.form;refine ⟨⟨a,cap,rfl,fun hne=>?_⟩,h.sized,h.len⟩;obtain ⟨b,off,rfl,hS⟩:=hx hne;refine ⟨b,off,rfl,fun i hi=>?_⟩;obtain ⟨c0,c1,c2,c3,c4,c5,c6⟩:=hS i hi;exact ⟨hl.cell c0,hl.cell c1,hl.cell c2,hl.cell c3,hl.cell c4,hl.cell c5,hl.cell c6⟩
end
section
open Go
theorem nZ (L:Nat):∀ (r c:Nat),c<=L+(L+768) / 4->Builtin.growBy L r c<=L+(L+768) / 4
 | 0,c,h=>h
 |r+1,c,h=>by
  unfold Builtin.growBy;split
  .exact h
  .exact nZ L r _ (by omega)
theorem tb {need old:Nat}(h:old<need):Builtin.nextslicecap need old<=need+(need+768) / 4+512:=by
 unfold Builtin.nextslicecap;split
 .omega
 .split
  .omega
  .have:=nZ need 4 old (by omega);omega
section
variable {P:Program} {w:Wz} {base:Nat} {t ty e:Wk} {i:TypeInfo} {z:Wq} {size bytes:Nat}
theorem pe (hzs:z.cells.size=size)(hbase:base<=w.heap.size){xs:List Wq}{k cap:Nat}(hl:xs.length=k * size)(hk:k<=cap)(hc:cap<=maxLen)(row:Option Nat):
  (w.drew.alloc (.cells (xs.toArray++Builtin.zeroCells z.cells (cap-k)) e)).ownsRow base e size (.slice (some ⟨w.heap.size,0,none⟩) k cap) k xs/\w.grownBy (w.drew.alloc (.cells (xs.toArray++Builtin.zeroCells z.cells (cap-k)) e)) row:=by
 constructor
 .refine ⟨hl,.inr ⟨w.heap.size,cap,_,rfl,hbase,heap_alloc_new w.drew _,hk,hc,?_,?_⟩⟩
  .rw [Array.size_append,size_zeroCells,hzs,lZ,hl,<-Nat.add_mul];congr 1;omega
  .rw [<-hl,Array.toList_append];exact List.take_left
 .exact ⟨rfl,rfl,rfl,by simp,fun b hb _=>heap_alloc_old w.drew _ hb⟩
theorem yJ (ht:P.underlying t=some (.slice e))(hi:P.info? e=some i)(hz:i.zero=some z)(hsize:i.size=size)(hby:i.bytes=bytes)(hzs:z.cells.size=size)
  {v:Wq} {n:Nat} {xs:List Wq} (hown:w.ownsRow base e size v n xs) {a:Addr} {m c:Nat} {news:List Wq} (hl:news.length=m * size) (hnews:∀j u,news[j]?=some u->w.cell? (a.add j)=some u) (h1:∀u∈news,u.oneCell'=true)
  (h63:n+m<=maxLen) (hb:(n+m+(n+m+768) / 4+512) * bytes<=281474976710656) (hbase:base<=w.heap.size) (hm:0<m):
  ∃v' w',(Builtin.append_ #[t,t] ty #[v,.slice (some a) m c]).run P w=.ok v' w'/\w'.ownsRow base e size v' (n+m) (xs++news)/\w.grownBy w' v.ownBlock:=by
 subst hsize hby;have hs:((n+m:Nat):Int)<=9223372036854775807:=by simp only [maxLen] at h63;omega
 have hcap:∀old,n+m<=grownCap w (n+m) old e/\grownCap w (n+m) old e<=maxLen:=fun old=>⟨grownCap_ge w _ old e,grownCap_le_maxLen w _ old e h63⟩
 have hlen:(xs++news).length=(n+m) * i.size:=by rw [lP,hown.1,hl,Nat.add_mul]
 have hle:(n+m) * i.bytes<=281474976710656:=lT (Nat.mul_le_mul_right _ (by omega)) hb;have hown':=hown;obtain ⟨hxl,⟨rfl,rfl⟩|⟨g,cap,cur,rfl,hbg,hg,hnc,hcm,hcs,htk⟩⟩:=hown
 .obtain rfl:xs=[]:=List.eq_nil_of_length_eq_zero (by simpa using hxl);simp only [zA,List.nil_append] at *;have hr:=run_append_nil (P:=P) w t ty e i z ht hi hz a m c news hl hnews hm hs hle;obtain ⟨q1,q2⟩:=pe (w:=w) (e:=e) hzs hbase (xs:=news) hlen (hcap 0).1 (hcap 0).2 (Value.ownBlock (.slice none 0 0));exact ⟨_,_,hr,q1,q2⟩
 .by_cases hroom:n+m<=cap
  .have hfit:n * i.size+news.length<=cur.size:=by rw [hl,hcs,<-Nat.add_mul];exact Nat.mul_le_mul_right _ hroom
   refine ⟨_,_,run_append_room (P:=P) w t ty e i ht hi g n cap cur hg a m c news hl hnews h1 hroom hfit,⟨hlen,.inr ⟨g,cap,_,rfl,hbg,setRow_heap w g cur _ e _ hg,hroom,hcm,?_,?_⟩⟩,rfl,rfl,rfl,by simp,fun k _ hk=>setRow_other w g k _ (fun h=>hk (by rw [h];rfl))⟩
   .have h3:=cur.length_toList;simp;omega
   .rw [htk,<-hlen];exact List.take_left
  .have hcell:=hown'.cells (g:=g) rfl;have hr:=run_append_grow (P:=P) w t ty e i z ht hi hz ⟨g,0,none⟩ n cap xs hxl hcell a m c news hl hnews (by omega) hs (lT (Nat.mul_le_mul_right _ (tb (by omega))) hb);obtain ⟨q1,q2⟩:=pe (w:=w) (e:=e) hzs hbase (xs:=xs++news) hlen (hcap cap).1 (hcap cap).2 (Value.ownBlock (.slice (some ⟨g,0,none⟩) n cap));rw [<-List.append_toArray] at q1 q2;exact ⟨_,_,hr,q1,q2⟩
theorem dS {ops:Array Oper}{rest:List Oper}{o:Oper}{b:Act}{Q:Exit->Act->Wz->Prop}(hgd:o.guard=none)(s x:Operand)(ho:o.op=.call {callee:=.builtin .append,args:=#[s,x],argTypes:=#[t,t]})
  (ht:P.underlying t=some (.slice e)) (hi:P.info? e=some i) (hz:i.zero=some z) (hsize:i.size=size) (hby:i.bytes=bytes) (hzs:z.cells.size=size)
  {v:Wq} {n:Nat} {xs:List Wq} (hs:b.eval s=v) (hown:w.ownsRow base e size v n xs) {a:Addr} {m c:Nat} {news:List Wq} (hx:b.eval x=.slice (some a) m c) (hl:news.length=m * size) (hnews:∀j u,news[j]?=some u->w.cell? (a.add j)=some u) (h1:∀u∈news,u.oneCell'=true)
  (h63:n+m<=maxLen) (hb:(n+m+(n+m+768) / 4+512) * bytes<=281474976710656) (hbase:base<=w.heap.size) (hm:0<m)
  (h:∀v' w',w'.ownsRow base e size v' (n+m) (xs++news)->w.grownBy w' v.ownBlock->wpList P ops Q rest (b.put o.dst v') w'):wpList P ops Q (o::rest) b w:=by
 refine wpList_plain hgd fun K hK=>?_
 obtain ⟨v',w',hr,h2,h3⟩:=yJ (ty:=o.type) ht hi hz hsize hby hzs hown hl hnews h1 h63 hb hbase hm (c:=c);unfold Oper.wp execOp;simp only [ho,resolve,invoke,builtin,Sem.run_bind,Sem.run_pure,Result.andThen_ok,List.map_toArray,List.map_cons,List.map_nil,hs,hx,hr];exact hK _ _ (h v' w' h2 h3)
end
end
section
open Go.RowKit
def cJ (ops:List OpD):List OpD:=ops.filter fun o=>o.kind != 12
theorem ln (ops:List OpD):(cJ ops).length<=ops.length:=List.length_filter_le _ _
theorem tc (a:Option Addr)(n cap:Nat)(ops:List OpD)(w:Wz)(h:eH w (.slice a n cap) ops)(hn:n * 88<=140737488351232):
  Calls Yq.prog 17 #[.slice a n cap] w fun e w'=>∃v',e=.returned v'/\w'.ownsRow w.heap.size 31 7 v' (cJ ops).length ((cJ ops).flatMap aJ)/\Below w.heap.size w w':=by
 obtain ⟨i0,hi0,hz0,hz1,hz2⟩:=info_parts Yq.infoOp;have hnl:n=ops.length:=by
  obtain ⟨a',cap',he,_⟩:=h.form;cases he;rfl
 have HS:Hid (eH w (.slice a n cap) ops/\n=ops.length):=⟨h,hnl⟩;clear h hnl;go_enter (Yq.nq Tryz.func17),Tryz.ntmps17;go_wp2_with fail
 go_loopw [3,4] (fun s3 s4 wr=>∃i:Nat,i<=n/\s4=.int .i64 i/\wr.ownsRow w.heap.size 31 7 s3 (cJ (ops.take i)).length ((cJ (ops.take i)).flatMap aJ)/\Below w.heap.size w wr) (fun _ s4 _=>n-(intOf s4).toNat)
 case atStart=>exact ⟨0,Nat.zero_le _,rfl,World.ownsRow_nil _ _ _ _,bR _ _⟩
 case round=>
  obtain ⟨i,hin,rfl,hown,hb⟩:=hrel;obtain ⟨va,vc,rfl,-⟩:=aw hown;by_cases hlt:i<n
  .have hlo:i<ops.length:=by rw [<-HS.out.2];exact hlt
   have hne:ops≠[]:=by intro e;rw [e] at hlo;simp at hlo
   obtain ⟨a',cap',he,hx⟩:=HS.out.1.form;obtain ⟨b,off,ha,hSc⟩:=hx hne;subst ha;cases he;obtain ⟨c0,c1,c2,c3,c4,c5,c6⟩:=hSc i hlo;replace c0:=aj hb c0;replace c1:=aj hb c1;replace c2:=aj hb c2;replace c3:=aj hb c3;replace c4:=aj hb c4;replace c5:=aj hb c5;replace c6:=aj hb c6;have HTK:Hid (cJ (ops.take (i+1))=cJ (ops.take i)++(if ops[i].kind=12 then [] else [ops[i]])):=show cJ (ops.take (i+1))=_ by
    rw [tS hlo];unfold cJ;rw [List.filter_append];by_cases hk:ops[i].kind=12<;>simp [hk]
   have hle:(cJ (ops.take i)).length<=i:=by have:=ln (ops.take i);rw [tL] at this;omega
   generalize ops[i]=o at *;obtain ⟨kind,key,body,delim,past,nn,src⟩:=o;simp only at c0 c1 c2 c3 c4 c5 c6 HTK;have HX:Hid (wr.ownsRow w.heap.size 31 7 (.slice va (cJ (ops.take i)).length vc) (cJ (ops.take i)).length ((cJ (ops.take i)).flatMap aJ)/\Below w.heap.size w wr):=⟨hown,hb⟩;clear hown hb hSc hx;by_cases hk:kind=12
   .subst hk;rw [if_pos rfl,List.append_nil] at HTK;go_wp2_with fail
    refine ⟨⟨i+1,by omega,by go_num,?_,HX.out.2⟩,by simp [intOf];omega⟩;rw [HTK.out];exact HX.out.1
   .have hk':(kind != 12)=true:=by simp [hk]
    rw [if_neg hk] at HTK;generalize hm:(cJ (ops.take i)).length=m at *;have HMM:Hid ((cJ (ops.take i)).length=m):=hm;clear hm;go_wp2_with (at_builtin;refine wpList_append_own _ rfl _ _ 22 rfl w.heap.size 31 i0 _ 7 88 (Yq.u Tryz.underlying22) hi0 hz0 hz1 hz2 rfl (by decide) _ m _ rfl (HX.out.1.alloc _) ⟨wr.heap.size,0,none⟩ 1 1 (aJ ⟨kind,key,body,delim,past,nn,src⟩) rfl rfl (yu wr ⟨kind,key,body,delim,past,nn,src⟩ _) (one7 _) (by simp only [maxLen];omega) (by omega) (by have:=HX.out.2.size;simp;omega) ?_;intro v2 w2 ho2 hg2 _)
    have b2:Below w.heap.size w w2:=(HX.out.2.alloc HX.out.2.size _).grown hg2 (by have:=HX.out.2.size;simp;omega) (fun k e=>(HX.out.1.lt k e).1);refine ⟨⟨i+1,by omega,by go_num,?_,b2⟩,by simp [intOf];omega⟩;rw [HTK.out];rw [lP,HMM.out,List.flatMap_append];simpa using ho2
  .have hie:i=n:=by omega
   subst hie;have HT:Hid (ops.take i=ops):=tO (by rw [<-HS.out.2];exact lR _);have HO:Hid (wr.ownsRow w.heap.size 31 7 (.slice va (cJ (ops.take i)).length vc) (cJ (ops.take i)).length ((cJ (ops.take i)).flatMap aJ)/\Below w.heap.size w wr):=⟨hown,hb⟩;clear hown hb;go_wp2;go_ret;refine ⟨_,rfl,?_,HO.out.2⟩;have:=HO.out.1;rw [HT.out] at this;rw [HT.out];exact this
theorem j5 (v:Wq)(ops:List OpD)(mb m:Nat)(more:List OpD)(w:Wz)(h:eH w v ops)(hm:eH w (.slice (some ⟨mb,0,none⟩) m m) more)(hn:ops.length+m<=2199023255552)(h0:0<m):
  Calls Yq.prog 19 #[v,.slice (some ⟨mb,0,none⟩) m m] w fun e w'=>∃v',e=.returned v'/\w'.ownsRow w.heap.size 31 7 v' (ops.length+m) ((ops++more).flatMap aJ)/\Below w.heap.size w w':=by
 obtain ⟨i0,hi0,hz0,hz1,hz2⟩:=info_parts Yq.infoOp;have hmm:m=more.length:=by
  obtain ⟨a',cap',he,_⟩:=hm.form;cases he;rfl
 have hms:∀j u,(more.flatMap aJ)[j]?=some u->w.cell? ((⟨mb,0,none⟩:Addr).add j)=some u:=by
  rcases AS hm with ⟨c,he,_⟩|⟨ad,c,he,hx⟩
  .cases he
  .cases he;exact hx
 have HM:Hid (∀j u,(more.flatMap aJ)[j]?=some u->w.cell? ((⟨mb,0,none⟩:Addr).add j)=some u):=hms;have HMM:Hid (m=more.length):=hmm;clear hmm hms hm;rcases AS h with ⟨c,rfl,rfl⟩|⟨ad,c,rfl,hsrc⟩
 .clear h;go_enter (Yq.nq Tryz.func19),Tryz.ntmps19;go_wp2_with (at_builtin;refine dS rfl _ _ rfl (Yq.u Tryz.underlying22) hi0 hz0 hz1 hz2 rfl rfl (World.ownsRow_nil _ w.heap.size _ _) rfl (news:=more.flatMap aJ) (by rw [fE,HMM.out]) HM.out (iF more) (by simp only [maxLen];omega) (by omega) (lR _) h0 ?_;intro v1 w1 ho1 hg1)
  obtain ⟨va,vc,rfl,-⟩:=aw ho1;go_wp2;go_ret;refine ⟨_,rfl,by simpa using ho1,(bR _ w).grown (row:=none) hg1 (lR _) (fun k e=>by cases e)⟩
 .have HSR:Hid (∀j u,(ops.flatMap aJ)[j]?=some u->w.cell? (ad.add j)=some u):=hsrc;clear h hsrc;generalize hop:ops.length=n at *;have HN:Hid (ops.length=n):=hop;clear hop;have HAP:Hid (∀ (os:Array Oper) (rest:List Oper) (o:Oper) (b:Act) (_:o.guard=none) (s x:Operand) (_:o.op=.call {callee:=.builtin .append,args:=#[s,x],argTypes:=#[22,22]}) (_:b.eval s=.slice none 0 0) (_:b.eval x=.slice (some ad) n c) {Q:Exit->Act->Wz->Prop},(∀v1 w1,w1.ownsRow w.heap.size 31 7 v1 n (ops.flatMap aJ)->w.grownBy w1 none->wpList Yq.prog os Q rest (b.put o.dst v1) w1)->wpList Yq.prog os Q (o::rest) b w):=fun os rest o b g1 s x g2 g3 g4 Q hK=>by
   by_cases hz:n=0
   .have he:ops=[]:=List.length_eq_zero_iff.1 (HN.out.trans hz);subst he hz;refine wpList_append_own w g1 s x 22 g2 w.heap.size 31 i0 _ 7 88 (Yq.u Tryz.underlying22) hi0 hz0 hz1 hz2 rfl (by decide) _ 0 [] g3 (World.ownsRow_nil _ _ _ _) ad 0 c [] g4 rfl (fun j u hj=>by simp at hj) (fun u hu=>by simp at hu) (by simp only [maxLen];omega) (by omega) (lR _) (fun v' w' k1 k2 _=>hK v' w' k1 k2)
   .exact dS g1 s x g2 (Yq.u Tryz.underlying22) hi0 hz0 hz1 hz2 rfl g3 (World.ownsRow_nil _ w.heap.size _ _) g4 (news:=ops.flatMap aJ) (by rw [fE,HN.out]) HSR.out (iF ops) (by simp only [maxLen];omega) (by omega) (lR _) (by omega) (fun v' w' k1 k2=>hK v' w' (by simpa using k1) k2)
  go_enter (Yq.nq Tryz.func19),Tryz.ntmps19
  go_upto_region 3 with (at_builtin;refine HAP.out _ _ _ _ rfl _ _ rfl rfl rfl ?_;intro v1 w1 ho1 hg1;obtain ⟨va,vc,rfl,-⟩:=aw ho1)
  have b1:Below w.heap.size w w1:=(bR _ w).grown (row:=none) hg1 (lR _) (fun k e=>by cases e);have HO:Hid (w1.ownsRow w.heap.size 31 7 (.slice va n vc) n (ops.flatMap aJ)/\Below w.heap.size w w1):=⟨by simpa using ho1,b1⟩;clear ho1 hg1 b1;go_wp2_with (at_builtin;refine dS rfl _ _ rfl (Yq.u Tryz.underlying22) hi0 hz0 hz1 hz2 rfl rfl HO.out.1 rfl (news:=more.flatMap aJ) (by rw [fE,HMM.out]) (fun j u hj=>aj HO.out.2 (HM.out j u hj)) (iF more) (by simp only [maxLen];omega) (by omega) HO.out.2.size h0 ?_;intro v2 w2 ho2 hg2)
  obtain ⟨va2,vc2,rfl,-⟩:=aw ho2;go_wp2;go_ret;refine ⟨_,rfl,?_,HO.out.2.grown hg2 HO.out.2.size (fun k e=>(HO.out.1.lt k e).1)⟩;rw [List.flatMap_append];simpa using ho2
end
section
open Go
open Go.Conc Go.ConcX Go.ConcX.Gen Go.RowKit
def vk (_:Qy):Prop:=True
end
