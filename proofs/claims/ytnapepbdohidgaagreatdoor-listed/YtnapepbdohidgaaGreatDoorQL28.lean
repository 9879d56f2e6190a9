/- A part. -/
import Derived.Test.YtnapepbdohidgaaGreatDoorQL27
import Derived.Test.YtnapepbdohidgaaGreatDoorQL26
set_option maxHeartbeats 4000000
set_option maxRecDepth 100000
open Go renaming World->Wj,Value->Wx
namespace Go.Proofs.Qw
section
open Go.RowKit
theorem FT {st:St}{R:List br}{nx:Int}{s:Nat}(S:Sim st R nx)(e:Inv st s)(a:gb st)(q:Qy):eJ q (R.map lh)=bD q (cD st.f q.p.data.toList)/\(bD q (cD st.f q.p.data.toList)).length<=200:=by
 refine ⟨BB S q (fun k=>?_) (fun k hk=>?_),?_⟩
 .rw [List.pairwise_iff_getElem];intro i j d c b;have:=e.sorted k i j b c;simpa [nums,d,c] using this
 .rcases Nat.lt_or_ge 40 k.length with h|h
  .exact absurd (a.long k h) hk
  .exact h
 .have h1:(bD q (cD st.f q.p.data.toList)).length<=fI (cD st.f q.p.data.toList):=qj q _ (iM _ _ _);have h2:=uw q.p.data.toList 41 st.f;have h3:fI (cD st.f q.p.data.toList)=tot (41-q.p.data.toList.length) fun k=>st.f (q.p.data.toList++k):=nK _ _ _ _
  have:=a.cnt;have:=a.le;omega
theorem wG {w:Wj}{B b n a:Nat}{e:TypeId}{v:Wx}{xs:List Wx}(h:w.ownsRow b e a v n xs)(hb:B<=b):w.ownsRow B e a v n xs:=by
 obtain ⟨h1,h2|⟨g,cap,c,rfl,h3,h4⟩⟩:=h
 .exact ⟨h1,.inl h2⟩
 .exact ⟨h1,.inr ⟨g,cap,c,rfl,lT hb h3,h4⟩⟩
def iE (B k:Nat)(sl:Wx)(R:List br)(nx tm:Int)(L':Lg)(s:Nat)(w:Wj)(e:Ending)(w':Wj):Prop:=
 e=.returned (.bool true)/\∃P' T' a vT,ax B w' k sl R nx tm/\aM B w' k P' T' a vT/\my L' P' T' tm (s+1)/\PFr B k w w'
theorem iE.mk {B k:Nat}{sl:Wx}{R:List br}{nx tm:Int}{L':Lg}{s:Nat}{w w':Wj}{P':List PlL}{T':List PlT}{a vT:Wx}(h1:ax B w' k sl R nx tm)(h2:aM B w' k P' T' a vT)(h3:my L' P' T' tm (s+1))(h4:PFr B k w w'):iE B k sl R nx tm L' s w (.returned (.bool true)) w':=⟨rfl,P',T',a,vT,h1,h2,h3,h4⟩
theorem yK (w:Wj)(a b c d:Wx)(T:TypeId):∀j u,[a,b,c,d][j]?=some u->(w.alloc (.cells #[a,b,c,d] T)).cell? ((⟨w.heap.size,0,none⟩:Addr).add j)=some u:=by
 intro j u e;rw [Addr.add_lit,zA,cA (w:=w) _ _ w.heap.size j rfl];rw [<-e,<-gT]
theorem uZ {B k s:Nat}{sl vL vT:Wx}{R:List br}{nx tm:Int}{P:List PlL}{T:List PlT}{st:St}{L:Lg}(w:Wj)(H:ax B w k sl R nx tm)(hP:aM B w k P T vL vT)(ad:B<=k)(S:Sim st R nx)(SL:my L P T tm s)(hV:Inv st s)(hT:gb st)(hs:s<2199023255300)(o:OpD)(C:Bool)(ap:(o.kind==6)=!C)(a2:(o.kind==7)=C)(hd:o.delim.size<=140737488351232)
  (L':Lg) (pg:List ItD) (j:ByteArray) (D:Int) (hB:ez L st.f ⟨C,o.key,o.delim,o.past⟩ o.n=(L',pg,j,D)) (A:Wx) (hI:∀w',PFr B k w w'->j3 w' A pg):
  Calls Yq.prog 53 #[.pointer (some ⟨k,0,none⟩),bh o,.agg #[.int .i64 D,.int .i64 0,.string ⟨#[]⟩,A,.string j]] w (iE B k sl R nx tm L' s w):=by
 obtain ⟨O,hlen⟩:=FT S hV hT ⟨C,o.key,o.delim,o.past⟩;have hcnt:=SL.count;rw [Bi] at hcnt;have htm:=SL.time;have hfew:=SL.few;have hkw:=hP.lt;have hO:=hB;have hcs:=yw L st.f ⟨C,o.key,o.delim,o.past⟩ o.n _ rfl (lT hlen (by omega));have Y:Hid (∀W,Below w.heap.size w W->Calls Yq.prog 83 #[.pointer (some ⟨k,0,none⟩),bh o] W fun e w'=>∃v,e=.returned v/\w'.ownsRow W.heap.size 41 3 v (bD ⟨C,o.key,o.delim,o.past⟩ (cD st.f o.key.data.toList)).length (an (bD ⟨C,o.key,o.delim,o.past⟩ (cD st.f o.key.data.toList)))/\Below W.heap.size W w'):=fun W hb=>by
  have:=yH B k sl R nx tm o C ap a2 W (H.below hb) S.lim S.full (fun e he=>?_) hd
  .rw [O] at this;exact this
  .have h1:=S.here e he;rcases Nat.lt_or_ge 40 e.key.data.toList.length with h|h
   .exact absurd ((hT.long _ h).symm.trans h1).symm (S.full e he)
   .simpa using h
 have HPU:Hid (∀v,∀p:Nat,1<=p/\p<=20->p<(bD ⟨C,o.key,o.delim,o.past⟩ (cD st.f o.key.data.toList)).length->my ⟨L.opened++[gC L st.f ⟨C,o.key,o.delim,o.past⟩ p],L.begun+1,mt (dM (L.begun+1) 2) (L.begun+1,2) L.told,L.tm⟩ (P++[⟨bD ⟨C,o.key,o.delim,o.past⟩ (cD st.f o.key.data.toList),v,p,tm+10,false⟩]) (T++[⟨dM (L.begun+1) 2,P.length,1⟩]) tm (s+1)):=fun v p hp hpl=>SL.push st.f ⟨C,o.key,o.delim,o.past⟩ p _ v rfl hlen hp hpl
 have HH:Hid (ax B w k sl R nx tm/\aM B w k P T vL vT/\B<=k/\my L P T tm s/\∀w',PFr B k w w'->j3 w' A pg):=⟨H,hP,ad,SL,hI⟩;have HCS:=hcs;rw [hB] at hcs;have a8:Hid (ez L st.f ⟨C,o.key,o.delim,o.past⟩ o.n=(L',pg,j,D)):=hB;clear H hP S SL hV hT O hI hO HCS hB;obtain ⟨m,key,body,c,i,E,y⟩:=o;simp only at *;generalize bD ⟨C,key,c,i⟩ (cD st.f key.data.toList)=its at *;unfold bh at Y ⊢;go_enter (Yq.nq Tryz.func53),Tryz.ntmps53
 go_upto_region 1 with fail
 have HW:Hid (Below w.heap.size w ((w.alloc (.cells #[.int .i64 m,.string key,.string body,.string c,.string i,.int .i64 E,.int .i64 y] 31)).alloc (.cells #[.int .i64 D,.int .i64 0,.string ⟨#[]⟩,A,.string j] 36))/\((w.alloc (.cells #[.int .i64 m,.string key,.string body,.string c,.string i,.int .i64 E,.int .i64 y] 31)).alloc (.cells #[.int .i64 D,.int .i64 0,.string ⟨#[]⟩,A,.string j] 36)).cell? ⟨w.heap.size,5,none⟩=some (.int .i64 E)/\du ((w.alloc (.cells #[.int .i64 m,.string key,.string body,.string c,.string i,.int .i64 E,.int .i64 y] 31)).alloc (.cells #[.int .i64 D,.int .i64 0,.string ⟨#[]⟩,A,.string j] 36)) (w.heap.size+1) (.int .i64 D) (.int .i64 0) (.string ⟨#[]⟩) A (.string j)):=by
  refine ⟨((bR _ w).alloc (lR _) _).alloc (by simp) _,?_,?_⟩
  .refine ai ((bR _ _).alloc (lR _) _) ?_;rw [cA (w:=w) _ _ w.heap.size 5 rfl];rfl
  .have:=po (w.alloc (.cells #[.int .i64 m,.string key,.string body,.string c,.string i,.int .i64 E,.int .i64 y] 31)) (.int .i64 D) (.int .i64 0) (.string ⟨#[]⟩) A (.string j) 36
   rwa [show (w.alloc (.cells #[.int .i64 m,.string key,.string body,.string c,.string i,.int .i64 E,.int .i64 y] 31)).heap.size=w.heap.size+1 by simp] at this
 go_cut [7] (fun s7 J=>J.ownsRow w.heap.size 41 3 s7 its.length (an its)/\Below w.heap.size w J/\J.cell? ⟨w.heap.size,5,none⟩=some (.int .i64 E)/\du J (w.heap.size+1) (.int .i64 D) (.int .i64 0) (.string ⟨#[]⟩) A (.string j))
 case first=>
  have HIT2:=Y.out _ HW.out.1.drew
  go_region_with (go_at_call 83;refine HIT2.mono ?_;rintro e w2 ⟨v,rfl,ac,r⟩;have d:Hid (w2.ownsRow w.heap.size 41 3 v its.length (an its)/\Below ((w.alloc (.cells #[.int .i64 m,.string key,.string body,.string c,.string i,.int .i64 E,.int .i64 y] 31)).alloc (.cells #[.int .i64 D,.int .i64 0,.string ⟨#[]⟩,A,.string j] 36)).heap.size ((w.alloc (.cells #[.int .i64 m,.string key,.string body,.string c,.string i,.int .i64 E,.int .i64 y] 31)).alloc (.cells #[.int .i64 D,.int .i64 0,.string ⟨#[]⟩,A,.string j] 36)) w2):=⟨wG ac HW.out.1.size,((bR _ ((w.alloc (.cells #[.int .i64 m,.string key,.string body,.string c,.string i,.int .i64 E,.int .i64 y] 31)).alloc (.cells #[.int .i64 D,.int .i64 0,.string ⟨#[]⟩,A,.string j] 36))).drew).trans r⟩;clear ac r)
  all_goals
   go_wp2_with fail
   go_meet
   case rel=>exact ⟨d.out.1,HW.out.1.trans (d.out.2.mono HW.out.1.size),ai d.out.2 HW.out.2.1,HW.out.2.2.on d.out.2⟩
 case rest=>
 clear HW Y;obtain ⟨hrow,hb,n5,Z⟩:=hcut;obtain ⟨q,sc,hso,-⟩:=aE hrow;rename_i s7;subst hso;have HRO:=BI wc (HH.out.1.below hb) (HH.out.2.1.below hb) (by omega);rw [hcnt] at HRO;have HR:Hid (wc.ownsRow w.heap.size 41 3 (.slice q its.length sc) its.length (an its)/\Below w.heap.size w wc/\wc.cell? ⟨w.heap.size,5,none⟩=some (.int .i64 E)/\du wc (w.heap.size+1) (.int .i64 D) (.int .i64 0) (.string ⟨#[]⟩) A (.string j)):=⟨hrow,hb,n5,Z⟩;clear hrow hb n5 Z;go_wp2_with fail
 refine HRO.mono ?_;rintro e w1 ⟨rfl,b1⟩;have af:Below w.heap.size w w1:=HR.out.2.1.trans (b1.mono HR.out.2.1.size);have n5:=ai b1 HR.out.2.2.1;obtain ⟨q0,q1,q2,q3,q4⟩:=HR.out.2.2.2.on b1;have HX:Hid (w1.ownsRow w.heap.size 41 3 (.slice q its.length sc) its.length (an its)/\Below w.heap.size w w1):=⟨HR.out.1.kept (aS b1 none) (none_or _),af⟩;clear af b1 HR HRO;rcases hcs with ⟨hn,I⟩|⟨p,rfl,hp1,av,⟨hl,I⟩|⟨hl,h3,I⟩|⟨hl,h3,I⟩⟩
 .simp only [Prod.mk.injEq] at I;obtain ⟨rfl,rfl,rfl,rfl⟩:=I;obtain ⟨ia,ic,F,-⟩:=(HH.out.2.2.2.2 w PFr.refl).form;rw [lN] at F;subst F;have HC:Hid (∀w2,Below w1.drew.heap.size w1.drew w2->du w2 (w.heap.size+1) (.int .i64 7) (.int .i64 0) (.string ⟨#[]⟩) (.slice ia 0 ic) (.string ⟨#[]⟩)/\Below w.heap.size w w2):=fun w2 r=>by
   have b:Below w1.heap.size w1 w2:=((bR _ w1).drew).trans r;exact ⟨du.on ⟨q0,q1,q2,q3,q4⟩ b,HX.out.2.trans (b.mono HX.out.2.size)⟩
  have HS:=j4 ⟨7,0,⟨#[]⟩⟩ ia ic;have HN:=eA 7;unfold aA qx at HS;unfold aA at HN;rcases hn with hn|hn
  .go_upto_region 4 with fail
   go_region_with (first
    |(go_at_call 55;refine (HN _).mono ?_;rintro e w2 ⟨rfl,r⟩;obtain ⟨⟨d0,d1,d2,d3,d4⟩,x⟩:=HC.out w2 r;have d:Hid (Below w.heap.size w w2):=x;clear r x)
    |(go_at_call 51;refine (HS _).mono ?_;rintro e w3 ⟨rfl,b3⟩))
   all_goals
    go_wp2_with fail
    go_ret;have hbw:=d.out.trans (b3.mono d.out.size);exact iE.mk (HH.out.1.below hbw) (HH.out.2.1.below hbw) (HH.out.2.2.2.1.mono (by omega)) (PFr.below hkw hbw)
  .have hn':¬E<1:=by omega
   go_upto_region 4 with fail
   go_region_with (first
    |(go_at_call 55;refine (HN _).mono ?_;rintro e w2 ⟨rfl,r⟩;obtain ⟨⟨d0,d1,d2,d3,d4⟩,x⟩:=HC.out w2 r;have d:Hid (Below w.heap.size w w2):=x;clear r x)
    |(go_at_call 51;refine (HS _).mono ?_;rintro e w3 ⟨rfl,b3⟩))
   all_goals
    go_wp2_with fail
    go_ret;have hbw:=d.out.trans (b3.mono d.out.size);exact iE.mk (HH.out.1.below hbw) (HH.out.2.1.below hbw) (HH.out.2.2.2.1.mono (by omega)) (PFr.below hkw hbw)
 .simp only [Prod.mk.injEq] at I;obtain ⟨rfl,rfl,rfl,rfl⟩:=I;have ab:¬(p:Int)<1:=by omega
  have hn2:¬(20:Int)<p:=by omega
  have hl':(pg.length:Int)<=p:=by omega
  have HS:=pm A (.slice q pg.length sc) pg w1 (HH.out.2.2.2.2 w1 (PFr.below hkw HX.out.2)) (ws HX.out.1).o (by omega);go_wp2_with fail
  refine HS.mono ?_;rintro e w2 ⟨rfl,r⟩;have hbw:=HX.out.2.trans (r.mono HX.out.2.size);have d:Hid (Below w.heap.size w w2):=hbw;obtain ⟨d0,d1,d2,d3,d4⟩:=du.on ⟨q0,q1,q2,q3,q4⟩ r;clear r hbw HS q0 q1 q2 q3 q4;go_wp2_with fail
  go_ret;exact iE.mk (HH.out.1.below d.out) (HH.out.2.1.below d.out) (HH.out.2.2.2.1.mono (by omega)) (PFr.below hkw d.out)
 .simp only [Prod.mk.injEq] at I;obtain ⟨rfl,rfl,rfl,rfl⟩:=I;obtain ⟨ia,ic,F,-⟩:=(HH.out.2.2.2.2 w PFr.refl).form;rw [lN] at F;subst F;have HC:Hid (∀w2,Below w1.drew.heap.size w1.drew w2->du w2 (w.heap.size+1) (.int .i64 8) (.int .i64 0) (.string ⟨#[]⟩) (.slice ia 0 ic) (.string ⟨#[]⟩)/\Below w.heap.size w w2):=fun w2 r=>by
   have b:Below w1.heap.size w1 w2:=((bR _ w1).drew).trans r;exact ⟨du.on ⟨q0,q1,q2,q3,q4⟩ b,HX.out.2.trans (b.mono HX.out.2.size)⟩
  have HS:=j4 ⟨8,0,⟨#[]⟩⟩ ia ic;have HN:=eA 8;unfold aA qx at HS;unfold aA at HN;have ab:¬(p:Int)<1:=by omega
  have hn2:¬(20:Int)<p:=by omega
  have hl':¬(its.length:Int)<=p:=by omega
  have a6:(3:Int)<=L'.opened.length:=by omega
  go_upto_region 9 with fail
  go_region_with (first
   |(go_at_call 55;refine (HN _).mono ?_;rintro e w2 ⟨rfl,r⟩;obtain ⟨⟨d0,d1,d2,d3,d4⟩,x⟩:=HC.out w2 r;have d:Hid (Below w.heap.size w w2):=x;clear r x)
   |(go_at_call 51;refine (HS _).mono ?_;rintro e w3 ⟨rfl,b3⟩))
  all_goals
   go_wp2_with fail
   go_ret;have hbw:=d.out.trans (b3.mono d.out.size);exact iE.mk (HH.out.1.below hbw) (HH.out.2.1.below hbw) (HH.out.2.2.2.1.mono (by omega)) (PFr.below hkw hbw)
 .simp only [Prod.mk.injEq] at I;obtain ⟨rfl,rfl,rfl,rfl⟩:=I;have ab:¬(p:Int)<1:=by omega
  have hn2:¬(20:Int)<p:=by omega
  have hl':¬(its.length:Int)<=p:=by omega
  have a6:¬(3:Int)<=L.opened.length:=by omega
  obtain ⟨i0,a5,al,a4,ar⟩:=info_parts Yq.infoRlst;obtain ⟨K,M,a7,-⟩:=aE HH.out.2.1.rowL;subst a7;have P1:=HH.out.2.1.below HX.out.2;have c3:=P1.c3;have hBw:B<=w1.heap.size:=by have:=HX.out.2.size;omega
  have Q:Hid (∀X:Obj,(w1.alloc X).ownsRow B 148 4 (.slice K P.length M) P.length (dD P)):=fun X=>P1.rowL.alloc X
  have a1:(w1.alloc (.cells #[.slice q its.length sc,.int .i64 p,.int .i64 0,.bool false] 148)).cell? ⟨k,3,none⟩=some (.slice K P.length M):=ai ((bR _ _).alloc (lR _) _) c3;have G:Hid (∀w3:Wj,(w1.alloc (.cells #[.slice q its.length sc,.int .i64 p,.int .i64 0,.bool false] 148)).grownBy w3 (Value.slice K P.length M).ownBlock->w3.cell? ⟨k,3,none⟩=some (.slice K P.length M)/\w3.frozen? ⟨k,3,none⟩=false):=fun w3 t=>by
   have P2:=P1.below ((bR _ _).alloc (lR _) (.cells #[.slice q its.length sc,.int .i64 p,.int .i64 0,.bool false] 148));exact ⟨t.cell P2.c3 (fun e=>P2.kL e.symm),(bB t ⟨k,3,none⟩ P2.lt (fun e=>P2.kL e.symm)).trans (P2.fz 3)⟩
  have N:Hid (∀ (g a:Nat) (w3:Wj),w3.ownsRow B 148 4 (.slice (some ⟨g,0,none⟩) (P.length+1) a) (P.length+1) (dD P++[.slice q its.length sc,.int .i64 p,.int .i64 0,.bool false])->(w1.alloc (.cells #[.slice q its.length sc,.int .i64 p,.int .i64 0,.bool false] 148)).grownBy w3 (Value.slice K P.length M).ownBlock->((Value.slice K P.length M).ownBlock=some g\/g=w1.heap.size+1) ->
    ax B (w3.setCell ⟨k,3,none⟩ (.slice (some ⟨g,0,none⟩) (P.length+1) a)) k sl R nx tm/\aM B (w3.setCell ⟨k,3,none⟩ (.slice (some ⟨g,0,none⟩) (P.length+1) a)) k (P++[⟨its,.slice q its.length sc,p,0,false⟩]) T (.slice (some ⟨g,0,none⟩) (P.length+1) a) vT/\PFr B k w (w3.setCell ⟨k,3,none⟩ (.slice (some ⟨g,0,none⟩) (P.length+1) a)) /\
    du (w3.setCell ⟨k,3,none⟩ (.slice (some ⟨g,0,none⟩) (P.length+1) a)) (w.heap.size+1) (.int .i64 0) (.int .i64 0) (.string ⟨#[]⟩) A (.string (dM (L.begun+1) 2))):=fun g a w3 ho3 t hgg=>by
   have hba:Below w.heap.size w (w1.alloc (.cells #[.slice q its.length sc,.int .i64 p,.int .i64 0,.bool false] 148)):=HX.out.2.alloc HX.out.2.size _;have hlt0:=bC w1 _ q0;simp only at hlt0;obtain ⟨Y1,Y2,Y3⟩:=HH.out.2.1.pushL (l:=⟨its,.slice q its.length sc,p,0,false⟩) HH.out.1 HH.out.2.2.1 hba ((wG HX.out.1 (by omega)).alloc _) (fun e=>by have:=(HX.out.1.lt k e).1;omega) ho3 t (by
    rcases hgg with h|h
    .exact .inl h
    .exact .inr (by have:=HX.out.2.size;omega))
   refine ⟨Y1,Y2,Y3,du.block ⟨q0,q1,q2,q3,q4⟩ ?_⟩;refine (bS _ _ _ _ (show w.heap.size+1≠k by omega)).trans ?_;refine (t.block (w.heap.size+1) (by simp;omega) (fun e=>?_)).trans (bA _ _ _ hlt0);have:=(HH.out.2.1.rowL.lt _ e.symm).2;omega
  go_upto_region 10 with fail
  go_cut [17,29,60,76] (fun _ _ _ _ J=>∃g a,ax B J k sl R nx tm/\aM B J k (P++[⟨its,.slice q its.length sc,p,0,false⟩]) T (.slice (some ⟨g,0,none⟩) (P.length+1) a) vT/\PFr B k w J/\du J (w.heap.size+1) (.int .i64 0) (.int .i64 0) (.string ⟨#[]⟩) A (.string (dM (L.begun+1) 2)))
  case first=>
   go_region_law (refine step_append_lies _ rfl _ _ 71 rfl B 148 i0 _ 4 48 (Yq.u Tryz.underlying71) a5 al a4 ar rfl (by decide) (.slice K P.length M) P.length (dD P) (by simp [Act.eval]) (Q.out _) ⟨w1.heap.size,0,none⟩ 1 1 [.slice q its.length sc,.int .i64 p,.int .i64 0,.bool false] (by simp [Act.eval]) rfl (yK w1 _ _ _ _ _) (by simp [Value.oneCell']) (by omega) (by simp only [maxLen];omega) (by omega) (by simp;omega) (w1.heap.size+1) (by simp) ?_;intro g a w3 ho3 z hgg hlt3;have t:(w1.alloc (.cells #[.slice q its.length sc,.int .i64 p,.int .i64 0,.bool false] 148)).grownBy w3 (Value.slice K P.length M).ownBlock:=⟨z.os,z.tape,z.output,z.size,z.block⟩;obtain ⟨y0,y1⟩:=G.out w3 t)
   all_goals
    go_wp2_with fail
    go_meet
    case rel=>exact ⟨g,a,N.out g a w3 ho3 t hgg⟩
  case rest=>
  clear N G Q a1 c3 q0 q1 q2 q3 q4;obtain ⟨g,a,Y1,Y2,Y3,⟨q0,q1,q2,q3,q4⟩⟩:=hcut;have c3:=Y2.c3;have V:P.length<(P++[(⟨its,.slice q its.length sc,p,0,false⟩:PlL)]).length:=by simp
  have hx:(P++[(⟨its,.slice q its.length sc,p,0,false⟩:PlL)])[P.length]'V=⟨its,.slice q its.length sc,p,0,false⟩:=by simp
  have U:dM (L.begun+1) 2=dM ((P.length+1:Nat):Int) ((1+1:Nat):Int):=by rw [HH.out.2.2.2.1.begun];rfl
  have HPG:=yJ wc.drew (Y1.below (bR _ _).drew) (Y2.below (bR _ _).drew) ad ⟨by simp;omega,by omega⟩ ⟨htm.2.1,by omega⟩ P.length 0 V (by rw [hx];simp only;omega) A (dM (L.begun+1) 2) (fun w' hf=>by
   rw [hx];simp only [zA,Nat.one_mul,Nat.zero_mul,List.drop_zero];exact HH.out.2.2.2.2 w' ((Y3.trans (PFr.below Y2.lt (bR _ _).drew)).trans hf)) (by
   rw [hx];simp only [zA,Nat.one_mul];rw [if_pos hl];exact ⟨wu _ _,by rw [U];exact HH.out.2.2.2.1.token P.length 1⟩)
  rw [hx] at HPG;simp only [zA,Nat.one_mul] at HPG;rw [if_pos hl,iD V,hx] at HPG;have HY:Hid (PFr B k w wc.drew):=Y3.trans (PFr.below Y2.lt (bR _ _).drew);have hset:(P++[(⟨its,.slice q its.length sc,p,0,false⟩:PlL)]).set P.length ⟨its,.slice q its.length sc,p,tm+10,false⟩=P++[⟨its,.slice q its.length sc,p,tm+10,false⟩]:=by
   rw [List.set_append_right _ _ (lR _),Nat.sub_self];rfl
  simp only [hset] at HPG;have hP1:(P++[(⟨its,.slice q its.length sc,p,0,false⟩:PlL)]).length=P.length+1:=by simp
  clear hx U hset Y1 Y2 Y3;unfold FS at HPG;rw [show ((0:Nat):Int)=0 from rfl,<-wrap_small (P.length:Int) (by omega) (by omega)] at HPG
  go_upto_region 11 with fail
  go_region_with (go_at_call 86;refine HPG.mono ?_;rintro e w4 ⟨rfl,a0,a3,Z1,Z2,Z3⟩;have HZ:Hid (ax B w4 k sl R nx tm/\aM B w4 k (P++[⟨its,.slice q its.length sc,p,tm+10,false⟩]) (T++[⟨dM (L.begun+1) 2,P.length,1⟩]) a0 a3/\PFr B k w w4):=⟨Z1,Z2,HY.out.trans Z3⟩;clear Z1 Z2 Z3)
  all_goals
   go_wp2_with fail
   go_ret;exact iE.mk HZ.out.1 HZ.out.2.1 (HPU.out _ p ⟨hp1,av⟩ hl) HZ.out.2.2
end
