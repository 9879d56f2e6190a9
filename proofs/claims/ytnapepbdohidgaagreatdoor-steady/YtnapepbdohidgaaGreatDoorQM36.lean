/- Part of a proof. -/
import Derived.Test.YtnapepbdohidgaaGreatDoorQM35
set_option maxHeartbeats 4000000
set_option maxRecDepth 100000
namespace Go.Proofs.YtnapepbdohidgaaGreatDoorQ
section
open Go
open Go.Conc Go.ConcX Go.ConcX.Gen Go.RowKit
theorem xP:Sized eD:=by
 intro o ho
 simp only [eD,List.mem_cons,List.not_mem_nil,or_false] at ho
 rcases ho with rfl|rfl|rfl|rfl|rfl|rfl<;>exact ⟨by simp only [maxLen];decide,by simp only [maxLen];decide⟩
theorem vk (Qok:Qy->Prop)(K:OpD->Prop)(G:World->Prop)(N:Nat)(hAns:im Qok K G N)(hko:∀o∈eD,dB Qok o)(hkk:∀o∈eD,K o)(h6:6<=N)(hN:N<2199023255540)(w:World)(hG:∀w',aj w w'->G w'):
  Calls Yq.prog 26 #[] w fun e w'=>(e=.returned (.bool true)/\aj w w')\/Stop Qok e w':=by
 have HR:Hid (∀W:World,aj w W->Calls Yq.prog 18 #[.slice (some ⟨W.heap.size,0,none⟩) 6 6] (W.alloc (.cells (eD.flatMap aJ).toArray 31)) fun e w'=>CJ eD 6 (W.alloc (.cells (eD.flatMap aJ).toArray 31)) e w'\/Stop Qok e w'):=fun W hlW=>
  Calls.mono (tC Qok K G N hAns _ eD _ (fun w' h=>hG w' ((hlW.alloc _).trans h)) (xH W eD _ _ rfl 6 rfl xP (by simp [eD])) (by simp [eD]) (by simp [eD];omega) hN hko hkk) fun e w' h=>h.imp (fun h=>h.q 6 rfl) id
 clear hAns hG hko hkk
 go_enter Yq.func26,Tryz.ntmps26
 go_wp2_with fail
 refine (r6 _ _ _ w).mono ?_
 rintro e w1 ⟨rfl,b1⟩
 go_wp2_with fail
 refine (r6 _ _ _ w1).mono ?_
 rintro e w2 ⟨rfl,b2⟩
 replace b2:=b1.trans (b2.mono b1.size)
 go_wp2_with fail
 refine (r6 _ _ _ w2).mono ?_
 rintro e w3 ⟨rfl,b3⟩
 replace b3:=b2.trans (b3.mono b2.size)
 clear b1 b2
 go_wp2_with fail
 refine (HR.out w3 (.below b3)).mono ?_
 rintro e w8 (⟨g,A,zs,rfl,hal,hown,hrows,hl⟩|hst)
 ·have HB:Hid (aj w w8):=((aj.below b3).alloc _).trans hl
  obtain ⟨a0,a1,a2,a3,a4,a5,e1,t2,i4,c4,t4,c5⟩:=xK
  rw [e1] at hal
  obtain ⟨v0,zs1,rfl,hal1⟩:=dp hal
  obtain ⟨v1,zs2,rfl,hal2⟩:=dp hal1
  obtain ⟨v2,zs3,rfl,hal3⟩:=dp hal2
  obtain ⟨v3,zs4,rfl,hal4⟩:=dp hal3
  obtain ⟨v4,zs5,rfl,hal5⟩:=dp hal4
  obtain ⟨v5,zs6,rfl,hal6⟩:=dp hal5
  have hz:zs6=[]:=List.map_eq_nil_iff.1 hal6
  subst hz
  have hr4:=hrows (a4,v4) (by simp)
  simp only [i4] at hr4
  obtain ⟨pa,cap4,rfl,-,hx4⟩:=hr4
  obtain ⟨g4,rfl,-,-,hc4⟩:=hx4 (by simp [aq])
  have d1:=hc4 1 (by simp [aq])
  have hc:=hown
  have k14:=hc 14 (by omega)
  have k20:=hc 20 (by omega)
  have k23:=hc 23 (by omega)
  have k24:=hc 24 (by omega)
  have k25:=hc 25 (by omega)
  simp only [bZ,aq,sB,List.length_singleton,List.flatMap_cons,List.flatMap_nil,List.cons_append,List.nil_append,List.append_nil,gS,gZ,c4,t4,c5] at k14 k20 k23 k24 k25 d1
  have t2':=qy t2
  clear t2
  generalize a2.tok=tk at *
  clear hown hc hrows hl hal hal1 hal2 hal3 hal4 hal5 hal6 e1 hc4 hx4 HR b3
  go_wp2
  go_ret
  exact .inl ⟨rfl,HB.out⟩
 ·obtain ⟨x,y,r,rfl,hst⟩:=hst
  exact ⟨rfl,.inr ⟨x,y,r,rfl,hst⟩⟩
def vm:Qy->Prop:=fun _=>True
def Cj:OpD->Prop:=fun _=>True
theorem gX (o:OpD)(h:o.kind<=10):dB vm o/\Cj o:=⟨⟨by omega,by omega,fun _=>trivial,fun _=>trivial⟩,trivial⟩
theorem vn (kd nn:Int)(a b c:ByteArray)(w:World):(Instr.build 31 #[(0,.int .i64 kd),(1,.string a),(3,.string b),(4,.string c),(5,.int .i64 nn)]).run Yq.prog w=.ok (.agg #[.int .i64 kd,.string a,.string ⟨#[]⟩,.string b,.string c,.int .i64 nn,.int .i64 0]) w:=by kernel_rfl
theorem vo (G:World->Prop)(N:Nat)(hAns:im vm Cj G N)(hN:N<2199023255540)(sv bv:Value)(ops bs:List OpD)(p d af:ByteArray)(n:Int)(vs:Bool)(w:World)(hS:br w sv ops)(hB:br w bv bs)(hn:-9223372036854775808<=n/\n<=9223372036854775807)(hp:p.size<=maxLen)(hlen:ops.length * 88<=140737488351232)(hblen:bs.length * 88<=140737488351232)(hN2:ops.length+500<=N)(hG:∀w',aj w w'->G w'):
  Calls Yq.prog 9 #[sv,.string p,.string d,.string af,.int .i64 n,.bool vs,bv] w fun e w'=>(e=.returned (.bool true)/\aj w w')\/Stop vm e w':=by
 obtain ⟨sa,sc,rfl,-⟩:=hS.form
 obtain ⟨ba,bc,rfl,-⟩:=hB.form
 have HP:Hid (Calls Yq.prog 26 #[] w fun e w'=>(e=.returned (.bool true)/\aj w w')\/Stop vm e w'):=vk vm Cj G N hAns (fun o ho=>(gX o (by simp only [eD,List.mem_cons,List.not_mem_nil,or_false] at ho;rcases ho with rfl|rfl|rfl|rfl|rfl|rfl<;>decide)).1) (fun _ _=>trivial) (by omega) hN w hG
 have HPK:Hid (∀W,Calls Yq.prog 21 #[.int .i64 n,.int .i64 4] W fun e w'=>∃k:Nat,k<4/\e=.returned (.int .i64 k)/\W=w'):=fun W=>zQ n 4 W hn.1 hn.2 (by omega) (by omega)
 have HC1:Hid (∀W,aj w W->Calls Yq.prog 27 #[.slice sa ops.length sc] W fun e w'=>∃v',e=.returned v'/\w'.ownsRow W.heap.size 31 7 v' (dN ops).length ((dN ops).flatMap aJ)/\Below W.heap.size W w'):=fun W h=>qC sa _ sc ops W (hS.left h) hlen
 have HC2:Hid (∀W,aj w W->Calls Yq.prog 27 #[.slice ba bs.length bc] W fun e w'=>∃v',e=.returned v'/\w'.ownsRow W.heap.size 31 7 v' (dN bs).length ((dN bs).flatMap aJ)/\Below W.heap.size W w'):=fun W h=>qC ba _ bc bs W (hB.left h) hblen
 have hz1:Sized (dN ops):=fun o ho=>hS.sized o ((List.mem_filter.1 ho).1)
 have hz2:Sized (dN bs):=fun o ho=>hB.sized o ((List.mem_filter.1 ho).1)
 have hl1:=mw ops
 have hl2:=mw bs
 have hq1:=nz ops
 have hq2:=nz bs
 have hbl:=hB.len
 obtain ⟨pre,hpre⟩:∃pre,pre=dN ops:=⟨_,rfl⟩
 obtain ⟨bw,hbw⟩:∃bw,bw=dN bs:=⟨_,rfl⟩
 rw [<-hpre] at HC1 hz1 hl1 hq1
 rw [<-hbw] at HC2 hz2 hl2 hq2
 have hT:mF (bK pre).st:=(tB (Qok:=vm) pre (fun o ho=>⟨(gX o (by have:=(hq1 o ho).2;omega)).1,(hz1 o ho).1⟩)).t
 have hzq:∀f:Nat,Sized [jM ⟨vs,p,d,af⟩ f]:=fun f o ho=>by
  simp only [List.mem_singleton] at ho
  subst ho
  exact ⟨hp,by simp only [jM,maxLen];decide⟩
 have HWH:Hid (∀ (W:World) (f:Nat) (v3 bv3:Value) (b3:List OpD),aj w W->1<=f/\f<=20->br W v3 (pre++[jM ⟨vs,p,d,af⟩ f])->br W bv3 b3->(∀o∈b3,Calm1 o)->Calls Yq.prog 28 #[v3,.int .i64 pre.length,.int .i64 f,bv3] W fun e w'=>(∃ov,e=.returned (.tuple #[ov,.bool true])/\gH w' ov (⟨1,(bK pre).st.f,⟨vs,p,d,af⟩,0,0⟩:LsA).all/\aj W w')\/Stop vm e w'):=fun W f v3 bv3 b3 hlW hf h3 hb3 hq3=>
  xO vm Cj G N hAns hN ⟨1,(bK pre).st.f,⟨vs,p,d,af⟩,f,10⟩ f pre.length (pre.length+1) v3 bv3 _ b3 W (fun w' h=>hG w' (hlW.trans h)) h3 hb3 (WhI.first pre hq1 ⟨vs,p,d,af⟩ f hf) ⟨rfl,rfl⟩ hf (Am hT _ _ _ _) (fun o ho=>⟨hq3 o ho,(gX o (by have:=(hq3 o ho).2;omega)).1,trivial⟩) (fun o ho=>by
   rcases List.mem_append.1 ho with ho|ho
   ·exact gX o (by have:=(hq1 o ho).2;omega)
   ·simp only [List.mem_singleton] at ho
    subst ho
    exact gX _ (by simp only [jM];split<;>omega)) (fun n=>gX _ (by simp [fL])) (by simp) (by omega)
 have hIl:(⟨1,(bK pre).st.f,⟨vs,p,d,af⟩,0,0⟩:LsA).all.length<=200:=Am hT _ _ _ _
 obtain ⟨I,hI⟩:∃I,I=(⟨1,(bK pre).st.f,⟨vs,p,d,af⟩,0,0⟩:LsA).all:=⟨_,rfl⟩
 rw [<-hI] at HWH hIl
 have HQ2:Hid (∀o∈bw,Calm1 o):=hq2
 have HZ1:Hid (Sized pre/\pre.length<=ops.length):=⟨hz1,hl1⟩
 have HZ2:Hid (Sized bw/\bw.length<=bs.length):=⟨hz2,hl2⟩
 have HKW:Hid (∀ (W:World) (z:Nat) (_:W.heap.size=z) (sa:Option Addr) (n sc:Nat) (s:List OpD) (o:OpD),s.length=n->br W (.slice sa n sc) s->Sized [o]->n+1<=2199023255552->Calls Yq.prog 19 #[.slice sa n sc,.slice (some ⟨z,0,none⟩) 1 1] (W.alloc (.cells #[.int .i64 o.kind,.string o.key,.string o.body,.string o.delim,.string o.past,.int .i64 o.n,.int .i64 o.src] 31)) fun e w'=>∃sa3 sc3,e=.returned (.slice sa3 (n+1) sc3)/\br w' (.slice sa3 (n+1) sc3) (s++[o])/\aj W w'/\∀g,(Value.slice sa3 (n+1) sc3).ownBlock=some g->W.heap.size<=g):=fun W z hz=>hz▸tE W
 have HSM:Hid (∀ (W:World) (a b:Value),gH W a I->gH W b I->Calls Yq.prog 22 #[a,b] W fun e w'=>e=.returned (.bool true)/\Below W.heap.size W w'):=fun W a b h1 h2=>zX a b I W h1 h2 (by omega)
 have HZQ:Hid (∀f:Nat,Sized [jM ⟨vs,p,d,af⟩ f]):=hzq
 have hbd:=vn
 obtain ⟨pl,hpl⟩:∃pl,pre.length=pl:=⟨_,rfl⟩
 obtain ⟨bl,hbl2⟩:∃bl,bw.length=bl:=⟨_,rfl⟩
 have HPL:Hid (pre.length=pl/\bw.length=bl):=⟨hpl,hbl2⟩
 rw [hpl] at HC1 HWH
 rw [hbl2] at HC2
 obtain ⟨ol,hol⟩:∃ol,ops.length=ol:=⟨_,rfl⟩
 obtain ⟨bol,hbol⟩:∃bol,bs.length=bol:=⟨_,rfl⟩
 have hpo:pl<=ol:=by omega
 have hbo:bl<=bol:=by omega
 rw [hol] at HC1 hN2 hlen ⊢
 rw [hbol] at HC2 hblen hbl ⊢
 clear hAns hG hS hB hz1 hz2 hl1 hl2 hq1 hq2 hT hzq hI hpl hbl2 hol hbol hpre hbw
 go_enter Yq.func9,Tryz.ntmps9
 go_wp2_with fail
 refine HP.out.mono ?_
 rintro e w1 (⟨rfl,hl1⟩|hst)
 rotate_left
 ·obtain ⟨x,y,r,rfl,hst⟩:=hst
  exact ⟨rfl,.inr ⟨x,y,r,rfl,hst⟩⟩
 have HL1:Hid (aj w w1):=hl1
 clear hl1 HP
 go_wp2_with fail
 refine (HC1.out w1 HL1.out).mono ?_
 rintro e w2 ⟨v2,rfl,ho2,hb2⟩
 obtain ⟨va2,vc2,rfl,-⟩:=aH ho2
 have HL2:Hid (aj w w2/\br w2 (.slice va2 pl vc2) pre):=⟨HL1.out.trans (.below hb2),iH ho2 HPL.out.1.symm HZ1.out.1 (by have:=HPL.out.1;omega)⟩
 clear ho2 hb2 HC1
 go_wp2_with fail
 refine (HC2.out w2 HL2.out.1).mono ?_
 rintro e w3 ⟨v3,rfl,ho3,hb3⟩
 obtain ⟨va3,vc3,rfl,-⟩:=aH ho3
 have HL3:Hid (aj w w3/\br w3 (.slice va2 pl vc2) pre/\br w3 (.slice va3 bl vc3) bw):=⟨HL2.out.1.trans (.below hb3),HL2.out.2.left (.below hb3),iH ho3 HPL.out.2.symm HZ2.out.1 (by have:=HPL.out.2;omega)⟩
 clear ho3 hb3 HC2 HL2 HL1
 cases vs
 ·go_wp2_with fail
  refine (HPK.out w3).mono ?_
  rintro e w3' ⟨k',hk',rfl,rfl⟩
  obtain ⟨few,hf⟩:∃few:Nat,few=1+k':=⟨_,rfl⟩
  have hf2:(1+(k':Int))=(few:Int):=by omega
  have hf3:1<=few/\few<=20:=by omega
  have HF:Hid (1<=few/\few<=20):=hf3
  clear hf hf3
  go_upto_region 10 with fail
  obtain ⟨W0,hW0⟩:∃W0,W0=(w3.alloc (.cells #[.int .i64 6,.string p,.string ⟨#[]⟩,.string d,.string af,.int .i64 few,.int .i64 0] 31)).alloc (.cells #[.int .i64 6,.string p,.string ⟨#[]⟩,.string d,.string af,.int .i64 20,.int .i64 0] 31):=⟨_,rfl⟩
  rw [<-hW0]
  have hw0:W0.heap.size=w3.heap.size+1+1:=by rw [hW0];simp
  have hLW:aj w3 W0:=by rw [hW0];exact (aj.refl.alloc _).alloc _
  have hc1:∀j,W0.cell? ⟨w3.heap.size,j,none⟩=(#[.int .i64 6,.string p,.string ⟨#[]⟩,.string d,.string af,.int .i64 few,.int .i64 0]:Array Value)[j]?:=fun j=>by
   have:=gT w3 #[.int .i64 6,.string p,.string ⟨#[]⟩,.string d,.string af,.int .i64 few,.int .i64 0] 31 j
   rw [<-this,hW0]
   exact cB (Below.heap_alloc _ _ _ (by simp))
  have hc2:∀j,W0.cell? ⟨w3.heap.size+1,j,none⟩=(#[.int .i64 6,.string p,.string ⟨#[]⟩,.string d,.string af,.int .i64 20,.int .i64 0]:Array Value)[j]?:=fun j=>by
   have:=gT (w3.alloc (.cells #[.int .i64 6,.string p,.string ⟨#[]⟩,.string d,.string af,.int .i64 few,.int .i64 0] 31)) #[.int .i64 6,.string p,.string ⟨#[]⟩,.string d,.string af,.int .i64 20,.int .i64 0] 31 j
   rw [World.size_alloc] at this
   rw [<-this,hW0]
  have HW0:Hid (aj w W0/\br W0 (.slice va2 pl vc2) pre/\br W0 (.slice va3 bl vc3) bw):=⟨HL3.out.1.trans hLW,HL3.out.2.1.left hLW,HL3.out.2.2.left hLW⟩
  have HC2:Hid (∀W,aj W0 W->W.cell? ⟨w3.heap.size+1,0,none⟩=some (.int .i64 6)/\W.cell? ⟨w3.heap.size+1,1,none⟩=some (.string p)/\W.cell? ⟨w3.heap.size+1,2,none⟩=some (.string ⟨#[]⟩)/\W.cell? ⟨w3.heap.size+1,3,none⟩=some (.string d)/\W.cell? ⟨w3.heap.size+1,4,none⟩=some (.string af)/\W.cell? ⟨w3.heap.size+1,5,none⟩=some (.int .i64 20)/\W.cell? ⟨w3.heap.size+1,6,none⟩=some (.int .i64 0)):=fun W h=>⟨h.cell (hc2 0),h.cell (hc2 1),h.cell (hc2 2),h.cell (hc2 3),h.cell (hc2 4),h.cell (hc2 5),h.cell (hc2 6)⟩
  have d0:=hc1 0
  have d1:=hc1 1
  have d2:=hc1 2
  have d3:=hc1 3
  have d4:=hc1 4
  have d5:=hc1 5
  have d6:=hc1 6
  simp only [gA,gZ,gS] at d0 d1 d2 d3 d4 d5 d6
  clear hc1 hc2 hLW hW0 hw0 HL3
  go_wp2_with fail
  refine (HKW.out W0 _ rfl va2 pl vc2 pre _ HPL.out.1 HW0.out.2.1 (HZQ.out few) (by omega)).mono ?_
  rintro e w4 ⟨sa4,sc4,rfl,hs4,hl4,-⟩
  have HL4:Hid (aj W0 w4/\br w4 (.slice sa4 (pl+1) sc4) (pre++[jM ⟨false,p,d,af⟩ few])):=⟨hl4,hs4⟩
  clear hs4 hl4 d0 d1 d2 d3 d4 d5 d6
  go_wp2_with fail
  refine (HWH.out w4 few _ _ bw (HW0.out.1.trans HL4.out.1) HF.out HL4.out.2 (HW0.out.2.2.left HL4.out.1) HQ2.out).mono ?_
  rintro e w5 (⟨ov1,rfl,hi5,hl5⟩|hst)
  rotate_left
  ·obtain ⟨x,y,r,rfl,hst⟩:=hst
   exact ⟨rfl,.inr ⟨x,y,r,rfl,hst⟩⟩
  have HL5:Hid (aj W0 w5/\gH w5 ov1 I):=⟨HL4.out.1.trans hl5,hi5⟩
  obtain ⟨q0,q1,q2,q3,q4,q5,q6⟩:=HC2.out w5 HL5.out.1
  clear hl5 hi5 HL4
  go_wp2_with fail
  refine (HKW.out w5 _ rfl va2 pl vc2 pre _ HPL.out.1 (HW0.out.2.1.left HL5.out.1) (HZQ.out 20) (by omega)).mono ?_
  rintro e w6 ⟨sa6,sc6,rfl,hs6,hl6,-⟩
  have HL6:Hid (aj w5 w6/\br w6 (.slice sa6 (pl+1) sc6) (pre++[jM ⟨false,p,d,af⟩ (20:Nat)])):=⟨hl6,hs6⟩
  clear hs6 hl6 q0 q1 q2 q3 q4 q5 q6
  go_wp2_with fail
  refine (HWH.out w6 20 _ _ [] ((HW0.out.1.trans HL5.out.1).trans HL6.out.1) (by omega) HL6.out.2 ⟨⟨none,0,rfl,fun h=>absurd rfl h⟩,fun o ho=>by simp at ho,by simp⟩ (fun o ho=>by simp at ho)).mono ?_
  rintro e w7 (⟨ov2,rfl,hi7,hl7⟩|hst)
  rotate_left
  ·obtain ⟨x,y,r,rfl,hst⟩:=hst
   exact ⟨rfl,.inr ⟨x,y,r,rfl,hst⟩⟩
  have HL7:Hid (aj w w7/\gH w7 ov1 I/\gH w7 ov2 I):=⟨((HW0.out.1.trans HL5.out.1).trans HL6.out.1).trans hl7,(HL5.out.2.left HL6.out.1).left hl7,hi7⟩
  clear hl7 hi7 HL6 HL5
  go_wp2_with fail
  refine (HSM.out w7 ov1 ov2 HL7.out.2.1 HL7.out.2.2).mono ?_
  rintro e w8 ⟨rfl,hb8⟩
  have HL8:Hid (aj w w8):=HL7.out.1.trans (.below hb8)
  clear hb8
  go_wp2
  go_ret
  exact .inl ⟨rfl,HL8.out⟩
 ·go_wp2_with fail
  refine (HPK.out w3).mono ?_
  rintro e w3' ⟨k',hk',rfl,rfl⟩
  obtain ⟨few,hf⟩:∃few:Nat,few=1+k':=⟨_,rfl⟩
  have hf2:(1+(k':Int))=(few:Int):=by omega
  have hf3:1<=few/\few<=20:=by omega
  have HF:Hid (1<=few/\few<=20):=hf3
  clear hf hf3
  go_upto_region 10 with fail
  obtain ⟨W0,hW0⟩:∃W0,W0=(w3.alloc (.cells #[.int .i64 7,.string p,.string ⟨#[]⟩,.string d,.string af,.int .i64 few,.int .i64 0] 31)).alloc (.cells #[.int .i64 7,.string p,.string ⟨#[]⟩,.string d,.string af,.int .i64 20,.int .i64 0] 31):=⟨_,rfl⟩
  rw [<-hW0]
  have hw0:W0.heap.size=w3.heap.size+1+1:=by rw [hW0];simp
  have hLW:aj w3 W0:=by rw [hW0];exact (aj.refl.alloc _).alloc _
  have hc1:∀j,W0.cell? ⟨w3.heap.size,j,none⟩=(#[.int .i64 7,.string p,.string ⟨#[]⟩,.string d,.string af,.int .i64 few,.int .i64 0]:Array Value)[j]?:=fun j=>by
   have:=gT w3 #[.int .i64 7,.string p,.string ⟨#[]⟩,.string d,.string af,.int .i64 few,.int .i64 0] 31 j
   rw [<-this,hW0]
   exact cB (Below.heap_alloc _ _ _ (by simp))
  have hc2:∀j,W0.cell? ⟨w3.heap.size+1,j,none⟩=(#[.int .i64 7,.string p,.string ⟨#[]⟩,.string d,.string af,.int .i64 20,.int .i64 0]:Array Value)[j]?:=fun j=>by
   have:=gT (w3.alloc (.cells #[.int .i64 7,.string p,.string ⟨#[]⟩,.string d,.string af,.int .i64 few,.int .i64 0] 31)) #[.int .i64 7,.string p,.string ⟨#[]⟩,.string d,.string af,.int .i64 20,.int .i64 0] 31 j
   rw [World.size_alloc] at this
   rw [<-this,hW0]
  have HW0:Hid (aj w W0/\br W0 (.slice va2 pl vc2) pre/\br W0 (.slice va3 bl vc3) bw):=⟨HL3.out.1.trans hLW,HL3.out.2.1.left hLW,HL3.out.2.2.left hLW⟩
  have HC2:Hid (∀W,aj W0 W->W.cell? ⟨w3.heap.size+1,0,none⟩=some (.int .i64 7)/\W.cell? ⟨w3.heap.size+1,1,none⟩=some (.string p)/\W.cell? ⟨w3.heap.size+1,2,none⟩=some (.string ⟨#[]⟩)/\W.cell? ⟨w3.heap.size+1,3,none⟩=some (.string d)/\W.cell? ⟨w3.heap.size+1,4,none⟩=some (.string af)/\W.cell? ⟨w3.heap.size+1,5,none⟩=some (.int .i64 20)/\W.cell? ⟨w3.heap.size+1,6,none⟩=some (.int .i64 0)):=fun W h=>⟨h.cell (hc2 0),h.cell (hc2 1),h.cell (hc2 2),h.cell (hc2 3),h.cell (hc2 4),h.cell (hc2 5),h.cell (hc2 6)⟩
  have d0:=hc1 0
  have d1:=hc1 1
  have d2:=hc1 2
  have d3:=hc1 3
  have d4:=hc1 4
  have d5:=hc1 5
  have d6:=hc1 6
  simp only [gA,gZ,gS] at d0 d1 d2 d3 d4 d5 d6
  clear hc1 hc2 hLW hW0 hw0 HL3
  go_wp2_with fail
  refine (HKW.out W0 _ rfl va2 pl vc2 pre _ HPL.out.1 HW0.out.2.1 (HZQ.out few) (by omega)).mono ?_
  rintro e w4 ⟨sa4,sc4,rfl,hs4,hl4,-⟩
  have HL4:Hid (aj W0 w4/\br w4 (.slice sa4 (pl+1) sc4) (pre++[jM ⟨true,p,d,af⟩ few])):=⟨hl4,hs4⟩
  clear hs4 hl4 d0 d1 d2 d3 d4 d5 d6
  go_wp2_with fail
  refine (HWH.out w4 few _ _ bw (HW0.out.1.trans HL4.out.1) HF.out HL4.out.2 (HW0.out.2.2.left HL4.out.1) HQ2.out).mono ?_
  rintro e w5 (⟨ov1,rfl,hi5,hl5⟩|hst)
  rotate_left
  ·obtain ⟨x,y,r,rfl,hst⟩:=hst
   exact ⟨rfl,.inr ⟨x,y,r,rfl,hst⟩⟩
  have HL5:Hid (aj W0 w5/\gH w5 ov1 I):=⟨HL4.out.1.trans hl5,hi5⟩
  obtain ⟨q0,q1,q2,q3,q4,q5,q6⟩:=HC2.out w5 HL5.out.1
  clear hl5 hi5 HL4
  go_wp2_with fail
  refine (HKW.out w5 _ rfl va2 pl vc2 pre _ HPL.out.1 (HW0.out.2.1.left HL5.out.1) (HZQ.out 20) (by omega)).mono ?_
  rintro e w6 ⟨sa6,sc6,rfl,hs6,hl6,-⟩
  have HL6:Hid (aj w5 w6/\br w6 (.slice sa6 (pl+1) sc6) (pre++[jM ⟨true,p,d,af⟩ (20:Nat)])):=⟨hl6,hs6⟩
  clear hs6 hl6 q0 q1 q2 q3 q4 q5 q6
  go_wp2_with fail
  refine (HWH.out w6 20 _ _ [] ((HW0.out.1.trans HL5.out.1).trans HL6.out.1) (by omega) HL6.out.2 ⟨⟨none,0,rfl,fun h=>absurd rfl h⟩,fun o ho=>by simp at ho,by simp⟩ (fun o ho=>by simp at ho)).mono ?_
  rintro e w7 (⟨ov2,rfl,hi7,hl7⟩|hst)
  rotate_left
  ·obtain ⟨x,y,r,rfl,hst⟩:=hst
   exact ⟨rfl,.inr ⟨x,y,r,rfl,hst⟩⟩
  have HL7:Hid (aj w w7/\gH w7 ov1 I/\gH w7 ov2 I):=⟨((HW0.out.1.trans HL5.out.1).trans HL6.out.1).trans hl7,(HL5.out.2.left HL6.out.1).left hl7,hi7⟩
  clear hl7 hi7 HL6 HL5
  go_wp2_with fail
  refine (HSM.out w7 ov1 ov2 HL7.out.2.1 HL7.out.2.2).mono ?_
  rintro e w8 ⟨rfl,hb8⟩
  have HL8:Hid (aj w w8):=HL7.out.1.trans (.below hb8)
  clear hb8
  go_wp2
  go_ret
  exact .inl ⟨rfl,HL8.out⟩
end
end Go.Proofs.YtnapepbdohidgaaGreatDoorQ
