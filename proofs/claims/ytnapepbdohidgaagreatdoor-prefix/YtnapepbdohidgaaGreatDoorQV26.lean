/- A part. -/
import Derived.Test.YtnapepbdohidgaaGreatDoorQV24
set_option maxHeartbeats 4000000
set_option maxRecDepth 100000
open Go renaming World->Wz
namespace Go.Proofs.Qw
section
open Go
open Go.Conc Go.ConcX Go.ConcX.Gen Go.RowKit
theorem gy.take {w:Wz}{a:Option Addr}{n cap:Nat}{ops:List OpD}(h:gy w (.slice a n cap) ops)(k:Nat)(hk:k<=n):gy w (.slice a k cap) (ops.take k):=by
 obtain ⟨a',cap',he,hx⟩:=h.form;cases he;refine ⟨⟨a,cap,by rw [tL,Nat.min_eq_left hk],fun hne=>?_⟩,fun o ho=>h.sized o (List.mem_of_mem_take ho),by rw [tL];have:=h.len;omega⟩;have hne':ops≠[]:=by intro e;subst e;simp at hne
 obtain ⟨b,off,ha,hS⟩:=hx hne';refine ⟨b,off,ha,fun i hi=>?_⟩;rw [tL] at hi;have:=hS i (by omega);simpa [List.getElem_take] using this
theorem vR {G:Wz->Prop}{N:Nat}(hAns:Dc G N)(v:Value)(ops:List OpD)(w:Wz)(hG:∀w',ak w w'->G w')(h:gy w v ops)(hn:ops.length<=N)(hN:N<2199023255300):
  Calls Yq.prog 18 #[v] w fun e w'=>Gc ops ops.length w e w'\/Stop sw e w':=by
 by_cases hne:ops=[]
 .subst hne;obtain ⟨a,cap,rfl,-⟩:=h.form;refine (En a cap w).mono ?_;rintro e w' ⟨g,rfl,-,hb⟩;exact .inl ⟨g,rfl,.below hb,fun i x hx=>by simp [fE,gC,dk0] at hx⟩
 .exact CP hAns v ops w hG h hne hn hN
theorem xX {G:Wz->Prop}{N:Nat}(hAns:Dc G N)(hN:N<2199023255300)(a:Option Addr)(n cap:Nat)(c:Int)(ops:List OpD)(w:Wz)(h:gy w (.slice a n cap) ops)(hcap:n<=cap)(_hcap2:cap<=9223372036854775807)(hnN:n+8<=N)(h1:-9223372036854775808<=c)(h2:c<=9223372036854775807)(hG:∀w',ak w w'->G w'):
  Calls Yq.prog 5 #[.slice a n cap,.int .i64 c] w fun e w'=>(e=.returned (.bool true)/\ak w w')\/Stop sw e w':=by
 have hnl:n=ops.length:=by
  obtain ⟨a',cap',he,_⟩:=h.form;cases he;rfl
 have hn:=h.len;rw [<-hnl] at hn;have HS:Hid (gy w (.slice a n cap) ops/\n=ops.length):=⟨h,hnl⟩;have HA:Hid (Dc G N/\N<2199023255300/\n+8<=N/\∀w',ak w w'->G w'):=⟨hAns,hN,hnN,hG⟩;clear h hnl hAns hG hN hnN;go_enter (Yq.nq Tryz.func5),Tryz.ntmps5;go_wp2_with fail
 refine (AG (Dc.r HA.out.1) (by have:=HA.out.2;omega) HA.out.2.1 w HA.out.2.2.2).mono ?_;rintro e w1 (⟨rfl,b1⟩|hst)
 rotate_left
 .obtain ⟨x,y,r,rfl,hst⟩:=hst;exact ⟨rfl,.inr ⟨x,y,r,rfl,hst⟩⟩
 go_wp2_with fail
 have hpk:=CK c (n+1) w1 h1 h2 (by omega) (by omega);rw [show ((n+1:Nat):Int)=(n:Int)+1 by omega] at hpk;refine hpk.mono ?_;rintro e w1' ⟨k,hk,rfl,rfl⟩;clear hpk;have HR2:=vR HA.out.1 _ ops w1 (fun w' hl=>HA.out.2.2.2 w' (b1.trans hl)) (HS.out.1.left b1) (by have:=HA.out.2.2.1;have:=HS.out.2;omega) HA.out.2.1;rw [<-HS.out.2] at HR2;go_wp2_with fail
 refine HR2.mono ?_;clear HR2;rintro e w2 (⟨ga,rfl,l2,hA2⟩|hst)
 rotate_left
 .obtain ⟨x,y,r,rfl,hst⟩:=hst;exact ⟨rfl,.inr ⟨x,y,r,rfl,hst⟩⟩
 have b2:ak w w2:=b1.trans l2;have hkn:k<=n:=by omega
 have hkl:(ops.take k).length=k:=by rw [tL,<-HS.out.2,Nat.min_eq_left hkn]
 have HR3:=vR HA.out.1 _ (ops.take k) w2 (fun w' hl=>HA.out.2.2.2 w' (b2.trans hl)) ((HS.out.1.take k hkn).left b2) (by rw [hkl];have:=HA.out.2.2.1;omega) HA.out.2.1;rw [hkl] at HR3;go_wp2_with fail
 refine HR3.mono ?_;clear HR3;rintro e w3 (⟨gb,rfl,l3,hA3⟩|hst)
 rotate_left
 .obtain ⟨x,y,r,rfl,hst⟩:=hst;exact ⟨rfl,.inr ⟨x,y,r,rfl,hst⟩⟩
 have HB3:Hid (ak w w3):=b2.trans l3;have HO:Hid (∀i,i<k->∃A:iu,xW w3 ga i A/\xW w3 gb i A/\A.items.length<=1000):=by
  intro i hi;have hla:i<(fE ops).al.length:=by rw [mt,<-HS.out.2];omega
  have hx:=eL hla;refine ⟨_,(hA2 i _ hx).left l3,hA3 i _ ((AJ ops k i hi (by rw [<-HS.out.2];exact hkn)).symm.trans hx),?_⟩;exact EO (Qok:=sw) ops (fun o ho=>⟨Dd o,(HS.out.1.sized o ho).1⟩) _ (List.getElem_mem hla)
 clear b1 b2 l2 l3 hA2 hA3 hkl;have hnn:((n:Int) != (n:Int))=false:=by simp
 have hkk:((k:Int) != (k:Int))=false:=by simp
 go_wp2_with fail
 go_loopw [9,10] (fun s9 _ wr=>∃i:Nat,i<=k/\s9=.int .i64 i/\ak w3 wr) (fun s9 _ _=>k-(intOf s9).toNat)
 case atStart=>exact ⟨0,Nat.zero_le _,rfl,ak.refl⟩
 case round=>
  obtain ⟨i,hik,rfl,hb⟩:=hrel;have HB:Hid (ak w3 wr):=hb;by_cases hlt:i<k
  .obtain ⟨A,hAa,hAb,hil⟩:=HO.out i hlt;obtain ⟨va,x0,x1,x2,x3,x4,ia⟩:=hAa.left hb;obtain ⟨vb,y0,y1,y2,y3,y4,ib⟩:=hAb.left hb;have HSM:Hid (∀y,Below wr.heap.size wr y->Calls Yq.prog 22 #[va,vb] y fun e w'=>∃v,e=.returned v/\v=.bool true/\Below y.heap.size y w'):=fun y hy=>(CN va vb A.items y (ia.left (.below hy)) (ib.left (.below hy)) (by omega)).mono fun e w' h=>⟨_,h.1,rfl,h.2⟩
   obtain ⟨pa,ca,rfl,-⟩:=ia.form;obtain ⟨pb,cb,rfl,-⟩:=ib.form;have HD:Hid (∀y:Wz,Below wr.heap.size wr y->Below wr.heap.size wr y.drew):=fun y hy=>⟨hy.os,hy.tape,hy.output,hy.size,hy.block⟩
   have HEN:Hid (∀ (args:Array Value) (wx:Wz),(callFunc 22 args).run Yq.prog wx=.ok (.enter 22 args) wx):=fun args wx=>by go_simp
   have hi1:(i:Int)<(n:Int):=by omega
   have hi2:(i:Int)<(k:Int):=by omega
   have z0:(A.code != A.code)=false:=by simp
   have z1:(A.ver != A.ver)=false:=by simp
   clear hb hAa hAb ia ib;generalize A.items.length=li at *;generalize A.code=cd at *;generalize A.ver=vr at *;generalize A.body=bd at *;generalize A.tok=tk at *;go_wp2_with fail
   rename_i K2 hK2
   go_region_law (refine aX rfl 22 #[.tmp 47,.tmp 52] #[34,34] rfl #[.slice pa li ca,.slice pb li cb] (by first|(simp [Act.eval];done)|(simp [Act.eval,Act.put];done)|go_simp) (HEN.out _ _) _ (HSM.out _ (HD.out _ (bR _ _))) ?_;rintro v1 ww ⟨rfl,k1⟩;have q1:Below wr.heap.size wr ww:=(HD.out _ (bR _ _)).trans k1;replace x0:=aj q1 x0;replace x1:=aj q1 x1;replace x2:=aj q1 x2;replace x4:=aj q1 x4;replace y0:=aj q1 y0;replace y1:=aj q1 y1;replace y2:=aj q1 y2;replace y4:=aj q1 y4)
   all_goals refine hK2 _ _ ?_
   all_goals clear hK2 K2 HSM HEN HD
   all_goals go_wp2_with fail
   all_goals go_quiet (fail)
   all_goals go_wp2_with fail
   all_goals
    have hl:ak w3 ww:=HB.out.trans (ak.below q1);exact ⟨⟨i+1,by omega,by go_num,⟨hl.os,hl.size,hl.block⟩⟩,by simp [intOf];omega⟩
  .have hie:i=k:=by omega
   subst hie;clear hb;go_wp2_with fail
   go_ret;exact .inl ⟨rfl,HB3.out.trans HB.out⟩
end
