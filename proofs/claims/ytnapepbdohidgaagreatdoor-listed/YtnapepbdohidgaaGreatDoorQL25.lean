/- A part. -/
import Derived.Test.YtnapepbdohidgaaGreatDoorQL19
import Derived.Test.YtnapepbdohidgaaGreatDoorQL20
set_option maxHeartbeats 4000000
set_option maxRecDepth 100000
open Go renaming World->Wj,Value->Wx
namespace Go.Proofs.Qw
open Tryz
section
open Go.RowKit
theorem DK (a b:ByteArray):Op.bytesLess a.toList b.toList=decide (a.data.toList<b.data.toList):=by rw [Proofs.bytesLess_eq,ByteArray.toList_eq,ByteArray.toList_eq]
theorem By (a b:ItD)(w:Wj):Calls Yq.prog 131 #[itVal a,itVal b] w fun e w'=>e=.returned (.bool (mz a b))/\Below w.heap.size w w':=by
 obtain ⟨i,f,j⟩:=a;obtain ⟨kb,h,k⟩:=b;have HB:Hid (∀c d,Below w.heap.size w ((w.alloc c).alloc d)):=fun c d=>((bR _ _).alloc (lR _) _).alloc (by simp) _
 unfold itVal;by_cases ht:f=h
 .subst ht;have hs:=wz f;have hz:mz ⟨i,f,j⟩ ⟨kb,f,k⟩=if (i==2)=(kb==2) then decide (k<j) else (kb==2):=by simp only [mz,if_true];rfl
  rw [hz];clear hz;cases h1:(i==2)<;>cases h2:(kb==2) <;>
  .simp only [reduceCtorEq,if_true,if_false];go_enter (Yq.nq func131),ntmps131;go_wp2_with fail
   go_ret;exact ⟨rfl,HB.out _ _⟩
 .have hs:=wA ht;have hz:mz ⟨i,f,j⟩ ⟨kb,h,k⟩=Op.bytesLess f.toList h.toList:=by rw [DK];simp only [mz,ht,if_false];rfl
  rw [hz];clear hz;generalize hz:Op.bytesLess f.toList h.toList=z;clear ht;go_enter (Yq.nq func131),ntmps131;go_wp2_with fail
  go_ret;exact ⟨rfl,HB.out _ _⟩
theorem DL {d s:List UInt8}(hd:d≠[])(h:s.length<d.length):dj d s=none:=by
 cases hs:dj d s with
 |none=>rfl
 |some i=>have:=iw hd s i hs;omega
def cpart (k p d:ByteArray):ByteArray:=match aP ⟨false,p,d,⟨#[]⟩⟩ k.data.toList with
 |none=>⟨#[]⟩
 |some c=>⟨c.toArray⟩
def G9 (s d:ByteArray):Option Nat->ByteArray
 |none=>⟨#[]⟩
 |some j=>s.extract 0 (j+d.size)
theorem Bz (s p d:ByteArray)(w:Wj)(hs:s.size<=1000)(hp:p.size<=1000)(hd:d.size<=140737488351232):Calls Yq.prog 108 #[.string s,.string p,.string d] w fun e w'=>e=.returned (.string (cpart s p d))/\w'=w:=by
 have hps:p.data.toList.length=p.size:=by simp
 have hds:d.data.toList.length=d.size:=by simp
 have hss:s.data.toList.length=s.size:=by simp
 by_cases h0:d=⟨#[]⟩
 .subst h0;have e:cpart s p ⟨#[]⟩=⟨#[]⟩:=rfl;rw [e];go_enter (Yq.nq func108),ntmps108;go_wp2;go_ret;exact ⟨rfl,rfl⟩
 .have hz:=kU h0;have hdl:d.data.toList≠[]:=fun e=>h0 (ByteArray.ext (Array.toList_inj.1 e))
  have HD:Hid (d.data.toList≠[]):=hdl;have n:0<d.size:=by have:=List.length_pos_iff.2 hdl;omega
  have HI:Hid (∀x,(dj d.data.toList (s.data.toList.drop p.size)).map (p.size+·)=x->cpart s p d=G9 s d x):=fun x hx=>by
   subst hx;unfold cpart aP;rw [if_neg (show ¬d.size=0 by omega)];cases dj d.data.toList (s.data.toList.drop p.size) with
   |none=>rfl
   |some j=>
    refine ByteArray.ext (Array.toList_inj.1 ?_);show s.data.toList.take (p.size+j+d.size)=_;simp only [G9,Option.map_some,Lib.extract_data,List.drop_zero,Nat.sub_zero]
  have HB:Hid (∃c,(dj d.data.toList (s.data.toList.drop p.size)).map (p.size+·)=c):=⟨_,rfl⟩;generalize cpart s p d=l at *;obtain ⟨c,hbl⟩:=HB.out;have HB:Hid (c=(dj d.data.toList (s.data.toList.drop p.size)).map (p.size+·)):=hbl.symm;have HI:Hid (l=G9 s d c):=HI.out _ hbl;clear hdl h0 hbl n;go_enter (Yq.nq func108),ntmps108;go_wp2_with fail
  go_loopw [7] (fun s7 wr=>∃i:Nat,i<=p.size+s.size/\s7=.int .i64 i/\wr=w/\c=(dj d.data.toList (s.data.toList.drop i)).map (i+·)) (fun s7 _=>p.size+s.size-(intOf s7).toNat)
  case atStart=>exact ⟨p.size,by omega,rfl,rfl,HB.out⟩
  case round=>
   obtain ⟨i,hi,rfl,rfl,hbl⟩:=hrel;have f:Hid (c=(dj d.data.toList (s.data.toList.drop i)).map (i+·)):=hbl;clear hbl HB;have hdp:0<d.size:=by have:=List.length_pos_iff.2 HD.out;omega
   by_cases hlt:i+d.size<=s.size
   .have m:(i:Int)+d.size<=s.size:=by omega
    have o:i<s.data.toList.length:=by omega
    have hsub:dj d.data.toList (s.data.toList.drop i)=if d.data.toList.isPrefixOf (s.data.toList.drop i) then some 0 else (dj d.data.toList (s.data.toList.drop (i+1))).map (·+1):=by
     rw [List.drop_eq_getElem_cons o,dj]
    have b:(s.extract i (i+d.size)).toList=(s.data.toList.drop i).take d.size:=by
     rw [ByteArray.toList_eq,Lib.extract_data,Nat.add_sub_cancel_left]
    by_cases k:d.data.toList.isPrefixOf (s.data.toList.drop i)=true
    .have he:(s.extract i (i+d.size)).toList=d.toList:=by
      rw [b,ByteArray.toList_eq,<-hds];exact (List.prefix_iff_eq_take.1 (List.isPrefixOf_iff_prefix.1 k)).symm
     have a:l=s.extract 0 (i+d.size):=by
      have h2:=f.out;rw [hsub,if_pos k] at h2;have:=HI.out;rw [h2] at this;exact this
     have h:Hid (l=s.extract 0 (i+d.size)):=a;clear hsub b k a;go_wp2;go_ret;exact ⟨by rw [h.out];rfl,rfl⟩
    .have he:¬(s.extract i (i+d.size)).toList=d.toList:=fun e=>k (by
      rw [b,ByteArray.toList_eq,<-hds] at e;exact List.isPrefixOf_iff_prefix.2 (List.prefix_iff_eq_take.2 e.symm))
     have he2:((s.extract i (i+d.size)).toList==d.toList)=false:=by simpa using he
     have hnx:c=(dj d.data.toList (s.data.toList.drop (i+1))).map (i+1+·):=by
      rw [f.out,hsub,if_neg k,Option.map_map];congr 1;funext j;show i+(j+1)=i+1+j;omega
     have q:Hid (c=(dj d.data.toList (s.data.toList.drop (i+1))).map (i+1+·)):=hnx;clear hsub b k hnx;go_wp2_with fail
     exact ⟨⟨i+1,by omega,by go_num,trivial,q.out⟩,by simp [intOf];omega⟩
   .have m:¬(i:Int)+d.size<=s.size:=by omega
    have a:l=⟨#[]⟩:=by
     have h2:=f.out;rw [DL HD.out (by rw [lD];omega)] at h2;have:=HI.out;rw [h2] at this;exact this
    have h:Hid (l=⟨#[]⟩):=a;clear a;go_wp2;go_ret;exact ⟨by rw [h.out];rfl,rfl⟩
theorem Ht {a b:ItD}(h:BU a b=false):(a.kind==b.kind)=false\/((a.kind==b.kind)=true/\(a.text.toList==b.text.toList)=false)\/((a.kind==b.kind)=true/\(a.text.toList==b.text.toList)=true/\(a.ver==b.ver)=false):=by
 by_cases h1:a.kind=b.kind
 .by_cases h2:a.text=b.text
  .refine .inr (.inr ⟨by simp [h1],by rw [h2];exact wz _,?_⟩);simp [BU,h1,h2] at h;simp [h]
  .exact .inr (.inl ⟨by simp [h1],wA h2⟩)
 .exact .inl (by simp [h1])
theorem iA (l:List ItD):∀u∈an l,u.oneCell'=true:=by
 intro u a;simp only [an,List.mem_flatMap] at a;obtain ⟨x,-,hx⟩:=a;simp at hx;rcases hx with rfl|rfl|rfl<;>rfl
theorem DM {x:ItD}{l:List ItD}{i:Nat}(h:i<l.length):atN x l (i+1)=if mz l[i] x then i+1 else atN x l i:=by
 rw [atN,eL h]
theorem wC (B:Nat)(v:Wx)(l:List ItD)(x:ItD)(w:Wj)(h:w.ownsRow B 41 3 v l.length (an l))(hB:B<=w.heap.size)(hn:l.length<=1000):
  Calls Yq.prog 109 #[v,itVal x] w fun e w'=>∃v',e=.returned v'/\w'.ownsRow B 41 3 v' (aU l x).length (an (aU l x))/\Below w.heap.size w w':=by
 obtain ⟨a,c,rfl,hx⟩:=(ws h).form;have HX:Hid (l≠[]->∃g,a=some ⟨g,0,none⟩/\∀j,j<l.length * 3->w.cell? ⟨g,j,none⟩=(an l)[j]?):=hx;have HH:Hid (w.ownsRow B 41 3 (.slice a l.length c) l.length (an l)):=h;clear hx h;obtain ⟨n,K⟩:∃n,l.length=n:=⟨_,rfl⟩;have HN:Hid (l.length=n):=K;rw [K] at hn ⊢;clear K;have HL:Hid (∀ (i:Nat) (h:i<l.length) (w:Wj),Calls Yq.prog 131 #[itVal l[i],itVal x] w fun e w'=>e=.returned (.bool (mz l[i] x))/\Below w.heap.size w w'):=fun i h w=>By _ _ w
 obtain ⟨xk,d,b⟩:=x;unfold itVal at *;obtain ⟨i0,H,y,G,A⟩:=info_parts Yq.infoItem;go_enter (Yq.nq func109),ntmps109;go_wp2_with fail
 have N:Below w.heap.size w (w.alloc (.cells #[.int .i64 xk,.string d,.int .i64 b] 41)):=(bR _ w).alloc (lR _) _;have x0:(w.alloc (.cells #[.int .i64 xk,.string d,.int .i64 b] 41)).cell? ⟨w.heap.size,0,none⟩=some (.int .i64 xk):=by rw [cA (w:=w) _ _ w.heap.size 0 rfl];rfl
 have x1:(w.alloc (.cells #[.int .i64 xk,.string d,.int .i64 b] 41)).cell? ⟨w.heap.size,1,none⟩=some (.string d):=by rw [cA (w:=w) _ _ w.heap.size 1 rfl];rfl
 have x2:(w.alloc (.cells #[.int .i64 xk,.string d,.int .i64 b] 41)).cell? ⟨w.heap.size,2,none⟩=some (.int .i64 b):=by rw [cA (w:=w) _ _ w.heap.size 2 rfl];rfl
 have HW:Hid (Below w.heap.size w (w.alloc (.cells #[.int .i64 xk,.string d,.int .i64 b] 41))/\(w.alloc (.cells #[.int .i64 xk,.string d,.int .i64 b] 41)).cell? ⟨w.heap.size,0,none⟩=some (.int .i64 xk)/\(w.alloc (.cells #[.int .i64 xk,.string d,.int .i64 b] 41)).cell? ⟨w.heap.size,1,none⟩=some (.string d)/\(w.alloc (.cells #[.int .i64 xk,.string d,.int .i64 b] 41)).cell? ⟨w.heap.size,2,none⟩=some (.int .i64 b)):=⟨N,x0,x1,x2⟩;clear N x0 x1 x2;generalize w.alloc (.cells #[.int .i64 xk,.string d,.int .i64 b] 41)=Wz at *
 go_loopw [5,6] (fun s5 s6 wr=>∃i:Nat,i<=n/\s6=.int .i64 i/\s5=.int .i64 (atN ⟨xk,d,b⟩ l i:Nat)/\(∀j (h:j<l.length),j<i->BU l[j] ⟨xk,d,b⟩=false)/\Below Wz.heap.size Wz wr) (fun _ s6 _=>n-(intOf s6).toNat)
 case atStart=>exact ⟨0,Nat.zero_le _,rfl,rfl,fun j h O=>absurd O (by omega),bR _ _⟩
 case round=>
  obtain ⟨i,hin,rfl,rfl,hno,hb⟩:=hrel;have Q:Hid (∀j (h:j<l.length),j<i->BU l[j] ⟨xk,d,b⟩=false):=hno;have M:Hid (Below Wz.heap.size Wz wr):=hb;have HB:Hid (Below w.heap.size w wr):=HW.out.1.trans (hb.mono HW.out.1.size);have x0:=ai hb HW.out.2.1;have x1:=ai hb HW.out.2.2.1;have x2:=ai hb HW.out.2.2.2;clear hno hb;by_cases hlt:i<n
  .have s:i<l.length:=by rw [HN.out];exact hlt
   have hne:l≠[]:=by intro e;rw [e] at s;simp at s
   obtain ⟨g,rfl,hc⟩:=HX.out hne;obtain ⟨e0,e1,e2⟩:=kW l i s;have c0:=ai HB.out ((hc (i * 3) (by omega)).trans e0);have c1:=ai HB.out ((hc (i * 3+1) (by omega)).trans e1);have c2:=ai HB.out ((hc (i * 3+2) (by omega)).trans e2);have hle:=HL.out i s;have hat:=DM (x:=⟨xk,d,b⟩) s;have hii:(i:Int)<n:=by omega
   cases hq:BU l[i] ⟨xk,d,b⟩ with
   |true=>
    have HQ:Hid (aU l ⟨xk,d,b⟩=l):=by
     show aU l ⟨xk,d,b⟩=l;unfold aU;rw [if_pos (List.any_eq_true.2 ⟨_,List.getElem_mem s,hq⟩)]
    rw [qw] at hq;rw [hq] at c0 c1 c2;clear hq hc e0 e1 e2 hat hle HL;simp only at c0 c1 c2;go_wp2
    go_region
    all_goals
     go_wp2;go_ret;have hd:=HB.out.drew;refine ⟨_,rfl,?_,hd⟩;rw [HQ.out,HN.out];have h:=HH.out;rw [HN.out] at h;exact h.kept (aS hd none) (none_or _)
   |false=>
    have HQ:Hid (BU l[i] ⟨xk,d,b⟩=false):=hq;have hk:=Ht hq;have af:Hid (∀j (h:j<l.length),j<i+1->BU l[j] ⟨xk,d,b⟩=false):=fun j h O=>by
     rcases Nat.lt_or_ge j i with h1|h1
     .exact Q.out j h h1
     .have:j=i:=by omega
      subst this;exact hq
    have a1:Hid (atN ⟨xk,d,b⟩ l (i+1)=if mz l[i] ⟨xk,d,b⟩ then i+1 else atN ⟨xk,d,b⟩ l i):=hat;clear hq hat hc e0 e1 e2 HL HX;generalize l[i]=it at *;generalize hls:mz it ⟨xk,d,b⟩=ls at *;obtain ⟨ik,itx,iv⟩:=it;simp only at c0 c1 c2 hk hle;rcases hk with hk|⟨hk,hk2⟩|⟨hk,hk2,hk3⟩<;>cases ls <;>
    .go_wp2
     go_region
     all_goals
      go_wp2_with fail
      go_region_with (go_at_call 131;refine (hle _).mono ?_;rintro e w2 ⟨rfl,b2⟩)
      all_goals
       go_wp2_with fail
       refine ⟨⟨i+1,by omega,by go_num,?_,af.out,M.out.drew.drew.trans (b2.mono M.out.drew.drew.size)⟩,by simp [intOf];omega⟩;rw [a1.out];simp
  .have ar:i=n:=by omega
   subst ar;have hm:=Ek ⟨xk,d,b⟩ l i;have HP:Hid (aU l ⟨xk,d,b⟩=l.take (atN ⟨xk,d,b⟩ l i)++⟨xk,d,b⟩::l.drop (atN ⟨xk,d,b⟩ l i)):=by
    show aU l ⟨xk,d,b⟩=_;unfold aU;rw [if_neg,HN.out];intro h;obtain ⟨z,hz,e⟩:=List.any_eq_true.1 h;obtain ⟨j,O,rfl⟩:=gM hz;rw [Q.out j O (by rw [<-HN.out];exact O)] at e;cases e
   generalize atN ⟨xk,d,b⟩ l i=m at *;have hrow:=HH.out;rw [HN.out] at hrow;rcases hrow.2 with ⟨hv,h0⟩|⟨g,cap,D,hv,-,-,X,ad,-⟩
   .subst h0;injection hv with hv1 _ hv2
    subst hv1;subst hv2;have Z:m=0:=by omega
    subst Z;clear HX HL hrow;have ab:l=[]:=List.length_eq_zero_iff.1 HN.out;subst ab
    go_upto_region 12 with fail
    have J:Hid (∀j u,[Value.int .i64 xk,.string d,.int .i64 b][j]?=some u->(wr.alloc (.cells #[.int .i64 xk,.string d,.int .i64 b] 41)).cell? ((⟨wr.heap.size,0,none⟩:Addr).add j)=some u):=oP wr (.int .i64 xk) (.string d) (.int .i64 b) 41;have hbs:wr.heap.size<=(wr.alloc (.cells #[.int .i64 xk,.string d,.int .i64 b] 41)).heap.size:=by simp
    have al:Hid (Below wr.heap.size wr (wr.alloc (.cells #[.int .i64 xk,.string d,.int .i64 b] 41))):=(bR _ wr).alloc (lR _) _
    go_upto_region 13 with (at_builtin;go_loud (refine wpList_append_own _ rfl _ _ 34 rfl wr.heap.size 41 i0 _ 3 32 (Yq.u underlying34) H y G A rfl (by decide) _ 0 [] rfl (World.ownsRow_nil _ _ _ _) ⟨wr.heap.size,0,none⟩ 1 1 [.int .i64 xk,.string d,.int .i64 b] rfl rfl J.out (by simp [Value.oneCell']) (by simp only [maxLen];omega) (by omega) hbs ?_);intro v2 w2 o E _;obtain ⟨I,F,rfl,-⟩:=aE o)
    have f:Hid (Below wr.heap.size wr w2/\w2.ownsRow wr.heap.size 41 3 (.slice I (0+1) F) (0+1) [.int .i64 xk,.string d,.int .i64 b]):=⟨al.out.grown (row:=none) E hbs (fun k e=>by cases e),by simpa using o⟩;obtain ⟨g2,cap2,ap,-⟩:=cP f.out.2 (by omega);have hcap:1<=F:=by
     rcases f.out.2.2 with ⟨hv,h0⟩|⟨g,cap,D,hv,-,-,X,ad,-⟩
     .cases h0
     .injection hv with hv1 _ hv2
      omega
    clear o E;cases ap;go_wp2_with fail
    go_ret;refine ⟨_,rfl,?_,HB.out.trans (f.out.1.mono HB.out.size)⟩;rw [HP.out];have ho3:=f.out.2;exact ⟨ho3.1,ho3.2.imp id fun ⟨g,cap,D,e,hb,r⟩=>⟨g,cap,D,e,lT hB (lT HB.out.size hb),r⟩⟩
   .injection hv with hv1 _ hv2
    subst hv1;subst hv2;clear HX HL hrow;have hmc:m<=c:=by omega
    have hmc':(m:Int)<=c:=by omega
    have ac:(an (l.take m)).length=m * 3:=by rw [eb,tL,HN.out];congr 1;omega
    have av:Hid (∀t u,(an (l.take m))[t]?=some u->wr.cell? ((⟨g,0,none⟩:Addr).add t)=some u):=fun t u ht=>by
     refine ai HB.out (HH.out.cells (g:=g) rfl t u ?_);have h3:an (l.take m)=(an l).take (m * 3):=(fT 3 _ (fun _=>rfl) l m).symm;rw [h3,List.getElem?_take] at ht;split at ht
     .exact ht
     .cases ht
    go_upto_region 12 with (at_builtin;go_loud (refine wpList_append_own _ rfl _ _ 34 rfl wr.heap.size 41 i0 _ 3 32 (Yq.u underlying34) H y G A rfl (by decide) _ 0 [] rfl (World.ownsRow_nil _ _ _ _) ⟨g,0,none⟩ m c (an (l.take m)) rfl ac av.out (iA _) (by simp only [maxLen];omega) (by omega) (lR _) ?_);intro v1 w1 ho1 hg1 _;obtain ⟨P,S,rfl,-⟩:=aE ho1)
    have p:Hid (Below wr.heap.size wr w1/\w1.ownsRow wr.heap.size 41 3 (.slice P m S) m (an (l.take m))):=⟨(bR _ wr).grown (row:=none) hg1 (lR _) (fun k e=>by cases e),by simpa using ho1⟩;clear ho1 hg1;replace x0:=ai p.out.1 x0;replace x1:=ai p.out.1 x1;replace x2:=ai p.out.1 x2;have L:Hid ((w1.alloc (.cells #[.int .i64 xk,.string d,.int .i64 b] 41)).ownsRow wr.heap.size 41 3 (.slice P m S) m (an (l.take m))/\Below wr.heap.size wr (w1.alloc (.cells #[.int .i64 xk,.string d,.int .i64 b] 41))):=⟨p.out.2.alloc _,p.out.1.alloc p.out.1.size _⟩;have J:Hid (∀j u,[Value.int .i64 xk,.string d,.int .i64 b][j]?=some u->(w1.alloc (.cells #[.int .i64 xk,.string d,.int .i64 b] 41)).cell? ((⟨w1.heap.size,0,none⟩:Addr).add j)=some u):=oP w1 (.int .i64 xk) (.string d) (.int .i64 b) 41;have hbs:=L.out.2.size
    go_upto_region 13 with (at_builtin;go_loud (refine wpList_append_own _ rfl _ _ 34 rfl wr.heap.size 41 i0 _ 3 32 (Yq.u underlying34) H y G A rfl (by decide) _ m _ rfl L.out.1 ⟨w1.heap.size,0,none⟩ 1 1 [.int .i64 xk,.string d,.int .i64 b] rfl rfl J.out (by simp [Value.oneCell']) (by simp only [maxLen];omega) (by omega) hbs ?_);intro v2 w2 o E _;obtain ⟨I,F,rfl,-⟩:=aE o)
    have f:Hid (Below wr.heap.size wr w2/\w2.ownsRow wr.heap.size 41 3 (.slice I (m+1) F) (m+1) (an (l.take m)++[.int .i64 xk,.string d,.int .i64 b])):=⟨L.out.2.grown E hbs (fun k e=>(p.out.2.lt k e).1),o⟩;clear o E;obtain ⟨q,hq⟩:∃q,i=m+q:=⟨i-m,by omega⟩;have T:(an (l.drop m)).length=q * 3:=by rw [eb,lD,HN.out];congr 1;omega
    have U:Hid (∀a:Addr,(a=⟨g,m * 3,none⟩\/q=0)->∀t u,(an (l.drop m))[t]?=some u->w2.cell? (a.add t)=some u):=fun a ha t u ht=>by
     rcases ha with rfl|h0
     .have h3:an (l.drop m)=(an l).drop (m * 3):=(fU 3 _ (fun _=>rfl) l m).symm;rw [h3,List.getElem?_drop] at ht;have:=ai f.out.1 (ai HB.out (HH.out.cells (g:=g) rfl _ u ht));rw [Addr.add_lit] at this ⊢;simpa using this
     .have:an (l.drop m)=[]:=List.eq_nil_of_length_eq_zero (by omega);rw [this] at ht;simp at ht
    have hbs2:=f.out.1.size;have R:Hid (∀ (v3:Wx) (w3:Wj),w3.ownsRow wr.heap.size 41 3 v3 (m+1+q) ((an (l.take m)++[.int .i64 xk,.string d,.int .i64 b])++an (l.drop m))->w2.grownBy w3 (Value.slice I (m+1) F).ownBlock->w3.ownsRow B 41 3 v3 (aU l ⟨xk,d,b⟩).length (an (aU l ⟨xk,d,b⟩))/\Below w.heap.size w w3):=fun v3 w3 ho3 C=>by
     have hb3:Below wr.heap.size wr w3:=f.out.1.grown C hbs2 (fun k e=>(f.out.2.lt k e).1);refine ⟨?_,HB.out.trans (hb3.mono HB.out.size)⟩;rw [HP.out];have e1:(l.take m++⟨xk,d,b⟩::l.drop m).length=m+1+q:=by rw [lP,lC,tL,lD,HN.out];omega
     have e2:an (l.take m++⟨xk,d,b⟩::l.drop m)=(an (l.take m)++[.int .i64 xk,.string d,.int .i64 b])++an (l.drop m):=by simp [an]
     rw [e1,e2];exact ⟨ho3.1,ho3.2.imp id fun ⟨g,cap,D,e,hb,r⟩=>⟨g,cap,D,e,lT hB (lT HB.out.size hb),r⟩⟩
    have h1000:m+q<=1000:=by omega
    have hqc:m+q<=c:=by omega
    rw [hq] at *;clear hq;by_cases Y:c=m
    .have a0:q=0:=by omega
     subst a0;subst Y;go_wp2_with (at_builtin;go_loud (refine wpList_append_own _ rfl _ _ 34 rfl wr.heap.size 41 i0 _ 3 32 (Yq.u underlying34) H y G A rfl (by decide) _ _ _ rfl f.out.2 ⟨g,0,none⟩ 0 0 (an (l.drop c)) rfl T (U.out _ (Or.inr rfl)) (iA _) (by simp only [maxLen];omega) (by omega) hbs2 ?_);intro v3 w3 ho3 C _;obtain ⟨a2,V,rfl,-⟩:=aE ho3)
     go_ret;exact ⟨_,rfl,R.out _ _ ho3 C⟩
    .go_wp2_with (at_builtin;go_loud (refine wpList_append_own _ rfl _ _ 34 rfl wr.heap.size 41 i0 _ 3 32 (Yq.u underlying34) H y G A rfl (by decide) _ _ _ rfl f.out.2 ⟨g,m * 3,none⟩ q (c-m) (an (l.drop m)) rfl T (U.out _ (Or.inl rfl)) (iA _) (by simp only [maxLen];omega) (by omega) hbs2 ?_);intro v3 w3 ho3 C _;obtain ⟨a2,V,rfl,-⟩:=aE ho3)
     go_ret;exact ⟨_,rfl,R.out _ _ ho3 C⟩
def Hb (w:Wj)(v:Wx)(its:List ItD):Prop:=∃a c,v=.slice a its.length c/\(its≠[]->∃g o,a=some ⟨g,o,none⟩/\∀j,j<its.length * 3->w.cell? ⟨g,o+j,none⟩=(an its)[j]?)
theorem j3.o {w:Wj}{v:Wx}{its:List ItD}(h:j3 w v its):Hb w v its:=by
 obtain ⟨a,c,rfl,hx⟩:=h.form;refine ⟨a,c,rfl,fun hne=>?_⟩;obtain ⟨g,rfl,hc⟩:=hx hne;exact ⟨g,0,rfl,fun j b=>by rw [zA];exact hc j b⟩
theorem pm (v1 v2:Wx)(its:List ItD)(w:Wj)(h1:j3 w v1 its)(h2:Hb w v2 its)(hl:its.length<=100000):
  Calls Yq.prog 85 #[v1,v2] w fun e w'=>e=.returned (.bool true)/\Below w.heap.size w w':=by
 obtain ⟨a,c,rfl,hx⟩:=h1.form;obtain ⟨b,d,rfl,hy⟩:=h2;have HX:Hid (its≠[]->∃g,a=some ⟨g,0,none⟩/\∀j,j<its.length * 3->w.cell? ⟨g,j,none⟩=(an its)[j]?):=hx;have HY:Hid (its≠[]->∃g o,b=some ⟨g,o,none⟩/\∀j,j<its.length * 3->w.cell? ⟨g,o+j,none⟩=(an its)[j]?):=hy;clear hx hy h1;obtain ⟨n,hn⟩:∃n,its.length=n:=⟨_,rfl⟩;have HN:Hid (its.length=n):=hn;rw [hn] at hl ⊢;clear hn;go_enter (Yq.nq func85),ntmps85;go_wp2_with fail
 go_loopw [5] (fun s5 wr=>∃i:Nat,i<=n/\s5=.int .i64 i/\Below w.heap.size w wr) (fun s5 _=>n-(intOf s5).toNat)
 case atStart=>exact ⟨0,Nat.zero_le _,rfl,bR _ _⟩
 case round=>
  obtain ⟨i,hin,rfl,hb⟩:=hrel;by_cases hlt:i<n
  .have f:i<its.length:=by rw [HN.out];exact hlt
   have hne:its≠[]:=by intro e;rw [e] at f;simp at f
   obtain ⟨g,rfl,hc⟩:=HX.out hne;obtain ⟨g',of,rfl,hc'⟩:=HY.out hne;obtain ⟨e0,e1,e2⟩:=kW its i f;have c0:=ai hb ((hc (i * 3) (by omega)).trans e0);have c1:=ai hb ((hc (i * 3+1) (by omega)).trans e1);have c2:=ai hb ((hc (i * 3+2) (by omega)).trans e2);have d0:=ai hb ((hc' (i * 3) (by omega)).trans e0);have d1:=ai hb ((hc' (i * 3+1) (by omega)).trans e1);have d2:=ai hb ((hc' (i * 3+2) (by omega)).trans e2);rw [<-Nat.add_assoc] at d1 d2;generalize its[i]=k at *;obtain ⟨kind,text,ver⟩:=k;simp only at c0 c1 c2 d0 d1 d2;have HB:Hid (Below w.heap.size w wr):=hb;clear hb hc hc' e0 e1 e2 HX HY;go_wp2
   go_region
   all_goals
    go_wp2;exact ⟨⟨i+1,by omega,by go_num,HB.out.drew⟩,by simp [intOf];omega⟩
  .have h:i=n:=by omega
   subst h;have HB:Hid (Below w.heap.size w wr):=hb;clear hb;go_wp2;go_ret;exact ⟨rfl,HB.out⟩
theorem kZ (l:List ItD)(x:ItD):(aU l x).length<=l.length+1:=by
 unfold aU;split
 .omega
 .rw [lP,lC,tL,lD];omega
theorem qB:∀ (m l:List ItD),(m.foldl aU l).length<=l.length+m.length
 | [],l=>by simp
 |x::m,l=>by
  have h1:=qB m (aU l x);have h2:=kZ l x;rw [List.foldl_cons,lC];omega
theorem th (b:Bool)(k:List UInt8)(h:List Ver)(a:h≠[]):(bc b k h).length<=h.length:=by
 have:=List.length_pos_iff.2 a;unfold bc;split
 .simp
 .simp;omega
theorem yC (q:Qy)(l:List ItD)(kh:List UInt8×List Ver)(a:kh.2≠[]):(dX q l kh).length<=l.length+kh.2.length:=by
 have h0:=List.length_pos_iff.2 a;unfold dX;split
 .split
  .rename_i c _;have:=kZ l ⟨2,⟨c.toArray⟩,0⟩;omega
  .have h1:=qB (bc q.vs kh.1 kh.2).reverse l;have h2:=th q.vs kh.1 kh.2 a;rw [List.length_reverse] at h1;omega
 .omega
theorem wD (q:Qy):∀ (R:KVs)(l:List ItD),(∀kh∈R,kh.2≠[])->(R.foldl (dX q) l).length<=l.length+fI R
 | [],l,_=>by simp [fI]
 |kh::R,l,h=>by
  have h1:=wD q R (dX q l kh) (fun x hx=>h x (by simp [hx]));have h2:=yC q l kh (h kh (by simp));have e:fI (kh::R)=kh.2.length+fI R:=by simp [fI]
  rw [List.foldl_cons,e];omega
def lh (e:br):List UInt8×List Ver:=(e.key.data.toList,e.h)
def bE (q:Qy)(R:List br)(i:Nat):List ItD:=eJ q ((R.take i).map lh)
theorem yD (q:Qy)(R:List br)(i:Nat)(h:i<R.length):bE q R (i+1)=dX q (bE q R i) (lh R[i]):=by
 unfold bE eJ;rw [tS h,List.map_append,List.foldl_append];rfl
theorem DN (R:List br):fI (R.map lh)=totR R:=by
 unfold fI totR;rw [List.map_map];rfl
theorem BA (q:Qy)(R:List br)(i:Nat)(h:∀e∈R,e.h≠[]):(bE q R i).length<=totR R:=by
 have h1:=wD q ((R.take i).map lh) [] (fun kh a=>by
  obtain ⟨e,he,rfl⟩:=List.mem_map.1 a;exact h e (List.mem_of_mem_take he))
 rw [DN] at h1;have h2:=gi R i;unfold bE eJ;simp only [lN] at h1;omega
theorem BB {st:St}{R:List br}{nx:Int}(S:Sim st R nx)(q:Qy)(hf:∀k,(st.f k).Pairwise fun a b=>a.num<b.num)(hlen:∀k,st.f k≠[]->k.length<=40):eJ q (R.map lh)=bD q (cD st.f q.p.data.toList):=by
 refine uS q st.f (R.map lh) hf hlen (fun kh c=>?_) fun k hk=>?_
 .obtain ⟨e,he,rfl⟩:=List.mem_map.1 c;have h1:=S.here e he;exact ⟨h1.symm,fun e2=>S.full e he (h1.symm.trans e2)⟩
 .refine Classical.byContradiction fun hno=>hk (S.gone k fun e he e2=>hno ?_)
  refine List.mem_map.2 ⟨e,he,?_⟩;unfold lh;rw [e2,<-S.here e he,e2]
theorem uX {q:Qy}{l:List ItD}{kh:List UInt8×List Ver}(h:q.p.data.toList.isPrefixOf kh.1=false\/fE q kh.1 kh.2=false):dX q l kh=l:=by
 unfold dX;rw [if_neg];rcases h with h|h<;>simp [h]
theorem qC {q:Qy}{l:List ItD}{kh:List UInt8×List Ver}{c:List UInt8}(h1:q.p.data.toList.isPrefixOf kh.1=true)(h2:fE q kh.1 kh.2=true)(h3:aP q kh.1=some c):dX q l kh=aU l ⟨2,⟨c.toArray⟩,0⟩:=by
 unfold dX;rw [if_pos (by simp [h1,h2]),h3]
theorem yE {q:Qy}{l:List ItD}{kh:List UInt8×List Ver}(h1:q.p.data.toList.isPrefixOf kh.1=true)(h2:fE q kh.1 kh.2=true)(h3:aP q kh.1=none):dX q l kh=(bc q.vs kh.1 kh.2).reverse.foldl aU l:=by
 unfold dX;rw [if_pos (by simp [h1,h2]),h3]
def dw (a:Bool)(k:List UInt8)(h:List Ver)(l:List ItD)(j:Nat):List ItD:=if a then ((h.take j).map (ec k)).foldl aU l else if j<h.length then l else aU l ⟨1,⟨k.toArray⟩,(mq h).num⟩
theorem yF (b:Bool)(k:List UInt8)(h:List Ver)(a:h≠[])(l:List ItD):dw b k h l 0=l:=by
 unfold dw;split
 .rfl
 .rw [if_pos (List.length_pos_iff.2 a)]
theorem BC (a:Bool)(k:List UInt8)(h:List Ver)(l:List ItD):dw a k h l h.length=(bc a k h).reverse.foldl aU l:=by
 unfold dw bc;split
 .rw [List.take_length,<-List.map_reverse,List.reverse_reverse]
 .rw [if_neg (Nat.lt_irrefl _)];rfl
theorem DO (k:List UInt8)(h:List Ver)(l:List ItD)(j:Nat)(a:j<h.length):dw true k h l (j+1)=aU (dw true k h l j) (ec k h[j]):=by
 unfold dw;simp only [if_true];rw [tS a,List.map_append,List.foldl_append];rfl
theorem BD (k:List UInt8)(h:List Ver)(l:List ItD)(j:Nat)(a:j+1<h.length):dw false k h l (j+1)=dw false k h l j:=by
 unfold dw;simp only [Bool.false_eq_true,if_false];rw [if_pos a,if_pos (by omega)]
theorem yG (k:List UInt8)(h:List Ver)(l:List ItD)(j:Nat)(hj:j+1=h.length):dw false k h l (j+1)=aU (dw false k h l j) ⟨1,⟨k.toArray⟩,(h[j]'(by omega)).num⟩:=by
 have e:(mq h)=h[j]'(by omega):=by
  unfold mq;rw [List.getLast?_eq_getElem?,show h.length-1=j by omega,eL (by omega)];rfl
 unfold dw;simp only [Bool.false_eq_true,if_false];rw [if_neg (by omega),if_pos (by omega),e]
theorem BE (b:Bool)(k:List UInt8)(h:List Ver)(a:h≠[])(l:List ItD)(j:Nat):(dw b k h l j).length<=l.length+h.length:=by
 have h0:=List.length_pos_iff.2 a;unfold dw;split
 .have:=qB ((h.take j).map (ec k)) l;rw [lM,tL] at this;omega
 .split
  .omega
  .have:=kZ l ⟨1,⟨k.toArray⟩,(mq h).num⟩;omega
end
