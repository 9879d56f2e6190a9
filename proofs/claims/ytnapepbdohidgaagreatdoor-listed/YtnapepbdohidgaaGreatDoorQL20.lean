/- A part. -/
import Derived.Test.YtnapepbdohidgaaGreatDoorQL13
import Derived.Deep.QuietTactic
import Derived.BigQuiet
import Derived.Deep.AppendLies
set_option maxHeartbeats 4000000
set_option maxRecDepth 100000
open Go renaming World->Wj,Value->Wx
namespace Go.Proofs.Qw
open Tryz
section
open Go.RowKit
theorem eA (c:Int)(w:Wj):Calls Yq.prog 55 #[.int .i64 c] w fun e w'=>e=.returned (aA ⟨c,0,⟨#[]⟩⟩)/\Below w.heap.size w w':=by
 go_enter (Yq.nq func55),ntmps55;go_wp2;exact bodyPost_ret (v:=aA ⟨c,0,⟨#[]⟩⟩) (by simp [aA,results,results55,go_sem]) rfl ⟨rfl,(bR _ _).alloc (lR _) _⟩
def qx (x:yU)(a:Option Addr)(c:Nat):Wx:=.agg #[.int .i64 x.code,.int .i64 x.ver,.string x.body,.slice a 0 c,.string ⟨#[]⟩]
theorem j4 (x:yU)(a:Option Addr)(c:Nat)(w:Wj):Calls Yq.prog 51 #[qx x a c,aA x] w fun e w'=>e=.returned (.bool true)/\Below w.heap.size w w':=by
 have z0:(x.code==x.code)=true:=by simp
 have z1:(x.ver==x.ver)=true:=by simp
 unfold aA qx;go_enter (Yq.nq func51),ntmps51;go_wp2;go_ret;exact ⟨rfl,((bR _ _).alloc (lR _) _).alloc (by simp) _⟩
structure br where
 key:ByteArray
 h:List Ver
 v:Wx
def az (R:List br):List Wx:=R.flatMap fun e=>[.string e.key,e.v]
theorem ix (R:List br):(az R).length=R.length * 2:=gt 2 _ (fun _=>rfl) R
structure ax (B:Nat)(w:Wj)(k:Nat)(sl:Wx)(R:List br)(nx tm:Int):Prop where
 cells:aQ w k sl (.int .i64 nx) (.int .i64 tm)
 row:w.ownsRow B 154 2 sl R.length (az R)
 vers:∀e∈R,w.ownsRow B 145 3 e.v e.h.length (am e.h)
 apart:sl.ownBlock≠some k
 apartV:∀e∈R,e.v.ownBlock≠some k
 apartE:∀e∈R,e.v.ownBlock≠sl.ownBlock
 pw:R.Pairwise (fun a b=>a.v.ownBlock≠b.v.ownBlock)
theorem ax.ent {B:Nat}{w:Wj}{k:Nat}{sl:Wx}{R:List br}{nx tm:Int}(h:ax B w k sl R nx tm)(i:Nat)(a:i<R.length):
  ∃g cap,sl=.slice (some ⟨g,0,none⟩) R.length cap/\B<=g/\g<w.heap.size/\w.cell? ⟨g,i * 2,none⟩=some (.string R[i].key)/\w.cell? ⟨g,i * 2+1,none⟩=some R[i].v:=by
 obtain ⟨g,cap,rfl,h1,h2,h3⟩:=cP h.row (by omega);refine ⟨g,cap,rfl,h1,h2,?_,?_⟩
 .have:=h.row.cellAt (i * 2+0) (by omega);rw [az,cu 2 _ (fun _=>rfl) R i 0 a (by omega)] at this;simpa using this
 .have:=h.row.cellAt (i * 2+1) (by omega);rw [az,cu 2 _ (fun _=>rfl) R i 1 a (by omega)] at this;simpa using this
theorem wz (a:ByteArray):(a.toList==a.toList)=true:=by simp
theorem wA {a b:ByteArray}(h:a≠b):(a.toList==b.toList)=false:=by
 rw [ByteArray.toList_eq,ByteArray.toList_eq];have:a.data.toList≠b.data.toList:=fun e=>h (by cases a;cases b;simp only [ByteArray.mk.injEq];exact Array.toList_inj.1 e)
 simpa using this
def sR (R:List br)(key:ByteArray)(w:Wj)(e:Ending)(w':Wj):Prop:=
 w=w'/\((∃ (i:Nat) (h:i<R.length),R[i].key=key/\e=.returned (.int .i64 i))\/((∀x∈R,x.key≠key)/\e=.returned (.int .i64 (-1))))
theorem iy (B k:Nat)(sl:Wx)(R:List br)(nx tm:Int)(key:ByteArray)(w:Wj)(H:ax B w k sl R nx tm)(hn:R.length<=1000):
  Calls Yq.prog 107 #[.pointer (some ⟨k,0,none⟩),.string key] w (sR R key w):=by
 obtain ⟨e,f,rfl,-⟩:=aE H.row;have c0:=H.cells.c0;have HH:Hid (ax B w k (.slice e R.length f) R nx tm):=H;clear H;unfold sR;go_enter (Yq.nq func107),ntmps107;go_wp2_with fail
 go_loopw [5] (fun s4 wr=>∃i:Nat,i<=R.length/\s4=.int .i64 i/\(∀j (h:j<R.length),j<i->R[j].key≠key)/\wr=w) (fun s4 _=>R.length-(intOf s4).toNat)
 case atStart=>exact ⟨0,Nat.zero_le _,rfl,fun j h b=>absurd b (by omega),rfl⟩
 case round=>
  obtain ⟨i,hin,rfl,hno,rfl⟩:=hrel;have c:Hid (∀j (h:j<R.length),j<i->R[j].key≠key):=hno;clear hno;by_cases a:i<R.length
  .skip
   obtain ⟨g,cap,he,-,-,e0,e1⟩:=HH.out.ent i a;cases he;have hii:(i:Int)<(R.length:Int):=by omega
   by_cases hk:R[i].key=key
   .have HE:Hid (R[i].key=key):=hk;rw [hk] at e0;clear hk e1;have hs:=wz key;go_wp2_with fail
    go_ret;exact ⟨rfl,Or.inl ⟨i,a,HE.out,rfl⟩⟩
   .have HE:Hid (R[i].key≠key):=hk;have hs:=wA hk;generalize R[i].key=kk at e0 hs;clear e1 hk;go_wp2_with fail
    refine ⟨⟨i+1,a,by go_num,fun j b hji=>?_,trivial⟩,by simp [intOf];omega⟩;rcases Nat.lt_or_ge j i with h1|h1
    .exact c.out j b h1
    .have:j=i:=by omega
     subst this;exact HE.out
  .have d:i=R.length:=by omega
   subst d;go_wp2;go_ret;refine ⟨rfl,Or.inr ⟨fun x hx=>?_,rfl⟩⟩;obtain ⟨j,b,rfl⟩:=gM hx;exact c.out j b b
def totR (R:List br):Nat:=(R.map (·.h.length)).sum
theorem sU (R:List br)(i:Nat)(h:i<R.length):totR (R.take (i+1))=totR (R.take i)+R[i].h.length:=by
 unfold totR;rw [tS h,List.map_append,List.sum_append];simp
theorem gi (R:List br)(i:Nat):totR R=totR (R.take i)+totR (R.drop i):=by
 unfold totR
 conv=>lhs;rw [<-List.take_append_drop i R]
 rw [List.map_append,List.sum_append]
theorem gE (R:List br)(h:∀e∈R,e.h≠[]):R.length<=totR R:=by
 induction R with
 |nil=>simp [totR]
 |cons a r ih=>
  have h1:=ih (fun e he=>h e (List.mem_cons_of_mem _ he));have h2:=List.length_pos_iff.2 (h a (List.mem_cons_self ..));simp only [totR,List.map_cons,List.sum_cons,lC] at *;omega
theorem pe (B k:Nat)(sl:Wx)(R:List br)(nx tm:Int)(w:Wj)(H:ax B w k sl R nx tm)(hlt:R.length<=totR R)(hn:totR R<=1000):
  Calls Yq.prog 88 #[.pointer (some ⟨k,0,none⟩)] w fun e w'=>e=.returned (.int .i64 (totR R:Int))/\w=w':=by
 obtain ⟨d,c,rfl,-⟩:=aE H.row;have c0:=H.cells.c0;have HH:Hid (ax B w k (.slice d R.length c) R nx tm):=H;clear H;go_enter (Yq.nq func88),ntmps88;go_wp2_with fail
 go_loopw [3,4] (fun s3 s4 wr=>∃i:Nat,i<=R.length/\s3=.int .i64 (totR (R.take i):Int)/\s4=.int .i64 i/\wr=w) (fun _ s4 _=>R.length-(intOf s4).toNat)
 case atStart=>exact ⟨0,Nat.zero_le _,rfl,rfl,rfl⟩
 case round=>
  obtain ⟨i,hin,rfl,rfl,rfl⟩:=hrel;have hts:=gi R i;by_cases a:i<R.length
  .skip
   obtain ⟨g,cap,he,-,-,e0,e1⟩:=HH.out.ent i a;obtain ⟨vb,vd,hev,-⟩:=aE (HH.out.vers R[i] (List.getElem_mem a));rw [hev] at e1;cases he;have hts2:=gi R (i+1);have HTS:=sU R i a;rw [HTS] at hts2;have HT:Hid (totR (R.take (i+1))=totR (R.take i)+R[i].h.length):=HTS;clear hev HTS e0;have hii:(i:Int)<(R.length:Int):=by omega
   generalize R[i].h.length=m at *;generalize totR (R.take i)=t at *;go_wp2_with fail
   refine ⟨⟨i+1,a,by rw [HT.out];go_num,by go_num,trivial⟩,by simp [intOf];omega⟩
  .have b:i=R.length:=by omega
   subst b;have HT:Hid (R.take R.length=R):=List.take_length;go_wp2;go_ret;exact ⟨pq (congrArg (fun l=>(totR l:Int)) HT.out),rfl⟩
theorem aQ.grown {w w':Wj}{b:Nat}{x y z:Wx}{row:Option Nat}(h:aQ w b x y z)(hg:w.grownBy w' row)(hne:row≠some b):aQ w' b x y z:=
 ⟨hg.cell h.c0 (fun e=>hne e.symm),hg.cell h.c1 (fun e=>hne e.symm),hg.cell h.c2 (fun e=>hne e.symm),fun j=>(bB hg ⟨b,j,none⟩ h.lt (fun e=>hne e.symm)).trans (h.fz j)⟩
theorem ax.grown {B:Nat}{w w':Wj}{k:Nat}{sl:Wx}{R:List br}{nx tm:Int}{row:Option Nat}(H:ax B w k sl R nx tm)(hg:w.grownBy w' row)(h1:row≠some k)(h2:sl.ownBlock=none\/sl.ownBlock≠row)(h3:∀e∈R,e.v.ownBlock=none\/e.v.ownBlock≠row):
  ax B w' k sl R nx tm:=
 ⟨H.cells.grown hg h1,H.row.kept hg h2,fun e he=>(H.vers e he).kept hg (h3 e he),H.apart,H.apartV,H.apartE,H.pw⟩
theorem none_or (o:Option Nat):o=none\/o≠none:=by cases o<;>simp
theorem ax.below {B:Nat}{w w':Wj}{k:Nat}{sl:Wx}{R:List br}{nx tm:Int}(H:ax B w k sl R nx tm)(hb:Below w.heap.size w w'):ax B w' k sl R nx tm:=
 H.grown (aS hb none) (by simp) (none_or _) (fun _ _=>none_or _)
theorem ax.alloc {B:Nat}{w:Wj}{k:Nat}{sl:Wx}{R:List br}{nx tm:Int}(H:ax B w k sl R nx tm)(o:Obj):ax B (w.alloc o) k sl R nx tm:=
 H.below ((bR _ _).alloc (lR _) _)
theorem ax.lt {B:Nat}{w:Wj}{k:Nat}{sl:Wx}{R:List br}{nx tm:Int}(H:ax B w k sl R nx tm):k<w.heap.size:=H.cells.lt
theorem cR (w:Wj)(k o:Nat)(v:Wx):w.grownBy (w.setCell ⟨k,o,none⟩ v) (some k):=dp (World.grownBy.refl w _) _ _
theorem ax.set1 {B:Nat}{w:Wj}{k:Nat}{sl:Wx}{R:List br}{nx tm:Int}(H:ax B w k sl R nx tm)(a:Int):ax B (w.setCell ⟨k,1,none⟩ (.int .i64 a)) k sl R a tm:=
 ⟨H.cells.set1 _,H.row.kept (cR w k 1 _) (Or.inr H.apart),fun e he=>(H.vers e he).kept (cR w k 1 _) (Or.inr (H.apartV e he)),H.apart,H.apartV,H.apartE,H.pw⟩
theorem qy {w:Wj}{B:Nat}{e:TypeId}{a:Nat}{v:Wx}{n:Nat}{xs:List Wx}(h:w.ownsRow B e a v n xs)(hn:0<n):v.ownBlock≠none:=by
 obtain ⟨g,cap,rfl,-⟩:=cP h hn;simp [Value.ownBlock]
theorem ax.put0 {B:Nat}{w w1:Wj}{k g:Nat}{sl sl':Wx}{R R':List br}{nx tm:Int}(H:ax B w k sl R nx tm)(hg:w.grownBy w1 sl.ownBlock)(ho:w1.ownsRow B 154 2 sl' R'.length (az R'))(hs:sl'.ownBlock=some g)
  (c:sl.ownBlock=some g\/w.heap.size<=g) (hv:∀e∈R',(e∈R)\/(e.h=[]/\e.v=.slice none 0 0)) (hpw:R'.Pairwise (fun a b=>a.v.ownBlock≠b.v.ownBlock)):
  ax B (w1.setCell ⟨k,0,none⟩ sl') k sl' R' nx tm:=by
 have hk:=H.lt;have hgk:g≠k:=by
  rcases c with h|h
  .intro e;subst e;exact H.apart h
  .omega
 have d:∀e∈R,e.v.ownBlock≠some g:=fun e he=>by
  rcases c with h|h
  .rw [<-h];exact H.apartE e he
  .intro hb;have:=(H.vers e he).lt g hb;omega
 have hset:=cR w1 k 0 sl';refine ⟨(H.cells.grown hg (fun e=>H.apart e)).set0 _,ho.kept hset (Or.inr (by rw [hs];simpa using hgk)),?_,by rw [hs];simpa using hgk,?_,?_,hpw⟩
 .intro e he;rcases hv e he with h|⟨h1,h2⟩
  .exact ((H.vers e h).kept hg (Or.inr (H.apartE e h))).kept hset (Or.inr (H.apartV e h))
  .rw [h1,h2];exact World.ownsRow_nil _ _ _ _
 .intro e he;rcases hv e he with h|⟨h1,h2⟩
  .exact H.apartV e h
  .rw [h2];simp [Value.ownBlock]
 .intro e he;rw [hs];rcases hv e he with h|⟨h1,h2⟩
  .exact d e h
  .rw [h2];simp [Value.ownBlock]
theorem sW (R:List br)(i:Nat)(a:i<R.length)(h:List Ver)(v:Wx):(az R).set (i * 2+1) v=az (R.set i ⟨R[i].key,h,v⟩):=by
 have h1:R=R.take i++R[i]::R.drop (i+1):=by simp
 have h2:(R.take i).length=i:=by rw [tL];omega
 have h3:(az (R.take i)).length=i * 2:=by rw [ix,h2]
 have e1:az R=az (R.take i)++([.string R[i].key,R[i].v]++az (R.drop (i+1))):=
  (congrArg az h1).trans (by unfold az;rw [List.flatMap_append,List.flatMap_cons])
 have e2:R.set i ⟨R[i].key,h,v⟩=R.take i++⟨R[i].key,h,v⟩::R.drop (i+1):=by
  rw [List.set_eq_take_append_cons_drop,if_pos a]
 rw [e2,e1,List.set_append_right _ _ (by omega),h3,Nat.add_sub_cancel_left];simp [az]
theorem GH {R:List br}{i:Nat}(_hi:i<R.length){x:br}(hp:R.Pairwise (fun a b=>a.v.ownBlock≠b.v.ownBlock))(hx:∀j (hj:j<R.length),j≠i->R[j].v.ownBlock≠x.v.ownBlock):(R.set i x).Pairwise (fun a b=>a.v.ownBlock≠b.v.ownBlock):=by
 rw [List.pairwise_iff_getElem] at hp ⊢;intro a b ha hb c;rw [List.length_set] at ha hb;rw [List.getElem_set,List.getElem_set];by_cases h1:i=a
 .have h2:¬i=b:=by omega
  rw [if_pos h1,if_neg h2];exact fun e=>hx b hb (by omega) e.symm
 .rw [if_neg h1];by_cases h2:i=b
  .rw [if_pos h2];exact hx a ha (by omega)
  .rw [if_neg h2];exact hp a b ha hb c
theorem ax.putV {B:Nat}{w w1:Wj}{k ge:Nat}{cap:Nat}{R:List br}{nx tm:Int}{i:Nat}(H:ax B w k (.slice (some ⟨ge,0,none⟩) R.length cap) R nx tm)(n:i<R.length){v':Wx}{h':List Ver}{row:Option Nat}(hg:w.grownBy w1 row)(hrow:row=none\/row=R[i].v.ownBlock)
  (ho:w1.ownsRow B 145 3 v' h'.length (am h')) (hv:v'.ownBlock=none\/v'.ownBlock=R[i].v.ownBlock\/∃g,v'.ownBlock=some g/\w.heap.size<=g) (m:∀j (a:j<R.length),j≠i->R[j].h≠[]):
  ax B (w1.setCell ⟨ge,i * 2+1,none⟩ v') k (.slice (some ⟨ge,0,none⟩) R.length cap) (R.set i ⟨R[i].key,h',v'⟩) nx tm:=by
 have hk:=H.lt;have hmem:R[i]∈R:=List.getElem_mem n;have hge:=H.row.lt ge rfl;have r:row≠some k:=by
  rcases hrow with h|h
  .rw [h];simp
  .rw [h];exact H.apartV _ hmem
 have q:row≠some ge:=by
  rcases hrow with h|h
  .rw [h];simp
  .rw [h];exact H.apartE _ hmem
 have hne:∀b,b<w.heap.size->R[i].v.ownBlock≠some b->v'.ownBlock≠some b:=by
  intro b hb hn;rcases hv with h|h|⟨g,h,hgg⟩
  .rw [h];simp
  .rw [h];exact hn
  .rw [h];simp;omega
 have p:v'.ownBlock≠some k:=hne k hk (H.apartV _ hmem);have o:v'.ownBlock≠some ge:=hne ge hge.2 (H.apartE _ hmem);have hpw:=H.pw;rw [List.pairwise_iff_getElem] at hpw;have d:∀j (a:j<R.length),j≠i->R[j].v.ownBlock≠R[i].v.ownBlock:=fun j a hji=>by
  rcases Nat.lt_or_gt_of_ne hji with h|h
  .exact hpw j i a n h
  .exact fun e=>hpw i j n a h e.symm
 have l:∀j (a:j<R.length),j≠i->R[j].v.ownBlock≠v'.ownBlock:=fun j a hji=>by
  cases hb:R[j].v.ownBlock with
  |none=>exact absurd hb (qy (H.vers _ (List.getElem_mem a)) (List.length_pos_iff.2 (m j a hji)))
  |some b=>
   have hlt:=(H.vers _ (List.getElem_mem a)).lt b hb;exact fun e=>hne b hlt.2 (fun e2=>d j a hji (by rw [hb,e2])) e.symm
 have hs:=(H.row.kept hg (Or.inr (fun e=>q e.symm))).stored (i * 2+1) v';have hset:=hs.2;have hc:=(H.cells.grown hg r).grown hset (fun e=>H.apart (by simpa [Value.ownBlock] using e));have c:∀e∈R.set i ⟨R[i].key,h',v'⟩,e=⟨R[i].key,h',v'⟩\/∃j,∃a:j<R.length,j≠i/\e=R[j]:=fun e he=>by
  obtain ⟨j,a,rfl⟩:=gM he;rw [List.length_set] at a;rw [List.getElem_set];by_cases f:i=j
  .rw [if_pos f];exact Or.inl rfl
  .rw [if_neg f];exact Or.inr ⟨j,a,fun e=>f e.symm,rfl⟩
 refine ⟨hc,?_,?_,H.apart,?_,?_,GH n H.pw l⟩
 .rw [List.length_set,<-sW R i n h' v'];exact hs.1
 .intro e he;rcases c e he with rfl|⟨j,a,hji,rfl⟩
  .exact ho.kept hset (Or.inr o)
  .have hjm:=List.getElem_mem a;refine ((H.vers _ hjm).kept hg ?_).kept hset (Or.inr (H.apartE _ hjm));rcases hrow with h|h
   .rw [h];exact none_or _
   .rw [h];exact Or.inr (d j a hji)
 .intro e he;rcases c e he with rfl|⟨j,a,hji,rfl⟩
  .exact p
  .exact H.apartV _ (List.getElem_mem a)
 .intro e he;rcases c e he with rfl|⟨j,a,hji,rfl⟩
  .exact o
  .exact H.apartE _ (List.getElem_mem a)
structure Sim (st:St)(R:List br)(nx:Int):Prop where
 next:nx=st.last+1
 full:∀e∈R,e.h≠[]
 keys:R.Pairwise (fun a b=>a.key≠b.key)
 here:∀e∈R,st.f e.key.data.toList=e.h
 gone:∀k,(∀e∈R,e.key.data.toList≠k)->st.f k=[]
 count:st.count=(totR R:Int)
 lim:totR R<=200
structure bg (w w':Wj)(k:Nat)(sl:Wx)(R:List br):Prop where
 os:w'.os=w.os
 tape:w'.tape=w.tape
 output:w'.output=w.output
 size:w.heap.size<=w'.heap.size
 block:∀b,b<w.heap.size->b≠k->sl.ownBlock≠some b->(∀e∈R,e.v.ownBlock≠some b)->w'.heap[b]?=w.heap[b]?
 cells:∀j,3<=j->w'.cell? ⟨k,j,none⟩=w.cell? ⟨k,j,none⟩
 frozen:∀j,w'.frozen? ⟨k,j,none⟩=w.frozen? ⟨k,j,none⟩
def bL (B k:Nat)(c:St)(a:yU)(w:Wj)(sl:Wx)(R:List br)(tm:Int)(e:Ending)(w':Wj):Prop:=
 e=.returned (aA a)/\∃sl' R' b,ax B w' k sl' R' b tm/\Sim c R' b/\bg w w' k sl R
theorem ba {w w':Wj}{k:Nat}(hk:k<w.heap.size)(hb:Below w.heap.size w w')(sl:Wx)(R:List br):bg w w' k sl R:=
 ⟨hb.os,hb.tape,hb.output,hb.size,fun b h _ _ _=>hb.block b h,fun _ _=>cB (hb.block k hk),fun _=>fB (hb.block k hk)⟩
theorem yx (w:Wj)(k o:Nat)(v:Wx)(ho:o<3)(sl:Wx)(R:List br):bg w (w.setCell ⟨k,o,none⟩ v) k sl R:=
 ⟨rfl,rfl,rfl,by simp [World.setCell],fun b _ h _ _=>bS _ _ _ _ h,fun j hj=>cO w ⟨k,o,none⟩ ⟨k,j,none⟩ v (fun e=>by have:=congrArg Addr.off e;simp only at this;omega),fun j=>by simp⟩
theorem bg.below {w w1 w2:Wj}{k:Nat}{sl:Wx}{R:List br}(h:bg w w1 k sl R)(hb:Below w1.heap.size w1 w2)(hk:k<w1.heap.size):bg w w2 k sl R:=
 ⟨hb.os.trans h.os,hb.tape.trans h.tape,hb.output.trans h.output,lT h.size hb.size,fun b h1 h2 h3 h4=>(hb.block b (lL h1 h.size)).trans (h.block b h1 h2 h3 h4),
  fun j a=>(cB (hb.block k hk)).trans (h.cells j a),fun j=>(fB (hb.block k hk)).trans (h.frozen j)⟩
theorem bg.step {w w1 w2:Wj}{k:Nat}{sl:Wx}{R:List br}{row:Option Nat}(h:bg w w1 k sl R)(hg:w1.grownBy w2 row)(hr:∀b,b<w.heap.size->row=some b->sl.ownBlock=some b\/∃e∈R,e.v.ownBlock=some b)(hk:k<w1.heap.size)(a:row≠some k):bg w w2 k sl R:=by
 refine ⟨hg.os.trans h.os,hg.tape.trans h.tape,hg.output.trans h.output,lT h.size hg.size,fun b h1 h2 h3 h4=>?_,
  fun j c=>(cB (hg.block k hk (fun e=>a e.symm))).trans (h.cells j c),fun j=>(fB (hg.block k hk (fun e=>a e.symm))).trans (h.frozen j)⟩
 refine (hg.block b (lL h1 h.size) (fun e=>?_)).trans (h.block b h1 h2 h3 h4);rcases hr b h1 e.symm with h5|⟨x,hx,h5⟩
 .exact h3 h5
 .exact h4 x hx h5
theorem iR (w:Wj)(x:Nat)(a b c d e:Wx):w.grownBy (((((w.setCell ⟨x,0,none⟩ a).setCell ⟨x,1,none⟩ b).setCell ⟨x,2,none⟩ c).setCell ⟨x,3,none⟩ d).setCell ⟨x,4,none⟩ e) (some x):=
 dp (dp (dp (dp (cR w x 0 a) _ _) _ _) _ _) _ _
theorem dl (A C:List br):totR (A++C)=totR A+totR C:=by unfold totR;rw [List.map_append,List.sum_append]
theorem wB (R:List br)(i:Nat)(a:i<R.length)(x:br):totR (R.set i x)+R[i].h.length=totR R+x.h.length:=by
 have h1:R=R.take i++([R[i]]++R.drop (i+1)):=by simp
 have h2:R.set i x=R.take i++([x]++R.drop (i+1)):=by rw [List.set_eq_take_append_cons_drop,if_pos a];rfl
 have h3:=congrArg totR h1;rw [h2,dl,dl,h3,dl,dl];simp only [totR,List.map_cons,List.map_nil,List.sum_cons,List.sum_nil];omega
theorem kY {R:List br}{i:Nat}{x e:br}(he:e∈R.set i x):e=x\/∃j,∃b:j<R.length,j≠i/\e=R[j]:=by
 obtain ⟨j,b,rfl⟩:=gM he;rw [List.length_set] at b;rw [List.getElem_set];by_cases a:i=j
 .rw [if_pos a];exact Or.inl rfl
 .rw [if_neg a];exact Or.inr ⟨j,b,fun e=>a e.symm,rfl⟩
theorem pf {R:List br}{i:Nat}{x:br}(a:i<R.length):x∈R.set i x:=List.mem_iff_getElem.2 ⟨i,by rw [List.length_set];exact a,by rw [List.getElem_set,if_pos rfl]⟩
theorem pi {R:List br}{i j:Nat}{x:br}(a:j<R.length)(hne:j≠i):R[j]∈R.set i x:=List.mem_iff_getElem.2 ⟨j,by rw [List.length_set];exact a,by rw [List.getElem_set,if_neg (fun e=>hne e.symm)]⟩
theorem iz {a b:ByteArray}(h:a.data.toList=b.data.toList):a=b:=by cases a;cases b;simp only [ByteArray.mk.injEq];exact Array.toList_inj.1 h
theorem Sim.other {st:St}{R:List br}{nx:Int}(S:Sim st R nx){i j:Nat}(b:i<R.length)(a:j<R.length)(hne:j≠i):R[j].key≠R[i].key:=by
 have hp:=S.keys;rw [List.pairwise_iff_getElem] at hp;rcases Nat.lt_or_gt_of_ne hne with h|h
 .exact hp j i a b h
 .exact fun e=>hp i j b a h e.symm
theorem Sim.addFound {st:St}{R:List br}{nx:Int}(S:Sim st R nx){i:Nat}(c:i<R.length){key:ByteArray}(hk:R[i].key=key)(l:ByteArray)(m:Bool)(v:Wx)(hc:¬200<=st.count):Sim (cw st key l m) (R.set i ⟨R[i].key,R[i].h++[⟨st.last+1,l,m⟩],v⟩) (st.last+1+1):=by
 subst hk;have ht:=wB R i c ⟨R[i].key,R[i].h++[⟨st.last+1,l,m⟩],v⟩;simp only [lP,lC,lN] at ht;have hcnt:=S.count;refine ⟨rfl,?_,?_,?_,?_,?_,by omega⟩
 .intro e he;rcases kY he with rfl|⟨j,d,-,rfl⟩
  .simp
  .exact S.full _ (List.getElem_mem d)
 .rw [List.pairwise_iff_getElem];intro a b ha hb n;rw [List.length_set] at ha hb;rw [List.getElem_set,List.getElem_set];by_cases h1:i=a
  .have h2:¬i=b:=by omega
   rw [if_pos h1,if_neg h2];exact fun e=>S.other c hb (by omega) e.symm
  .rw [if_neg h1];by_cases h2:i=b
   .rw [if_pos h2];exact S.other c ha (by omega)
   .rw [if_neg h2];have hp:=S.keys;rw [List.pairwise_iff_getElem] at hp;exact hp a b ha hb n
 .intro e he;rcases kY he with rfl|⟨j,d,hji,rfl⟩
  .simp [cw,upd,S.here _ (List.getElem_mem c)]
  .have hne:R[j].key.data.toList≠R[i].key.data.toList:=fun e=>S.other c d hji (iz e)
   simp [cw,upd,hne,S.here _ (List.getElem_mem d)]
 .intro k hk;have h1:=hk _ (pf (x:=⟨R[i].key,R[i].h++[⟨st.last+1,l,m⟩],v⟩) c);have h2:st.f k=[]:=S.gone k (fun e he=>by
   obtain ⟨j,d,rfl⟩:=gM he;by_cases hji:j=i
   .subst hji;exact h1
   .exact hk _ (pi d hji))
  simp only [cw,upd];rw [if_neg (fun e=>h1 e.symm)];exact h2
 .show st.count+1=_;omega
theorem Sim.addNew {st:St}{R:List br}{nx:Int}(S:Sim st R nx){key:ByteArray}(hk:∀x∈R,x.key≠key)(c:ByteArray)(d:Bool)(v:Wx)(hc:¬200<=st.count):Sim (cw st key c d) (R++[⟨key,[⟨st.last+1,c,d⟩],v⟩]) (st.last+1+1):=by
 have ht:totR (R++[⟨key,[⟨st.last+1,c,d⟩],v⟩])=totR R+1:=by rw [dl];rfl
 have hcnt:=S.count;have hke:∀e∈R,e.key.data.toList≠key.data.toList:=fun e he h=>hk e he (iz h)
 refine ⟨rfl,?_,?_,?_,?_,?_,by omega⟩
 .intro e he;rcases List.mem_append.1 he with h|h
  .exact S.full _ h
  .simp only [List.mem_cons,List.not_mem_nil,or_false] at h;subst h;simp
 .rw [List.pairwise_append];refine ⟨S.keys,List.pairwise_singleton _ _,fun a ha b hb=>?_⟩;simp only [List.mem_cons,List.not_mem_nil,or_false] at hb;subst hb;exact hk a ha
 .intro e he;rcases List.mem_append.1 he with h|h
  .simp [cw,upd,hke e h,S.here _ h]
  .simp only [List.mem_cons,List.not_mem_nil,or_false] at h;subst h;have:st.f key.data.toList=[]:=S.gone _ hke;simp [cw,upd,this]
 .intro k h;have h1:=h ⟨key,[⟨st.last+1,c,d⟩],v⟩ (by simp);have h2:st.f k=[]:=S.gone k (fun e he=>h e (List.mem_append_left _ he));simp only [cw,upd];rw [if_neg (fun e=>h1 e.symm)];exact h2
 .show st.count+1=_;omega
theorem Yq.infoREnt:(Yq.prog.info? 154).map (fun i=>(i.zero,i.size,i.bytes))=some (some (.agg #[.string ⟨#[]⟩,.slice none 0 0]),2,40):=by kernel_rfl
theorem Yq.infoRver:(Yq.prog.info? 145).map (fun i=>(i.zero,i.size,i.bytes))=some (some (.agg #[.int .i64 0,.string ⟨#[]⟩,.bool false]),3,32):=by kernel_rfl
structure iY (x:Nat)(W:Wj):Prop where
 c0:W.cell? ⟨x,0,none⟩=some (.int .i64 0)
 c1:W.cell? ⟨x,1,none⟩=some (.int .i64 0)
 c2:W.cell? ⟨x,2,none⟩=some (.string ⟨#[]⟩)
 c3:W.cell? ⟨x,3,none⟩=some (.slice none 0 0)
 c4:W.cell? ⟨x,4,none⟩=some (.string ⟨#[]⟩)
 fz:∀j,W.frozen? ⟨x,j,none⟩=false
theorem iY.lt {x:Nat}{W:Wj}(h:iY x W):x<W.heap.size:=bC W ⟨x,0,none⟩ h.c0
theorem DD (w:Wj)(x:Nat)(hx:w.heap.size=x)(T:TypeId):iY x (w.alloc (.cells #[.int .i64 0,.int .i64 0,.string ⟨#[]⟩,.slice none 0 0,.string ⟨#[]⟩] T)):=by
 subst hx;exact ⟨by rw [cA (w:=w) _ _ w.heap.size 0 rfl];rfl,by rw [cA (w:=w) _ _ w.heap.size 1 rfl];rfl,by rw [cA (w:=w) _ _ w.heap.size 2 rfl];rfl,by rw [cA (w:=w) _ _ w.heap.size 3 rfl];rfl,by rw [cA (w:=w) _ _ w.heap.size 4 rfl];rfl,fun j=>World.frozen?_alloc_at (w:=w) _ _ w.heap.size j rfl⟩
theorem iY.on {x:Nat}{W w1:Wj}(h:iY x W)(hb:Below W.heap.size W w1):iY x w1:=
 ⟨ai hb h.c0,ai hb h.c1,ai hb h.c2,ai hb h.c3,ai hb h.c4,fun j=>(hb.frozen (p:=⟨x,j,none⟩) h.lt).trans (h.fz j)⟩
theorem iY.grown {x:Nat}{W w1:Wj}{row:Option Nat}(h:iY x W)(hg:W.grownBy w1 row)(hne:row≠some x):iY x w1:=
 ⟨hg.cell h.c0 (fun e=>hne e.symm),hg.cell h.c1 (fun e=>hne e.symm),hg.cell h.c2 (fun e=>hne e.symm),hg.cell h.c3 (fun e=>hne e.symm),hg.cell h.c4 (fun e=>hne e.symm),fun j=>(bB hg ⟨x,j,none⟩ h.lt (fun e=>hne e.symm)).trans (h.fz j)⟩
theorem cT {B:Nat}{w w':Wj}{x:Nat}(h:Below B w w')(hx:B<=x)(a b c d e:Wx):Below B w (((((w'.setCell ⟨x,0,none⟩ a).setCell ⟨x,1,none⟩ b).setCell ⟨x,2,none⟩ c).setCell ⟨x,3,none⟩ d).setCell ⟨x,4,none⟩ e):=
 ((((h.setCell hx _).setCell hx _).setCell hx _).setCell hx _).setCell hx _
theorem Bt (B k:Nat)(sl:Wx)(R:List br)(nx tm:Int)(st:St)(key:ByteArray)(f:Int)(c:ByteArray)(d:Bool)(w:Wj)(H:ax B w k sl R nx tm)(S:Sim st R nx)(hfull:200<=st.count):
  Calls Yq.prog 81 #[.pointer (some ⟨k,0,none⟩),.string key,.agg #[.int .i64 f,.string c,.bool d]] w (bL B k st ⟨4,0,⟨#[]⟩⟩ w sl R tm):=by
 have hlen:=gE R S.full;have hlim:=S.lim;have hc:=S.count;have hkw:=H.lt;have HH:Hid (ax B w k sl R nx tm/\Sim st R nx):=⟨H,S⟩;clear H S;have ht:(200:Int)<=(totR R:Int):=by omega
 unfold bL;go_enter (Yq.nq func81),ntmps81;go_wp2_with fail
 refine (pe B k sl R nx tm _ ((HH.out.1.alloc _).alloc _) hlen (by omega)).mono ?_;rintro e w1 ⟨rfl,rfl⟩;go_wp2_with fail
 refine (eA 4 _).mono ?_;rintro e w2 ⟨rfl,b⟩;have h:Below w.heap.size w w2:=(((bR _ w).alloc (lR _) _).alloc (by simp) _).trans (b.mono (by simp;omega));have HB:Hid (Below w.heap.size w w2):=h;have RA:=(DD (w.alloc (.cells #[.int .i64 f,.string c,.bool d] 145)) (w.heap.size+1) (by simp) 36).on b;obtain ⟨d0,d1,d2,d3,d4,a⟩:=RA;have g0:=a 0;have g1:=a 1;have g2:=a 2;have g3:=a 3;have g4:=a 4;clear h b a;unfold aA;go_wp2;refine bodyPost_ret (v:=aA ⟨4,0,⟨#[]⟩⟩) (by simp [results,results81,go_sem,aA,d0,d1,d2,d3,d4]) rfl ⟨rfl,?_⟩;have hb:=cT HB.out (x:=w.heap.size+1) (by omega) (.int .i64 4) (.int .i64 0) (.string ⟨#[]⟩) (.slice none 0 0) (.string ⟨#[]⟩);exact ⟨sl,R,nx,HH.out.1.below hb,HH.out.2,ba hkw hb _ _⟩
theorem ax.notRow {B:Nat}{w:Wj}{k:Nat}{sl:Wx}{R:List br}{nx tm:Int}(H:ax B w k sl R nx tm){x:Nat}{T:TypeId}(h:∃b z,w.heap[x]?=some (.cells b T z))(h1:T≠154)(h2:T≠145):
  sl.ownBlock≠some x/\∀e∈R,e.v.ownBlock≠some x:=by
 obtain ⟨b,z,h⟩:=h;constructor
 .obtain ⟨-,⟨rfl,-⟩|⟨g,cap,a,rfl,-,hb,-⟩⟩:=H.row
  .simp [Value.ownBlock]
  .intro e;simp only [Value.ownBlock,oI] at e;subst e;rw [hb] at h;simp only [oI,Obj.cells.injEq] at h;exact h1 h.2.1.symm
 .intro x' c;obtain ⟨-,⟨hv,-⟩|⟨g,cap,a,hv,-,hb,-⟩⟩:=H.vers x' c
  .rw [hv];simp [Value.ownBlock]
  .rw [hv];intro e;simp only [Value.ownBlock,oI] at e;subst e;rw [hb] at h;simp only [oI,Obj.cells.injEq] at h;exact h2 h.2.1.symm
theorem ax.old {B:Nat}{w:Wj}{k:Nat}{sl:Wx}{R:List br}{nx tm:Int}(H:ax B w k sl R nx tm){x:Nat}(h:w.heap.size<=x):x≠k/\sl.ownBlock≠some x/\∀e∈R,e.v.ownBlock≠some x:=
 ⟨by have:=H.lt;omega,fun e=>by have:=(H.row.lt x e).2;omega,fun e he h2=>by have:=((H.vers e he).lt x h2).2;omega⟩
theorem bg.after {w w1 w2:Wj}{k:Nat}{sl:Wx}{R:List br}(hb:Below w.heap.size w w1)(hk:k<w.heap.size)(hf:bg w1 w2 k sl R):bg w w2 k sl R:=
 ⟨hf.os.trans hb.os,hf.tape.trans hb.tape,hf.output.trans hb.output,lT hb.size hf.size,fun b h1 h2 h3 h4=>(hf.block b (lL h1 hb.size) h2 h3 h4).trans (hb.block b h1),
  fun j a=>(hf.cells j a).trans (cB (hb.block k hk)),fun j=>(hf.frozen j).trans (fB (hb.block k hk))⟩
theorem iY.frame {x:Nat}{W w1:Wj}{k:Nat}{sl:Wx}{R:List br}(h:iY x W)(hf:bg W w1 k sl R)(hx:x≠k/\sl.ownBlock≠some x/\∀e∈R,e.v.ownBlock≠some x):iY x w1:=by
 have hb:=hf.block x h.lt hx.1 hx.2.1 hx.2.2;exact ⟨(cB hb).trans h.c0,(cB hb).trans h.c1,(cB hb).trans h.c2,(cB hb).trans h.c3,(cB hb).trans h.c4,fun j=>(fB (a:=⟨x,j,none⟩) hb).trans (h.fz j)⟩
theorem El {B k x:Nat}{w w1 w2:Wj}{sl sl':Wx}{R R':List br}{nx f tm:Int}(H:ax B w k sl R nx tm)(hb:Below w.heap.size w w1)(hx:w.heap.size<=x)(hx1:x<w1.heap.size)(j:∃h z,w1.heap[x]?=some (.cells h 36 z))(H':ax B w2 k sl' R' f tm)(F:bg w1 w2 k sl R)(a b c d e:Wx):
  ax B (((((w2.setCell ⟨x,0,none⟩ a).setCell ⟨x,1,none⟩ b).setCell ⟨x,2,none⟩ c).setCell ⟨x,3,none⟩ d).setCell ⟨x,4,none⟩ e) k sl' R' f tm /\
  bg w (((((w2.setCell ⟨x,0,none⟩ a).setCell ⟨x,1,none⟩ b).setCell ⟨x,2,none⟩ c).setCell ⟨x,3,none⟩ d).setCell ⟨x,4,none⟩ e) k sl R:=by
 obtain ⟨o1,l,o3⟩:=H.old hx;have i:w2.heap[x]?=w1.heap[x]?:=F.block x hx1 o1 l o3;have hn:=H'.notRow (x:=x) (T:=36) (by rw [i];exact j) (by decide) (by decide);have hg:=iR w2 x a b c d e;refine ⟨H'.grown hg (by simpa using o1) (Or.inr hn.1) (fun y hy=>Or.inr (hn.2 y hy)),(bg.after hb H.lt F).step hg (fun b' h1 h2=>?_) H'.lt (by simpa using o1)⟩;simp only [oI] at h2;omega
def Mid (B k:Nat)(tm:Int)(st:St)(key d:ByteArray)(f:Bool)(w:Wj)(sl:Wx)(R:List br)(a:Wj)(i:Nat):Prop:=
 ∃c R1,∃hi:i<R1.length,ax B a k c R1 (st.last+1+1) tm/\(∀j (hj:j<R1.length),j≠i->R1[j].h≠[])/\R1.length<=1000/\R1[i].h.length<=1000/\iY (w.heap.size+1) a /\
  aQ a w.heap.size (.int .i64 (st.last+1)) (.string d) (.bool f)/\bg w a k sl R/\w.heap.size+2<=a.heap.size /\
  (∀v',Sim (cw st key d f) (R1.set i ⟨R1[i].key,R1[i].h++[⟨st.last+1,d,f⟩],v'⟩) (st.last+1+1)) /\
  (∀b,b<w.heap.size+2->c.ownBlock=some b->b<w.heap.size/\sl.ownBlock=some b)/\(∀e∈R1,∀b,e.v.ownBlock=some b->b<w.heap.size/\∃e'∈R,e'.v.ownBlock=some b)
theorem pj {w w1:Wj}{k:Nat}{sl:Wx}{R:List br}(h:bg w w1 k sl R)(v:Wx)(_hk:k<w1.heap.size):bg w (w1.setCell ⟨k,0,none⟩ v) k sl R:=
 ⟨h.os,h.tape,h.output,by simpa [World.setCell] using h.size,fun b h1 h2 h3 h4=>(bS _ _ _ _ h2).trans (h.block b h1 h2 h3 h4),
  fun j a=>(cO w1 ⟨k,0,none⟩ ⟨k,j,none⟩ v (fun e=>by have:=congrArg Addr.off e;simp only at this;omega)).trans (h.cells j a),fun j=>(by simp:(w1.setCell ⟨k,0,none⟩ v).frozen? ⟨k,j,none⟩=w1.frozen? ⟨k,j,none⟩).trans (h.frozen j)⟩
theorem sX (R:List br)(i:Nat)(a:i<R.length):R[i].h.length<=totR R:=by
 have h1:=gi R i;have h2:=gi R (i+1);have h3:=sU R i a;omega
theorem DE {B k:Nat}{tm nx:Int}{st:St}{key a:ByteArray}{d:Bool}{w:Wj}{sl:Wx}{R:List br}{W0:Wj}(H:ax B w k sl R nx tm)(S:Sim st R nx)(hc:¬200<=st.count){i:Nat}(c:i<R.length)(hk:R[i].key=key)
  (X:ax B W0 k sl R (st.last+1+1) tm/\iY (w.heap.size+1) W0/\aQ W0 w.heap.size (.int .i64 (st.last+1)) (.string a) (.bool d)/\bg w W0 k sl R/\W0.heap.size=w.heap.size+2):Mid B k tm st key a d w sl R W0 i:=by
 have h1:=gE R S.full;have h2:=S.lim;have h3:=sX R i c;refine ⟨sl,R,c,X.1,fun j f _=>S.full _ (List.getElem_mem f),by omega,by omega,X.2.1,X.2.2.1,X.2.2.2.1,by omega,fun v'=>S.addFound c hk a d v' hc,fun b _ hb=>⟨(H.row.lt b hb).2,hb⟩,fun e he b hb=>⟨((H.vers e he).lt b hb).2,e,he,hb⟩⟩
theorem GI {B k:Nat}{tm nx:Int}{st:St}{key p:ByteArray}{q:Bool}{w:Wj}{sl:Wx}{R:List br}{W0:Wj}(H:ax B w k sl R nx tm)(S:Sim st R nx)(hc:¬200<=st.count)(hno:∀x∈R,x.key≠key)
  (X:ax B W0 k sl R (st.last+1+1) tm/\iY (w.heap.size+1) W0/\aQ W0 w.heap.size (.int .i64 (st.last+1)) (.string p) (.bool q)/\bg w W0 k sl R/\W0.heap.size=w.heap.size+2) (o:Obj) {w3:Wj} {g cap:Nat}
  (ho:w3.ownsRow B 154 2 (.slice (some ⟨g,0,none⟩) (R.length+1) cap) (R.length+1) (az R++[.string key,.slice none 0 0])) (c:(W0.alloc o).grownBy w3 sl.ownBlock) (hgg:sl.ownBlock=some g\/g=W0.heap.size+1):
  Mid B k tm st key p q w sl R (w3.setCell ⟨k,0,none⟩ (.slice (some ⟨g,0,none⟩) (R.length+1) cap)) R.length:=by
 obtain ⟨X1,X2,X3,X4,X5⟩:=X;have h1:=gE R S.full;have h2:=S.lim;have hk:=H.lt;have hkW:=X1.lt;have r:az (R++[⟨key,[],.slice none 0 0⟩])=az R++[.string key,.slice none 0 0]:=by unfold az;rw [List.flatMap_append];rfl
 have hlen:(R++[⟨key,[],.slice none 0 0⟩]:List br).length=R.length+1:=by simp
 have d:∀ (h:R.length<(R++[⟨key,[],.slice none 0 0⟩]:List br).length),(R++[⟨key,[],.slice none 0 0⟩]:List br)[R.length]=⟨key,[],.slice none 0 0⟩:=fun h=>by simp
 have f:∀b,sl.ownBlock=some b->b<w.heap.size:=fun b hb=>(H.row.lt b hb).2
 have n:sl.ownBlock≠some k:=H.apart;have hA:=X1.alloc o;have hpw:(R++[⟨key,[],.slice none 0 0⟩]:List br).Pairwise (fun a b=>a.v.ownBlock≠b.v.ownBlock):=by
  rw [List.pairwise_append];refine ⟨X1.pw,List.pairwise_singleton _ _,fun a ha b hb=>?_⟩;simp only [List.mem_cons,List.not_mem_nil,or_false] at hb;subst hb;exact qy (X1.vers a ha) (List.length_pos_iff.2 (S.full a ha))
 have s:sl.ownBlock=some g\/(W0.alloc o).heap.size<=g:=by
  rcases hgg with h|h
  .exact Or.inl h
  .exact Or.inr (by simp;omega)
 have hput:=hA.put0 (g:=g) (sl':=.slice (some ⟨g,0,none⟩) (R.length+1) cap) (R':=R++[⟨key,[],.slice none 0 0⟩]) c (by rw [hlen,r];exact ho) rfl s
  (fun e he=>by
   rcases List.mem_append.1 he with h|h
   .exact Or.inl h
   .simp only [List.mem_cons,List.not_mem_nil,or_false] at h;subst h;exact Or.inr ⟨rfl,rfl⟩) hpw
 have hs0:=cR w3 k 0 (.slice (some ⟨g,0,none⟩) (R.length+1) cap);have i:Below W0.heap.size W0 (W0.alloc o):=(bR _ _).alloc (lR _) _;have l:sl.ownBlock≠some (w.heap.size+1):=fun e=>by have:=f _ e;omega
 have m:sl.ownBlock≠some w.heap.size:=fun e=>by have:=f _ e;omega
 have hsz3:=c.size;have hsza:(W0.alloc o).heap.size=W0.heap.size+1:=by simp
 have hszs:(w3.setCell ⟨k,0,none⟩ (.slice (some ⟨g,0,none⟩) (R.length+1) cap)).heap.size=w3.heap.size:=by simp [World.setCell]
 refine ⟨_,_,by rw [hlen];omega,hput,?_,by rw [hlen];omega,by rw [d];simp,?_,?_,?_,by omega,?_,?_,?_⟩
 .intro j t hji;rw [hlen] at t;rw [List.getElem_append_left (by omega)];exact S.full _ (List.getElem_mem _)
 .exact ((X2.on i).grown c l).grown hs0 (by simp;omega)
 .exact ((X3.on i).grown c m).grown hs0 (by simp;omega)
 .refine pj (((X4.below i hkW).step c (fun b _ h=>Or.inl h) (by omega) n)) _ (by omega)
 .intro v';rw [d,List.set_append_right _ _ (lR _),Nat.sub_self];exact S.addNew hno p q v' hc
 .intro b hb he;simp only [Value.ownBlock,oI] at he;rcases hgg with h|h
  .exact ⟨f b (by rw [h,he]),by rw [h,he]⟩
  .omega
 .intro e he b hb;rcases List.mem_append.1 he with h|h
  .exact ⟨((H.vers e h).lt b hb).2,e,h,hb⟩
  .simp only [List.mem_cons,List.not_mem_nil,or_false] at h;subst h;simp [Value.ownBlock] at hb
def Put (B k:Nat)(tm:Int)(c:St)(b:Int)(ver:Int)(d:ByteArray)(f:Bool)(w:Wj)(sl:Wx)(R:List br)(a:Wj):Prop:=
 ∃sl' R',ax B a k sl' R' b tm/\Sim c R' b/\bg w a k sl R/\iY (w.heap.size+1) a/\aQ a w.heap.size (.int .i64 ver) (.string d) (.bool f)/\w.heap.size+2<=a.heap.size/\sl'.ownBlock≠some (w.heap.size+1)/\(∀e∈R',e.v.ownBlock≠some (w.heap.size+1))
theorem GJ {B k:Nat}{tm:Int}{st:St}{key m:ByteArray}{n:Bool}{w:Wj}{sl:Wx}{R R1:List br}{wc w3:Wj}{ge l g cap i:Nat}{q:Option Addr}{r:Nat}(s:i<R1.length)
  (Y:ax B wc k (.slice (some ⟨ge,0,none⟩) R1.length l) R1 (st.last+1+1) tm/\iY (w.heap.size+1) wc/\aQ wc w.heap.size (.int .i64 (st.last+1)) (.string m) (.bool n)/\bg w wc k sl R/\R1[i].v=.slice q R1[i].h.length r)
  (Z:(∀j (t:j<R1.length),j≠i->R1[j].h≠[])/\(∀v',Sim (cw st key m n) (R1.set i ⟨R1[i].key,R1[i].h++[⟨st.last+1,m,n⟩],v'⟩) (st.last+1+1))/\(∀b,b<w.heap.size+2->(Value.slice (some ⟨ge,0,none⟩) R1.length l).ownBlock=some b->b<w.heap.size/\sl.ownBlock=some b)/\(∀e∈R1,∀b,e.v.ownBlock=some b->b<w.heap.size/\∃e'∈R,e'.v.ownBlock=some b)/\w.heap.size+2<=wc.heap.size) (o:Obj)
  (ho:w3.ownsRow B 145 3 (.slice (some ⟨g,0,none⟩) (R1[i].h.length+1) cap) (R1[i].h.length+1) (am R1[i].h++[.int .i64 (st.last+1),.string m,.bool n])) (a:(wc.alloc o).grownBy w3 (Value.slice q R1[i].h.length r).ownBlock) (c:(Value.slice q R1[i].h.length r).ownBlock=some g\/g=wc.heap.size+1):
  Put B k tm (cw st key m n) (st.last+1+1) (st.last+1) m n w sl R (w3.setCell ⟨ge,i * 2+1,none⟩ (.slice (some ⟨g,0,none⟩) (R1[i].h.length+1) cap)):=by
 obtain ⟨Y1,Y2,Y3,Y4,Y5⟩:=Y;obtain ⟨Z1,Z2,Z3,Z4,Z5⟩:=Z;rw [<-Y5] at a c;have hmem:R1[i]∈R1:=List.getElem_mem s;have hkc:=Y1.lt;have hA:=Y1.alloc o;have p:Below wc.heap.size wc (wc.alloc o):=(bR _ _).alloc (lR _) _;have hsza:(wc.alloc o).heap.size=wc.heap.size+1:=by simp
 have f:∀b,w.heap.size<=b->R1[i].v.ownBlock≠some b:=fun b hb e=>by have:=(Z4 _ hmem b e).1;omega
 have d:∀b,w.heap.size<=b->b<w.heap.size+2->ge≠b:=fun b h1 h2 e=>by have:=(Z3 b h2 (by rw [<-e];rfl)).1;omega
 have hsz3:=a.size;have hszs:(w3.setCell ⟨ge,i * 2+1,none⟩ (.slice (some ⟨g,0,none⟩) (R1[i].h.length+1) cap)).heap.size=w3.heap.size:=by simp [World.setCell]
 have hs0:=cR w3 ge (i * 2+1) (.slice (some ⟨g,0,none⟩) (R1[i].h.length+1) cap);have hput:=hA.putV (v':=.slice (some ⟨g,0,none⟩) (R1[i].h.length+1) cap) (h':=R1[i].h++[⟨st.last+1,m,n⟩]) s a (Or.inr rfl) (by rw [jP];simpa using ho)
  (c.elim (fun h=>Or.inr (Or.inl h.symm)) fun h=>Or.inr (Or.inr ⟨g,rfl,by omega⟩)) Z1
 have hgk:ge≠k:=fun e=>Y1.apart (by rw [<-e];rfl)
 refine ⟨_,_,hput,Z2 _,?_,((Y2.on p).grown a (f _ (by omega))).grown hs0 (by simpa using d _ (by omega) (by omega)),((Y3.on p).grown a (f _ (by omega))).grown hs0 (by simpa using d _ (by omega) (by omega)),by omega,by simpa [Value.ownBlock] using d _ (by omega) (by omega),?_⟩
 .refine ((Y4.below p hkc).step a (fun b hb e=>Or.inr (Z4 _ hmem b e).2) (by omega) (Y1.apartV _ hmem)).step hs0 (fun b hb e=>Or.inl ?_) (by omega) (by simpa using hgk);exact (Z3 b (by omega) e).2
 .intro e he;rcases kY he with rfl|⟨j,t,-,rfl⟩
  .intro hb;simp only [Value.ownBlock,oI] at hb;rcases c with h|h
   .exact f (w.heap.size+1) (by omega) (by rw [h,hb])
   .omega
  .intro hb;have:=(Z4 _ (List.getElem_mem t) _ hb).1;omega
end
