/- A part. -/
import Derived.Test.YtnapepbdohidgaaGreatDoorQL15
import Derived.Lib.AppendStr
import Derived.OwnWalkIn
import Derived.Shelf.SlSortCmp.WholeK
import Derived.Sort.Walk0
import Derived.Deep.QuietTactic
import Derived.BigQuiet
set_option maxHeartbeats 4000000
set_option maxRecDepth 100000
open Go renaming World->Wj,Value->Wx,TypeId->Ww
namespace Go.Proofs.Qw
section
open Go.RowKit
theorem nR (ops:List OpD)(i j:Nat)(b:i<ops.length)(a:j<7):(ops.flatMap bK)[i * 7+j]?=(bK ops[i])[j]?:=cu 7 bK (fun _=>rfl) ops i j b a
theorem Yq.infoOp:(Yq.prog.info? 31).map (fun i=>(i.zero,i.size,i.bytes))=some (some (.agg #[.int .i64 0,.string ⟨#[]⟩,.string ⟨#[]⟩,.string ⟨#[]⟩,.string ⟨#[]⟩,.int .i64 0,.int .i64 0]),7,88):=by kernel_rfl
theorem uI {w:Wj}{a:Nat}{v:Wx}{n:Nat}{ops:List OpD}(h:w.ownsRow a 31 7 v n (ops.flatMap bK))(hn:n=ops.length)(hz:Sized ops)(hl:ops.length<=2199023255552):gB w v ops:=by
 subst hn;rcases h.2 with ⟨rfl,h0⟩|⟨g,cap,cur,rfl,hbg,hg,hnc,hcm,hcs,htake⟩
 .have:ops=[]:=List.length_eq_zero_iff.1 h0;subst this;exact ⟨⟨none,0,rfl,fun h=>absurd rfl h⟩,hz,hl⟩
 .refine ⟨⟨_,cap,rfl,fun _=>⟨g,0,rfl,fun i c=>?_⟩⟩,hz,hl⟩;have hc:∀j,j<7->w.cell? ⟨g,0+i * 7+j,none⟩=(bK ops[i])[j]?:=fun j b=>by
   rw [zA,<-nR ops i j c b];exact h.cellAt _ (by omega)
  exact ⟨hc 0 (by omega),hc 1 (by omega),hc 2 (by omega),hc 3 (by omega),hc 4 (by omega),hc 5 (by omega),hc 6 (by omega)⟩
theorem ym (w:Wj)(o:OpD)(T:Ww):∀j u,(bK o)[j]?=some u->(w.alloc (.cells #[.int .i64 o.kind,.string o.key,.string o.body,.string o.delim,.string o.past,.int .i64 o.n,.int .i64 o.src] T)).cell? ((⟨w.heap.size,0,none⟩:Addr).add j)=some u:=by
 intro j u a;rw [Addr.add_lit,cA (w:=w) _ _ w.heap.size _ rfl];simpa [bK] using a
theorem one7 (o:OpD):∀u∈bK o,u.oneCell'=true:=by
 intro u a;simp [bK] at a;rcases a with rfl|rfl|rfl|rfl|rfl|rfl|rfl<;>rfl
section
variable {P:Program}
end
def AQ (s:ByteArray):List Wx:=[.int .u8 ((s.size:Int) % 256)]++Lib.strCells s
theorem sx (s:ByteArray):(AQ s).length=1+s.size:=by simp [AQ,Lib.strCells_length];omega
def num8 (m:Int)(k:Nat):List Wx:=(List.range k).map fun i=>.int .u8 (m / 2 ^ (8 * (7-i)) % 256)
theorem qt (m:Int)(k:Nat):(num8 m k).length=k:=by simp [num8]
def G5 (k:ByteArray)(v:Ver):List Wx:=if v.mark then [.int .u8 2]++num8 v.num 8++AQ k else [.int .u8 1]++num8 v.num 8++AQ k++AQ v.body
def GC (k:ByteArray)(v:Ver):Nat:=if v.mark then 10+k.size else 11+k.size+v.body.size
def Hi (x y:Int):Int:=if x<y then -1 else if y<x then 1 else 0
def FG (L:List (ByteArray×Ver)):List Wx:=L.flatMap fun e=>G5 e.1 e.2
def AR (L:List (ByteArray×Ver)):Nat:=(L.map fun e=>GC e.1 e.2).sum
end
section
open Go.Conc Go.ConcX Go.ConcX.Gen Go.RowKit
def Dv (l:KVs):List (ByteArray×Ver):=l.flatMap fun x=>x.2.map fun v=>(⟨x.1.toArray⟩,v)
section
variable {t:Nat} {w3 X Y:Wj} {E:List (ByteArray×Ver)}
end
section
attribute [local go_sem] Oper.semAt_some jU
end
end
end Go.Proofs.Qw
namespace Go.Proofs
section
open Go.Shelf Go.RowKit Go.Lib Go.Sort
end
end Go.Proofs
namespace Go.Proofs.Qw
section
open Go.Shelf Go.RowKit Go.Sort
@[reducible] def GD:Inhabited (ByteArray×Ver):=⟨(⟨#[]⟩,⟨0,⟨#[]⟩,false⟩)⟩
def cfE (x y:ByteArray×Ver):Int:=Hi x.2.num y.2.num
def qu (E:List (ByteArray×Ver)):List (ByteArray×Ver):=(@Sort.pdq _ GD (ltOf cfE) E.toArray 0 E.length (Lib.bitLen E.length) true true).toList
theorem ltE (x y:ByteArray×Ver):ltOf cfE x y=decide (x.2.num<y.2.num):=by
 unfold ltOf cfE Hi;by_cases h1:x.2.num<y.2.num
 .simp [h1]
 .by_cases h2:y.2.num<x.2.num<;>simp [h1,h2]
theorem Hr:SWO (ltOf cfE) where
 irrefl x:=by rw [ltE];simp
 trans x y z h1 h2:=by rw [ltE] at *;simp at *;omega
 ntrans x y z h1 h2:=by rw [ltE] at *;simp at *;omega
theorem uJ (E:List (ByteArray×Ver)):@PermIn _ GD 0 E.length E.toArray (qu E).toArray/\@SortedIn _ GD (ltOf cfE) 0 E.length (qu E).toArray:=by
 letI:=GD
 have h:=pdq_sorts (ltOf cfE) Hr E.toArray 0 E.length (Lib.bitLen E.length) true true (Nat.zero_le _) (by simp) (Or.inl rfl);unfold qu;rw [Array.toArray_toList];exact h
theorem oY (E:List (ByteArray×Ver)):(qu E).Perm E:=by
 letI:=GD
 have h:=(uJ E).1;have h1:(qu E).length=E.length:=by simpa using h.1
 have h2:=h.2.2;rw [List.extract_toArray,List.extract_toArray] at h2;have h3:List.take E.length (qu E)=qu E:=tO (by omega);simpa [List.extract,h3] using h2
theorem AS (E:List (ByteArray×Ver)):(qu E).length=E.length:=(oY E).length_eq
end
section
open Go.Conc Go.ConcX Go.ConcX.Gen Go.RowKit
theorem AT (l:KVs):(Dv l).length=fI l:=by
 simp [Dv,fI,List.length_flatMap]
section
attribute [local go_sem] Oper.semAt_some jU
end
def bytesOf (xs:List Wx):ByteArray:=⟨(xs.map fun v=>UInt8.ofNat (intOf v).toNat).toArray⟩
def sB (st:St):List (ByteArray×Ver):=qu (Dv (cD st.f []))
def AU (st:St)(tm:Int):ByteArray:=bytesOf (FG (sB st)++([.int .u8 3]++num8 (st.last+1) 8++([.int .u8 4]++num8 tm 8)))
theorem sC (n:Nat):∀ (f:List UInt8->List Ver)(bs:List UInt8),∀x∈cI n f bs,∃k,x.1=bs++k/\x.2=f k:=by
 induction n with
 |zero=>intro f bs x hx;simp [cI] at hx
 |succ n ih=>
  intro f bs x hx;simp only [cI,List.mem_append,List.mem_flatMap] at hx;rcases hx with hx|⟨b,-,hx⟩
  .split at hx
   .simp at hx
   .simp only [List.mem_singleton] at hx;subst hx;exact ⟨[],by simp,rfl⟩
  .obtain ⟨k,h1,h2⟩:=ih _ _ x hx;exact ⟨b::k,by rw [h1];simp,h2⟩
theorem oZ {st:St}{e:ByteArray×Ver}(h:e∈sB st):e.1.size<=40/\∃k,e.2∈st.f k:=by
 have h1:=(oY _).mem_iff.1 h;simp only [Dv,List.mem_flatMap,List.mem_map] at h1;obtain ⟨x,hx,v,hv,rfl⟩:=h1;obtain ⟨k,-,hk⟩:=sC _ _ _ x hx;have:=(se hx).2;exact ⟨by simpa [ByteArray.size] using this,k,by simpa [hk] using hv⟩
theorem AV {E:List (ByteArray×Ver)}(h:∀e∈E,e.1.size<=40/\e.2.body.size<=100):AR E<=E.length * 200:=by
 induction E with
 |nil=>simp [AR]
 |cons e E ih=>
  have h1:=ih fun x hx=>h x (by simp [hx])
  have h2:=h e (by simp);have h3:GC e.1 e.2<=200:=by unfold GC;split<;>omega
  simp only [AR,List.map_cons,List.sum_cons,lC] at h1 ⊢;omega
section
variable {A:Nat->Prop} {B k0:Nat} {w:Wj} {st:St} {L:Lg}
end
def tkB (s:ByteArray)(n:Nat):ByteArray:=s.extract 0 (min n s.size)
def rsB (s:ByteArray)(n:Nat):ByteArray:=s.extract (min n s.size) s.size
def Hj (l:List UInt8):Nat:=l.foldl (fun a b=>a * 256+b.toNat) 0
def txL (s:ByteArray):Nat:=Hj (tkB s 1).data.toList
def yn (a:Int)(m:Nat):Option Int:=if (m:Int)<=a\/9223372036854775808<m then none else some (m-1)
theorem FH (n:Nat)(f:List UInt8->List Ver)(k:List UInt8)(h:k.length<n):(f k).length<=tot n f:=by
 have h1:=uw k n f;obtain ⟨m,hm⟩:∃m,n-k.length=m+1:=⟨n-k.length-1,by omega⟩;rw [hm] at h1;refine lT ?_ h1;simp only [tot,cI,List.append_nil];by_cases h0:f k=[]
 .simp [h0]
 .have e:(f k).isEmpty=false:=by simpa using h0
  simp [e,fI]
theorem Inv.norm {st:St}{s:Nat}(h:Inv st s)(a:gb st):Inv st 0:=by
 have h1:=a.cnt;have h2:=a.le;refine ⟨h.last0,h.lastS,by omega,by omega,fun k=>?_,h.sorted,h.bounds⟩;by_cases hk:40<k.length
 .rw [a.long k hk];simp
 .have:=FH 41 st.f k (by omega);omega
def lastSt (st:St)(l:Int):St:=⟨st.f,st.count,l⟩
theorem Inv.lastSt {st:St}{s:Nat}(h:Inv st s){l:Int}(h1:st.last<=l)(h2:l<=9223372036854775807):Inv (lastSt st l) s:=
 ⟨Int.le_trans h.last0 h1,h2,h.countL,h.countU,h.len,h.sorted,fun k i a=>⟨(h.bounds k i a).1,Int.le_trans (h.bounds k i a).2 h1⟩⟩
theorem gb.lastSt {st:St}(h:gb st)(l:Int):gb (lastSt st l):=⟨h.cnt,h.le,h.long,h.body⟩
theorem wl {a:Int}{m:Nat}{l:Int}(h:yn a m=some l):a<=l/\l<=9223372036854775807:=by
 unfold yn at h;split at h
 .cases h
 .cases h;omega
theorem Dw {st:St}{s:Nat}(h:Inv st s)(a:gb st)(key body:ByteArray):Inv (mN st key body).1 (s+1)/\gb (mN st key body).1:=by
 have e:=kO st ⟨1,key,body,⟨#[]⟩,⟨#[]⟩,0,0⟩ rfl;have h1:=h.step ⟨1,key,body,⟨#[]⟩,⟨#[]⟩,0,0⟩;have h2:=a.step ⟨1,key,body,⟨#[]⟩,⟨#[]⟩,0,0⟩;rw [e] at h1 h2;exact ⟨h1,h2⟩
theorem AW {st:St}{s:Nat}(h:Inv st s)(a:gb st)(key:ByteArray):Inv (fj st key).1 (s+1)/\gb (fj st key).1:=by
 have e:=jq st ⟨4,key,⟨#[]⟩,⟨#[]⟩,⟨#[]⟩,0,0⟩ rfl;have h1:=h.step ⟨4,key,⟨#[]⟩,⟨#[]⟩,⟨#[]⟩,0,0⟩;have h2:=a.step ⟨4,key,⟨#[]⟩,⟨#[]⟩,⟨#[]⟩,0,0⟩;rw [e] at h1 h2;exact ⟨h1,h2⟩
def nm8 (s:ByteArray):Nat:=Hj (tkB s 8).data.toList
def txB (s:ByteArray):ByteArray:=tkB (rsB s 1) (txL s)
def txR (s:ByteArray):ByteArray:=rsB (rsB s 1) (txL s)
def FI (st:St)(tm:Int)(s:ByteArray):Option (St×Int×ByteArray):=
 if txL s=1 then
  match yn st.last (nm8 (rsB s 1)) with
  |none=>none
  |some l=>if (mN (lastSt st l) (txB (rsB (rsB s 1) 8)) (txB (txR (rsB (rsB s 1) 8)))).2.2=0 then some ((mN (lastSt st l) (txB (rsB (rsB s 1) 8)) (txB (txR (rsB (rsB s 1) 8)))).1,tm,txR (txR (rsB (rsB s 1) 8))) else none
 else if txL s=2 then
  match yn st.last (nm8 (rsB s 1)) with
  |none=>none
  |some l=>if (fj (lastSt st l) (txB (rsB (rsB s 1) 8))).2.2=0 then some ((fj (lastSt st l) (txB (rsB (rsB s 1) 8))).1,tm,txR (rsB (rsB s 1) 8)) else none
 else if txL s=3 then
  match yn st.last (nm8 (rsB s 1)) with
  |none=>none
  |some l=>some (lastSt st l,tm,rsB (rsB s 1) 8)
 else if txL s=4 then some (st,nm8 (rsB s 1),rsB (rsB s 1) 8)
 else none
def yo:Nat->St->Int->ByteArray->Option (St×Int)
 | 0,_,_,_=>none
 |n+1,st,tm,s=>if s.size=0 then some (st,tm) else match FI st tm s with
  |none=>none
  |some x=>yo n x.1 x.2.1 x.2.2
def AX (a:ByteArray):Option (St×Int):=match yo (a.size+1) st0 0 a with
 |none=>none
 |some x=>if AU x.1 x.2=a then some x else none
theorem kU {t:ByteArray}(h:t≠⟨#[]⟩):t.toList.isEmpty=false:=by
 rw [ByteArray.toList_eq];cases e:t.data.toList with
 |nil=>exact absurd (ByteArray.ext (Array.toList_inj.1 (e.trans rfl))) h
 |cons a r=>rfl
def o6 (ks:List Int)(bs:List ByteArray)(a:Int)(body:ByteArray):ByteArray:=
 if 0<=a/\a<bs.length then (if ks[a.toNat]?.getD 0=11 then bs[a.toNat]?.getD ⟨#[]⟩ else body) else body
def uK (st:St)(L:Lg)(b:ByteArray):St×Lg×jX:=match AX b with
 |none=>(st,L,⟨12,0,⟨#[]⟩,[],⟨#[]⟩⟩)
 |some x=>(x.1,{L with opened:=[],tm:=x.2},⟨0,0,⟨#[]⟩,[],⟨#[]⟩⟩)
theorem AY {st:St}{tm:Int}{s:ByteArray}{x:St×Int×ByteArray}(a:Inv st 0)(b:gb st)(h:FI st tm s=some x):Inv x.1 0/\gb x.1:=by
 have hl:∀l,yn st.last (nm8 (rsB s 1))=some l->Inv (lastSt st l) 0/\gb (lastSt st l):=fun l e=>⟨a.lastSt (wl e).1 (wl e).2,b.lastSt l⟩
 unfold FI at h;split at h
 .split at h
  .exact absurd h (by simp)
  .rename_i l e;split at h
   .rw [<-oJ h];dsimp only;have:=Dw (hl l e).1 (hl l e).2 (txB (rsB (rsB s 1) 8)) (txB (txR (rsB (rsB s 1) 8)));exact ⟨this.1.norm this.2,this.2⟩
   .exact absurd h (by simp)
 .split at h
  .split at h
   .exact absurd h (by simp)
   .rename_i l e;split at h
    .rw [<-oJ h];dsimp only;have:=AW (hl l e).1 (hl l e).2 (txB (rsB (rsB s 1) 8));exact ⟨this.1.norm this.2,this.2⟩
    .exact absurd h (by simp)
  .split at h
   .split at h
    .exact absurd h (by simp)
    .rename_i l e;rw [<-oJ h];dsimp only;exact hl l e
   .split at h
    .rw [<-oJ h];dsimp only;exact ⟨a,b⟩
    .exact absurd h (by simp)
theorem sD:∀ (n:Nat)(st:St)(tm:Int)(s:ByteArray)(x:St×Int),Inv st 0->gb st->yo n st tm s=some x->Inv x.1 0/\gb x.1
 | 0,_,_,_,_,_,_,h=>by simp [yo] at h
 |n+1,st,tm,s,x,hI,hT,h=>by
  unfold yo at h;split at h
  .cases h;exact ⟨hI,hT⟩
  .split at h
   .exact absurd h (by simp)
   .rename_i y e;have:=AY hI hT e;exact sD n _ _ _ x this.1 this.2 h
theorem yp {b:ByteArray}{x:St×Int}(h:AX b=some x):yo (b.size+1) st0 0 b=some x/\AU x.1 x.2=b:=by
 unfold AX at h;split at h
 .exact absurd h (by simp)
 .rename_i y e;split at h
  .rename_i hs;cases h;exact ⟨e,hs⟩
  .exact absurd h (by simp)
theorem AZ {b:ByteArray}{x:St×Int}(h:AX b=some x):Inv x.1 0/\gb x.1:=
 sD _ _ _ _ x inv0 Gw (yp h).1
theorem sE (xs:List Wx):(bytesOf xs).size=xs.length:=by simp [bytesOf,ByteArray.size]
theorem Dx (k:ByteArray)(v:Ver):(G5 k v).length=GC k v:=by
 unfold G5 GC;split
 .simp only [lP,lS,qt,sx];omega
 .simp only [lP,lS,qt,sx];omega
theorem A0 (E:List (ByteArray×Ver)):(FG E).length=AR E:=by
 induction E with
 |nil=>rfl
 |cons e E ih=>
  simp only [FG,AR,List.flatMap_cons,lP,List.map_cons,List.sum_cons] at ih ⊢;rw [ih,Dx]
theorem yq {st:St}(a:gb st):(sB st).length<=200:=by
 have h3:fI (cD st.f [])=tot 41 st.f:=rfl;have:=a.cnt;have:=a.le;rw [sB,AS,AT];omega
theorem yr {st:St}(a:gb st)(tm:Int):(AU st tm).size<=maxLen:=by
 have hn:=AV (E:=sB st) fun e he=>⟨(oZ he).1,by obtain ⟨k,hk⟩:=(oZ he).2;exact a.body k _ hk⟩
 have hl:=yq a;rw [AU,sE];simp only [lP,lS,qt,A0,maxLen];omega
structure Hk (w:Wj)(k0 g0 s:Nat)(ks:List Int)(bs:List ByteArray):Prop where
 kl:ks.length=s
 bl:bs.length=s
 small:∀b∈bs,b.size<=maxLen
 script:∃sb so sn sc,w.cell? ⟨k0,7,none⟩=some (.slice (some ⟨sb,so,none⟩) sn sc)/\s<=sn/\∀i (hi:i<ks.length),w.cell? ⟨sb,so+i * 7,none⟩=some (.int .i64 ks[i])
 bodies:∀i (hi:i<bs.length),w.cell? ⟨g0,i * 5+2,none⟩=some (.string bs[i])
section
variable {A:Nat->Prop} {B k0:Nat} {w:Wj} {st:St} {L:Lg}
end
def Dy (R:Lg×List ItD×ByteArray×Int):jX:=⟨R.2.2.2,0,⟨#[]⟩,R.2.1,R.2.2.1⟩
def stepA (st:St)(L:Lg)(a:List ByteArray)(o:OpD):St×Lg×jX:=
 if o.kind=6 then (st,(ez L st.f ⟨false,o.key,o.delim,o.past⟩ o.n).1,Dy (ez L st.f ⟨false,o.key,o.delim,o.past⟩ o.n))
 else if o.kind=7 then (st,(ez L st.f ⟨true,o.key,o.delim,o.past⟩ o.n).1,Dy (ez L st.f ⟨true,o.key,o.delim,o.past⟩ o.n))
 else if o.kind=8 then (st,(Dn L (Ee a o.src o.body)).1,Dy (Dn L (Ee a o.src o.body)))
 else if o.kind=9 then (st,(Dq L o.n).1,⟨(Dq L o.n).2,0,⟨#[]⟩,[],⟨#[]⟩⟩)
 else if o.kind=10 then (st,L,⟨0,st.count,⟨#[]⟩,L.opened.map GB,⟨#[]⟩⟩)
 else if o.kind=11 then (st,L,⟨0,0,AU st L.tm,[],⟨#[]⟩⟩)
 else ((ay st o).1,L,⟨(ay st o).2.code,(ay st o).2.ver,(ay st o).2.body,[],⟨#[]⟩⟩)
def uL (st:St)(L:Lg)(a:List ByteArray)(b:ByteArray)(o:OpD):St×Lg×jX:=if o.kind=12 then uK st L b else stepA st L a o
structure sF (Qok:Qy->Prop)(o:OpD):Prop where
 q:o.kind=6->Qok ⟨false,o.key,o.delim,o.past⟩
 q7:o.kind=7->Qok ⟨true,o.key,o.delim,o.past⟩
structure jY (Qok:Qy->Prop)(o:OpD):Prop where
 k12:o.kind≠12
 q:o.kind=6->Qok ⟨false,o.key,o.delim,o.past⟩
 q7:o.kind=7->Qok ⟨true,o.key,o.delim,o.past⟩
theorem jY.e {Qok:Qy->Prop}{o:OpD}(h:jY Qok o):sF Qok o:=⟨h.q,h.q7⟩
structure qv (Qok:Qy->Prop)(L:Lg)(s:Nat):Prop where
 len:L.opened.length<=3
 left:∀x∈L.opened,0<=x.left/\x.left<=10
 ok:∀x∈L.opened,Qok x.q/\fI (cD x.f x.q.p.data.toList)<=1000/\x.q.p.size<=maxLen
 begun:0<=L.begun/\L.begun<=s
 told:∀tok n pg,iu tok L.told=some (n,pg)->(0<=n/\n<=s)/\0<=pg/\pg<=s+1
theorem iO (k k':ByteArray)(x:Int×Int)(t:Told):iu k (mt k' x t)=if k=k' then some x else iu k t:=by
 induction t with
 |nil=>simp [mt,iu]
 |cons a r ih=>
  obtain ⟨a1,a2⟩:=a;by_cases h:k'=a1
  .subst h;simp only [mt,if_true,iu];by_cases h2:k=k'<;>simp [h2]
  .simp only [mt,if_neg h,iu,ih];by_cases h2:k=a1
   .subst h2;rw [if_pos rfl,if_neg (fun e=>h e.symm),if_pos rfl]
   .rw [if_neg h2,if_neg h2]
theorem gb.sum {st:St}(h:gb st)(p:List UInt8):fI (cD st.f p)<=1000:=by
 have h2:=uw p 41 st.f;have h3:fI (cD st.f p)=tot (41-p.length) fun k=>st.f (p++k):=nK _ _ _ _
 have:=h.cnt;have:=h.le;omega
section
variable {Qok:Qy->Prop} {L:Lg} {s:Nat} {st:St}
theorem qv.mono (h:qv Qok L s){s':Nat}(hs:s<=s'):qv Qok L s':=
 ⟨h.len,h.left,h.ok,⟨h.begun.1,by have:=h.begun.2;omega⟩,fun a n pg e=>by have:=h.told a n pg e;omega⟩
theorem qv.beg (h:qv Qok L s)(c:gb st)(q:Qy)(n:Int)(hq:Qok q)(hp:q.p.size<=maxLen):qv Qok (ez L st.f q n).1 (s+1):=by
 have hb:=h.begun;unfold ez;split
 .exact h.mono (by omega)
 .split
  .exact h.mono (by omega)
  .split
   .exact h.mono (by omega)
   .refine ⟨by simp only [lP,lS];omega,fun x hx=>?_,fun x hx=>?_,⟨by simp only;omega,by simp only;omega⟩,fun a b pg e=>?_⟩
    .rcases List.mem_append.1 hx with hx|hx
     .exact h.left x hx
     .simp only [List.mem_singleton] at hx;subst hx;exact ⟨by simp [gC],by simp [gC]⟩
    .rcases List.mem_append.1 hx with hx|hx
     .exact h.ok x hx
     .simp only [List.mem_singleton] at hx;subst hx;exact ⟨hq,c.sum _,hp⟩
    .simp only [iO] at e;split at e
     .cases e;omega
     .have:=h.told a b pg e;omega
theorem qv.next (h:qv Qok L s)(c:ByteArray):qv Qok (Dn L c).1 (s+1):=by
 unfold Dn;split
 .exact h.mono (by omega)
 .rename_i n pg e1;split
  .exact h.mono (by omega)
  .split
   .exact h.mono (by omega)
   .rename_i i e2 x e3;have hx:x∈L.opened:=List.mem_of_getElem? e3;have hb:=h.begun;refine ⟨by simpa using h.len,fun y hy=>?_,fun y hy=>?_,⟨hb.1,by simp only;omega⟩,fun a d b e=>?_⟩
    .rcases List.mem_or_eq_of_mem_set hy with hy|rfl
     .exact h.left y hy
     .exact ⟨by simp [LsA.again],by simp [LsA.again]⟩
    .rcases List.mem_or_eq_of_mem_set hy with hy|rfl
     .exact h.ok y hy
     .exact h.ok x hx
    .simp only at e;split at e
     .have:=h.told a d b e;omega
     .rw [iO] at e;split at e
      .cases e;have:=h.told c n pg e1;omega
      .have:=h.told a d b e;omega
theorem qv.tick (h:qv Qok L s)(u:Int):qv Qok (Dq L u).1 (s+1):=by
 unfold Dq;split
 .exact h.mono (by omega)
 .rename_i hu;have hb:=h.begun;refine ⟨?_,fun y hy=>?_,fun y hy=>?_,⟨hb.1,by simp only [Do];omega⟩,fun a n pg e=>by have:=h.told a n pg e;omega⟩
  .have:=List.length_filter_le (fun x:LsA=>!decide (x.left<=0)) (L.opened.map fun x=>x.again (x.left-u));rw [lM] at this;exact lT this h.len
  .simp only [Do,List.mem_filter,List.mem_map] at hy;obtain ⟨⟨x,hx,rfl⟩,hy⟩:=hy;have:=h.left x hx;have hy':¬(x.left-u<=0):=fun e=>by simp [LsA.again,e] at hy
   show 0<=x.left-u/\x.left-u<=10;omega
  .simp only [Do,List.mem_filter,List.mem_map] at hy;obtain ⟨⟨x,hx,rfl⟩,hy⟩:=hy;exact h.ok x hx
theorem qv.step (h:qv Qok L s)(b:gb st)(a:List ByteArray)(o:OpD)(hk:sF Qok o)(hp:o.key.size<=maxLen):qv Qok (stepA st L a o).2.1 (s+1):=by
 unfold stepA;split
 .rename_i h6;exact h.beg b _ _ (hk.q h6) hp
 .split
  .rename_i h7;exact h.beg b _ _ (hk.q7 h7) hp
  .split
   .exact h.next _
   .split
    .exact h.tick _
    .split
     .exact h.mono (by omega)
     .split
      .exact h.mono (by omega)
      .exact h.mono (by omega)
theorem gb.stepA (b:gb st)(a:List ByteArray)(o:OpD):gb (stepA st L a o).1:=by
 unfold Go.Proofs.Qw.stepA
 repeat' split
 all_goals first|exact b|exact b.step o
theorem Inv.stepA (b:Inv st s)(a:List ByteArray)(o:OpD):Inv (stepA st L a o).1 (s+1):=by
 have hm:Inv st (s+1):=b.mono (by omega);unfold Go.Proofs.Qw.stepA
 repeat' split
 all_goals first|exact hm|exact b.step o
end
def jZ (Qok:Qy->Prop)(K:OpD->Prop)(G:Wj->Prop)(N:Nat):Prop:=
 ∀ {A:Nat->Prop} {B k0:Nat} {w:Wj} {st:St} {L:Lg} (_:cK A B w k0 st L) (_:B<=w.heap.size) (_:∀w',cf A B k0 w w'->G w') (o:OpD) (_:K o) (_:sF Qok o) (_:o.key.size<=maxLen) (_:o.body.size<=maxLen) {s:Nat} (_:Inv st s) (_:gb st) (_:qv Qok L s) (_:s<N)
  (g0 b:Nat) (a:List ByteArray) (_:a.length=s) (_:w.cell? ⟨k0,8,none⟩=some (.slice (some ⟨g0,0,none⟩) s b)) (_:∀i (hi:i<a.length),w.cell? ⟨g0,i * 5+4,none⟩=some (.string a[i])) (ks:List Int) (bs:List ByteArray) (_:Hk w k0 g0 s ks bs),
  Calls Yq.prog 33 #[.pointer (some ⟨k0,0,none⟩),bh o] w fun e w'=>dv A B k0 w (uL st L a (o6 ks bs o.src o.body) o).1 (uL st L a (o6 ks bs o.src o.body) o).2.1 (uL st L a (o6 ks bs o.src o.body) o).2.2 e w'\/Stop Qok e w'
structure Dk where
 st:St
 L:Lg
 al:List jX
def Dk.toks (d:Dk):List ByteArray:=d.al.map (·.tok)
def gg (d:Dk)(o:OpD):Dk:=⟨(stepA d.st d.L d.toks o).1,(stepA d.st d.L d.toks o).2.1,d.al++[(stepA d.st d.L d.toks o).2.2]⟩
def dk0:Dk:=⟨st0,⟨[],0,[],0⟩,[]⟩
def jt (ops:List OpD):Dk:=ops.foldl gg dk0
theorem A2 (a:List OpD)(o:OpD):jt (a++[o])=gg (jt a) o:=by simp [jt]
theorem A3 (ops:List OpD):∀d:Dk,(ops.foldl gg d).al.length=d.al.length+ops.length:=by
 induction ops with
 |nil=>intro d;rfl
 |cons o r ih=>intro d;rw [List.foldl_cons,ih];simp [gg];omega
theorem wm (ops:List OpD):(jt ops).al.length=ops.length:=by rw [jt,A3];simp [dk0]
structure Eg (Qok:Qy->Prop)(d:Dk)(s:Nat):Prop where
 i:Inv d.st s
 t:gb d.st
 l:qv Qok d.L s
 n:d.al.length=s
theorem GE (Qok:Qy->Prop):Eg Qok dk0 0:=⟨inv0,Gw,⟨by simp [dk0],by simp [dk0],by simp [dk0],by simp [dk0],by simp [dk0,iu]⟩,rfl⟩
theorem Eg.step {Qok:Qy->Prop}{d:Dk}{s:Nat}(h:Eg Qok d s)(o:OpD)(hk:jY Qok o)(hp:o.key.size<=maxLen):Eg Qok (gg d o) (s+1):=
 ⟨h.i.stepA _ o,h.t.stepA _ o,h.l.step h.t _ o hk.e hp,by simp [gg,h.n]⟩
theorem A4 {Qok:Qy->Prop}(ops:List OpD):∀ (d:Dk)(s:Nat),(∀o∈ops,jY Qok o/\o.key.size<=maxLen)->Eg Qok d s->Eg Qok (ops.foldl gg d) (s+ops.length):=by
 induction ops with
 |nil=>intro d s _ h;exact h
 |cons o r ih=>
  intro d s hk h;have:=ih (gg d o) (s+1) (fun x hx=>hk x (by simp [hx])) (h.step o (hk o (by simp)).1 (hk o (by simp)).2);rw [List.foldl_cons,lC,show s+(r.length+1)=s+1+r.length by omega];exact this
theorem wn {Qok:Qy->Prop}(ops:List OpD)(hk:∀o∈ops,jY Qok o/\o.key.size<=maxLen):Eg Qok (jt ops) ops.length:=by
 have:=A4 ops dk0 0 hk (GE Qok)
 rwa [zA] at this
def Dk.bods (d:Dk):List ByteArray:=d.al.map (·.body)
def nS (a:List OpD)(d:Dk)(o:OpD):St×Lg×jX:=uL d.st d.L d.toks (o6 (a.map (·.kind)) d.bods o.src o.body) o
def kV (a:List OpD)(d:Dk)(o:OpD):Dk:=⟨(nS a d o).1,(nS a d o).2.1,d.al++[(nS a d o).2.2]⟩
def mw (ops:List OpD)(x:List OpD×Dk):List OpD×Dk:=ops.foldl (fun x o=>(x.1++[o],kV x.1 x.2 o)) x
def jx (ops:List OpD):Dk:=(mw ops ([],dk0)).2
theorem A5 (ops:List OpD):∀x,(mw ops x).1=x.1++ops:=by
 induction ops with
 |nil=>intro x;simp [mw]
 |cons o r ih=>intro x;show (mw r _).1=_;rw [ih];simp
theorem sH (a b:List OpD)(x:List OpD×Dk):mw (a++b) x=mw b (mw a x):=by simp [mw]
theorem A6 (a:List OpD)(o:OpD):jx (a++[o])=kV a (jx a) o:=by
 rw [jx,sH];show kV (mw a ([],dk0)).1 _ o=_;rw [A5];rfl
theorem wo {a:List OpD}{d:Dk}{o:OpD}(h:o.kind≠12):kV a d o=gg d o:=by simp only [kV,nS,uL,if_neg h,gg]
theorem FJ {ops:List OpD}(h:∀o∈ops,o.kind≠12):jx ops=jt ops:=by
 have:∀ (ops:List OpD) (x:List OpD×Dk),(∀o∈ops,o.kind≠12)->(mw ops x).2=ops.foldl gg x.2:=fun ops=>by
  induction ops with
  |nil=>intro x _;rfl
  |cons o r ih=>
   intro x h;show (mw r _).2=_;rw [ih _ fun y hy=>h y (by simp [hy]),List.foldl_cons];congr 1;exact wo (h o (by simp))
 exact this ops _ h
structure FK (Qok:Qy->Prop)(d:Dk)(s:Nat):Prop extends Eg Qok d s where
 small:∀b∈d.bods,b.size<=maxLen
theorem A7 {st:St}{L:Lg}{s:Nat}{Qok:Qy->Prop}(b:ByteArray)(d:Inv st s)(f:gb st)(a:qv Qok L s):Inv (uK st L b).1 (s+1)/\gb (uK st L b).1/\qv Qok (uK st L b).2.1 (s+1)/\(uK st L b).2.2.body=⟨#[]⟩:=by
 unfold uK;cases h:AX b with
 |none=>exact ⟨d.mono (by omega),f,a.mono (by omega),rfl⟩
 |some x=>
  obtain ⟨h1,h2⟩:=AZ h;have hb:=a.begun;exact ⟨h1.mono (by omega),h2,⟨by simp,by simp,by simp,⟨hb.1,by simp only;omega⟩,fun c n pg e=>by have:=a.told c n pg e;omega⟩,rfl⟩
theorem uM {st:St}{L:Lg}(b:gb st)(a:List ByteArray)(o:OpD):(stepA st L a o).2.2.body.size<=maxLen:=by
 have h0:(⟨#[]⟩:ByteArray).size<=maxLen:=Nat.zero_le _;have hv:∀k,∀v∈st.f k,v.body.size<=maxLen:=fun k v hv=>lT (b.body k v hv) (by simp only [maxLen];decide)
 unfold stepA
 repeat' split
 all_goals first
  |exact h0
  |exact yr b _
  |skip
 unfold ay;simp only
 repeat' split
 all_goals first
  |exact h0
  |(rename_i e _;exact hv _ _ (List.mem_of_getLast? e))
  |(rename_i e _;exact hv _ _ (List.mem_of_getElem? e))
theorem FK.step {Qok:Qy->Prop}{d:Dk}{s:Nat}{a:List OpD}(h:FK Qok d s)(o:OpD)(hk:sF Qok o)(hp:o.key.size<=maxLen):FK Qok (kV a d o) (s+1):=by
 by_cases c:o.kind=12
 .obtain ⟨h1,h2,h3,h4⟩:=A7 (o6 (a.map (·.kind)) d.bods o.src o.body) h.i h.t h.l;have e:nS a d o=uK d.st d.L (o6 (a.map (·.kind)) d.bods o.src o.body):=by simp only [nS,uL,if_pos c]
  refine ⟨⟨by rw [kV,e];exact h1,by rw [kV,e];exact h2,by rw [kV,e];exact h3,by simp [kV,h.n]⟩,fun b hb=>?_⟩;simp only [Dk.bods,kV,List.map_append,List.mem_append,List.map_cons,List.map_nil,List.mem_singleton] at hb;rcases hb with hb|rfl
  .exact h.small b hb
  .rw [e,h4];exact Nat.zero_le _
 .rw [wo c];refine ⟨⟨h.i.stepA _ o,h.t.stepA _ o,h.l.step h.t _ o hk hp,by simp [gg,h.n]⟩,fun b hb=>?_⟩;simp only [Dk.bods,gg,List.map_append,List.mem_append,List.map_cons,List.map_nil,List.mem_singleton] at hb;rcases hb with hb|rfl
  .exact h.small b hb
  .exact uM h.t _ o
theorem Dz {Qok:Qy->Prop}(ops:List OpD)(hk:∀o∈ops,sF Qok o/\o.key.size<=maxLen):FK Qok (jx ops) ops.length:=by
 have:∀ (ops:List OpD) (x:List OpD×Dk) (s:Nat),(∀o∈ops,sF Qok o/\o.key.size<=maxLen)->FK Qok x.2 s->FK Qok (mw ops x).2 (s+ops.length):=fun ops=>by
  induction ops with
  |nil=>intro x s _ h;exact h
  |cons o r ih=>
   intro x s hk h;have:=ih (x.1++[o],kV x.1 x.2 o) (s+1) (fun y hy=>hk y (by simp [hy])) (h.step o (hk o (by simp)).1 (hk o (by simp)).2);rw [lC,show s+(r.length+1)=s+1+r.length by omega];exact this
 have:=this ops ([],dk0) 0 hk ⟨GE Qok,by simp [Dk.bods,dk0]⟩
 rwa [zA] at this
def aZ (zs:List (jX×Wx)):List Wx:=zs.flatMap fun z=>[.int .i64 z.1.code,.int .i64 z.1.ver,.string z.1.body,z.2,.string z.1.tok]
theorem o7 (zs:List (jX×Wx)):(aZ zs).length=zs.length * 5:=gt 5 _ (fun _=>rfl) zs
theorem nT (zs:List (jX×Wx))(z:jX×Wx):aZ (zs++[z])=aZ zs++[.int .i64 z.1.code,.int .i64 z.1.ver,.string z.1.body,z.2,.string z.1.tok]:=by simp [aZ]
theorem j1:∀ (zs:List (jX×Wx))(i:Nat)(b:i<zs.length),(aZ zs)[i * 5]?=some (.int .i64 zs[i].1.code)/\(aZ zs)[i * 5+1]?=some (.int .i64 zs[i].1.ver)/\(aZ zs)[i * 5+2]?=some (.string zs[i].1.body)/\(aZ zs)[i * 5+3]?=some zs[i].2/\(aZ zs)[i * 5+4]?=some (.string zs[i].1.tok)
 | [],i,b=>by simp at b
 |z::zs,0,b=>by simp [aZ]
 |z::zs,i+1,b=>by
  have ih:=j1 zs i (by simpa using b);have e:aZ (z::zs)=[.int .i64 z.1.code,.int .i64 z.1.ver,.string z.1.body,z.2,.string z.1.tok]++aZ zs:=by simp [aZ]
  have a:∀j,(aZ (z::zs))[(i+1) * 5+j]?=(aZ zs)[i * 5+j]?:=fun j=>by
   rw [e,aR (by simp;omega)];congr 1;simp;omega
  simp only [List.getElem_cons_succ];exact ⟨(a 0).trans ih.1,(a 1).trans ih.2.1,(a 2).trans ih.2.2.1,(a 3).trans ih.2.2.2.1,(a 4).trans ih.2.2.2.2⟩
def A8 (A:Nat->Prop)(w:Wj)(zs:List (jX×Wx)):Prop:=∀z∈zs,bO A w z.2 z.1.items.length (an z.1.items)
def uN (ops:List OpD)(w:Wj)(e:Ending)(w':Wj):Prop:=
 ∃ (A:Nat->Prop) (zs:List (jX×Wx)),e=.returned (.slice (some ⟨w.heap.size,0,none⟩) ops.length ops.length)/\zs.map (·.1)=(jt ops).al/\w'.ownsRow w.heap.size 36 5 (.slice (some ⟨w.heap.size,0,none⟩) ops.length ops.length) ops.length (aZ zs)/\A8 A w' zs/\(∀b,A b->w.heap.size<b)/\au w w'
def fy (ops:List OpD)(w:Wj)(e:Ending)(w':Wj):Prop:=
 ∃ (A:Nat->Prop) (zs:List (jX×Wx)),e=.returned (.slice (some ⟨w.heap.size,0,none⟩) ops.length ops.length)/\zs.map (·.1)=(jx ops).al/\w'.ownsRow w.heap.size 36 5 (.slice (some ⟨w.heap.size,0,none⟩) ops.length ops.length) ops.length (aZ zs)/\A8 A w' zs/\(∀b,A b->w.heap.size<b)/\au w w'
theorem fy.d {ops:List OpD}{w w':Wj}{e:Ending}(h:fy ops w e w')(hk:∀o∈ops,o.kind≠12):uN ops w e w':=by
 unfold fy at h;rw [FJ hk] at h;exact h
section
variable {A:Nat->Prop} {B k0:Nat} {w w':Wj} {st:St} {L:Lg}
theorem cK.apart {g0:Nat}(h:cK A B w k0 st L)(hsz:w.heap.size<=w'.heap.size)(hne:∀b,b<w.heap.size->b≠k0->b≠g0->w'.heap[b]?=w.heap[b]?)(hA:¬A g0)(hgB:g0<B)(hc:∀j,j<7->w'.cell? ⟨k0,j,none⟩=w.cell? ⟨k0,j,none⟩)(hf:∀j,w'.frozen? ⟨k0,j,none⟩=w.frozen? ⟨k0,j,none⟩):cK A B w' k0 st L:=by
 have hAk:=h.ls.avoid;have hlow:=h.ls.low;have c:∀n p f,ak A n w p f->ak A n w' p f:=fun n p f hn=>ak.keep (fun b hb hlt=>⟨hb,hne b hlt (fun e=>hAk (e▸hb)) (fun e=>hA (e▸hb))⟩) n p f hn
 have c3:=h.time;obtain ⟨p,c0,hp⟩:=h.store.tree;obtain ⟨v,c4,zs,z1,z2,z3,z4⟩:=h.ls.opened;obtain ⟨d,c6,hm⟩:=h.ls.told;refine ⟨⟨h.store.avoid,⟨p,(hc 0 (by omega)).trans c0,c _ _ _ hp⟩,(hc 1 (by omega)).trans h.store.count,(hc 2 (by omega)).trans h.store.last,fun j=>(hf j).trans (h.store.frozen j)⟩,⟨⟨v,(hc 4 (by omega)).trans c4,zs,z1,dA z2 fun g h1 hg=>hne g hg (by omega) (by omega),z3,fun z hz=>c _ _ _ (z4 z hz)⟩,(hc 5 (by omega)).trans h.ls.begun,⟨d,(hc 6 (by omega)).trans c6,?_⟩,fun j=>(hf j).trans (h.ls.frozen j),h.ls.avoid,h.ls.low,fun b hb=>by have:=h.ls.inn b hb;omega⟩,(hc 3 (by omega)).trans c3⟩;rcases hm with hm|⟨m,es,a,m1,m2,m3,i,k⟩
 .exact .inl hm
 .have hml:=(eS m2).1;exact .inr ⟨m,es,a,m1,(hne m hml (by omega) (by omega)).trans m2,m3,i,k⟩
theorem A9 {a c8:Wx}{T:Ww}:cK (fun _=>False) (w.heap.size+1) (w.alloc (.cells #[.pointer none,.int .i64 0,.int .i64 0,.int .u64 0,.slice none 0 0,.int .i64 0,.map none,a,c8] T)) w.heap.size st0 ⟨[],0,[],0⟩:=by
 have hd:∀j,(w.alloc (.cells #[.pointer none,.int .i64 0,.int .i64 0,.int .u64 0,.slice none 0 0,.int .i64 0,.map none,a,c8] T)).cell? ⟨w.heap.size,j,none⟩=(#[.pointer none,.int .i64 0,.int .i64 0,.int .u64 0,.slice none 0 0,.int .i64 0,.map none,a,c8]:Array Wx)[j]?:=fun j=>cA (w:=w) _ _ w.heap.size j rfl
 have hf:∀j,(w.alloc (.cells #[.pointer none,.int .i64 0,.int .i64 0,.int .u64 0,.slice none 0 0,.int .i64 0,.map none,a,c8] T)).frozen? ⟨w.heap.size,j,none⟩=false:=fun j=>World.frozen?_alloc_at (w:=w) _ _ w.heap.size j rfl
 refine ⟨⟨fun _ h=>h.elim,⟨none,hd 0,ak.nil (fun _=>rfl)⟩,hd 1,hd 2,hf⟩,⟨⟨_,hd 4,[],rfl,⟨by simp [fg],.inl ⟨rfl,rfl⟩⟩,fun g h=>by simp [Value.ownBlock] at h,fun z hz=>by simp at hz⟩,hd 5,⟨_,hd 6,.inl ⟨rfl,rfl⟩⟩,hf,fun h=>h,by omega,fun _ h=>h.elim⟩,hd 3⟩
theorem FL {zs:List (jX×Wx)}{b:List jX}(hz:zs.map (·.1)=b){a n cap g:Nat}{T:Ww}(h:w.ownsRow a T 5 (.slice (some ⟨g,0,none⟩) n cap) n (aZ zs)):∀i (d:i<(b.map (·.body)).length),w.cell? ⟨g,i * 5+2,none⟩=some (.string (b.map (·.body))[i]):=by
 subst hz;intro i d;have c:i<zs.length:=by simpa using d
 have:=(j1 zs i c).2.2.1;rw [h.cellAt _ (by have:=h.1;rw [o7] at this;omega)];simpa using this
theorem FM {zs:List (jX×Wx)}{b:List jX}(hz:zs.map (·.1)=b){a n cap g:Nat}{T:Ww}(h:w.ownsRow a T 5 (.slice (some ⟨g,0,none⟩) n cap) n (aZ zs)):∀i (d:i<(b.map (·.tok)).length),w.cell? ⟨g,i * 5+4,none⟩=some (.string (b.map (·.tok))[i]):=by
 subst hz;intro i d;have c:i<zs.length:=by simpa using d
 have:=(j1 zs i c).2.2.2.2;rw [h.cellAt _ (by have:=h.1;rw [o7] at this;omega)];simpa using this
end
theorem yt {A:Nat->Prop}{B k0:Nat}{w w':Wj}(h:js A B k0 w w'){a n cap g:Nat}{T:Ww}{xs:List Wx}(ho:w.ownsRow a T 5 (.slice (some ⟨g,0,none⟩) n cap) n xs)(c:g<B)(hk:g≠k0):w'.ownsRow a T 5 (.slice (some ⟨g,0,none⟩) n cap) n xs:=
 kP ho fun g' b=>by
  simp [Value.ownBlock] at b;subst b;exact h.low _ c (ho.lt _ rfl).2 hk
structure BT (Qok:Qy->Prop)(ops:List OpD)(sc:Wx)(n k0:Nat)(w wr:Wj)(i:Nat)(A:Nat->Prop)(zs:List (jX×Wx)):Prop where
 desk:cK A (k0+1) wr k0 (jx (ops.take i)).st (jx (ops.take i)).L
 above:∀b,A b->w.heap.size<b
 c7:wr.cell? ⟨k0,7,none⟩=some sc
 c8:wr.cell? ⟨k0,8,none⟩=some (.slice (some ⟨w.heap.size,0,none⟩) i n)
 own:wr.ownsRow w.heap.size 36 5 (.slice (some ⟨w.heap.size,0,none⟩) i n) i (aZ zs)
 al:zs.map (·.1)=(jx (ops.take i)).al
 rows:A8 A wr zs
 left:au w wr
 k0:w.heap.size<k0
theorem BT.leftD {Qok:Qy->Prop}{ops:List OpD}{sc:Wx}{n k0 i:Nat}{w wr W1 w':Wj}{A:Nat->Prop}{zs:List (jX×Wx)}(h:BT Qok ops sc n k0 w wr i A zs)(hl:au wr W1)(hd:cf A (k0+1) k0 W1 w'):au w w':=by
 have h0:=h.left;have hk:=h.k0;have hs:=h0.size;have hs1:=hl.size;refine ⟨hd.os.trans (hl.os.trans h0.os),by have:=hd.size;omega,fun b hb=>?_⟩;rw [hd.low b (by omega) (by omega) (by omega),hl.block b (by omega),h0.block b hb]
theorem BT.next {Qok:Qy->Prop}{ops:List OpD}{sc:Wx}{n k0 i:Nat}{w wr W1 w2 w3:Wj}{A:Nat->Prop}{zs:List (jX×Wx)}(h:BT Qok ops sc n k0 w wr i A zs)(r:i<ops.length)(hl:au wr W1){sv:Wx}{X:Obj}(hp:dv A (k0+1) k0 W1 (nS (ops.take i) (jx (ops.take i)) ops[i]).1 (nS (ops.take i) (jx (ops.take i)) ops[i]).2.1 (nS (ops.take i) (jx (ops.take i)) ops[i]).2.2 (.returned (qH (nS (ops.take i) (jx (ops.take i)) ops[i]).2.2 sv)) w2)
  (ho:w3.ownsRow w.heap.size 36 5 (.slice (some ⟨w.heap.size,0,none⟩) (i+1) n) (i+1) (aZ (zs++[((nS (ops.take i) (jx (ops.take i)) ops[i]).2.2,sv)]))) (hg:(w2.alloc X).grownBy w3 (some w.heap.size)) (hfz:w3.cell? ⟨k0,8,none⟩=some (.slice (some ⟨w.heap.size,0,none⟩) i n)):
  ∃A',BT Qok ops sc n k0 w (w3.setCell ⟨k0,8,none⟩ (.slice (some ⟨w.heap.size,0,none⟩) (i+1) n)) (i+1) A' (zs++[((nS (ops.take i) (jx (ops.take i)) ops[i]).2.2,sv)]):=by
 obtain ⟨p,he,A',a1,a2,hd,hw,hrow⟩:=hp;have l:p=sv:=by
  simp [qH] at he;exact he.symm
 subst l;have htk:ops.take (i+1)=ops.take i++[ops[i]]:=tS r;have k:jx (ops.take (i+1))=kV (ops.take i) (jx (ops.take i)) ops[i]:=by rw [htk,A6]
 have hk:=h.k0;have hs0:=h.left.size;have hs1:=hl.size;have hs2:=hw.size;have hs3:=hg.size;simp at hs3;have hne:∀b,b<w2.heap.size->b≠k0->b≠w.heap.size->(w3.setCell ⟨k0,8,none⟩ (.slice (some ⟨w.heap.size,0,none⟩) (i+1) n)).heap[b]?=w2.heap[b]?:=fun b hb h1 h2=>by
  rw [bS _ _ _ _ h1,hg.block b (by simp;omega) (fun e=>h2 (oJ e)),bA _ _ _ hb]
 have o:k0<w2.heap.size:=hd.ls.lt;have hk3:w3.heap[k0]?=w2.heap[k0]?:=by
  rw [hg.block k0 (by simp;omega) (fun e=>by have:=oJ e;omega),bA _ _ _ o]
 have d:∀b,A' b->w.heap.size<b:=fun b hb=>by
  rcases a2 b hb with h1|h1
  .exact h.above b h1
  .have:=h.desk.ls.lt;omega
 have hc:∀j,j≠8->(w3.setCell ⟨k0,8,none⟩ (.slice (some ⟨w.heap.size,0,none⟩) (i+1) n)).cell? ⟨k0,j,none⟩=w2.cell? ⟨k0,j,none⟩:=fun j q=>by
  rw [cO _ _ _ _ (fd (fun e=>q e.symm))];exact cB (a:=⟨k0,j,none⟩) hk3
 have hf:∀j,(w3.setCell ⟨k0,8,none⟩ (.slice (some ⟨w.heap.size,0,none⟩) (i+1) n)).frozen? ⟨k0,j,none⟩=w2.frozen? ⟨k0,j,none⟩:=fun j=>by
  rw [World.frozen?_setCell];exact fB (a:=⟨k0,j,none⟩) hk3
 refine ⟨A',?_,d,(hc 7 (by omega)).trans ((hw.cells 7 (by omega)).trans (hl.cell h.c7)),cS _ _ _ (by rw [hfz];rfl),?_,?_,?_,?_,h.k0⟩
 .rw [k];show cK A' (k0+1) _ k0 (nS _ _ _).1 (nS _ _ _).2.1;exact hd.apart (g0:=w.heap.size) (by simp;omega) hne (fun hx=>by have:=d _ hx;omega) (by omega) (fun j q=>hc j (by omega)) hf
 .exact kP ho fun g f=>by
   simp [Value.ownBlock] at f;subst f;exact bS _ _ _ _ (by show w.heap.size≠k0;omega)
 .rw [k,List.map_append,h.al];rfl
 .intro z hz;have c:∀ {v:Wx} {m:Nat} {xs:List Wx},bO A' w2 v m xs->bO A' (w3.setCell ⟨k0,8,none⟩ (.slice (some ⟨w.heap.size,0,none⟩) (i+1) n)) v m xs:=fun hr=>bO.keep hr fun b hb hlt=>⟨hb,hne b hlt (fun e=>hd.ls.avoid (e▸hb)) (fun e=>by have:=d b hb;omega)⟩
  rcases List.mem_append.1 hz with hz|hz
  .refine c (bO.keep (h.rows z hz) fun b hb hlt=>⟨a1 b hb,?_⟩);rw [hw.tree b hb (by omega),hl.block b hlt]
  .simp only [List.mem_singleton] at hz;subst hz;exact c hrow
 .refine ⟨?_,by simp;omega,fun b hb=>?_⟩
  .show w3.os=w.os;rw [hg.os];exact hw.os.trans (hl.os.trans h.left.os)
  .have hkk:=h.desk.ls.lt;rw [hne b (by omega) (by omega) (by omega),hw.low b (by omega) (by omega) (by omega),hl.block b (by omega),h.left.block b hb]
theorem Ba (Qok:Qy->Prop)(K:OpD->Prop)(G:Wj->Prop)(N:Nat)(S:jZ Qok K G N)(b off cap:Nat)(ops:List OpD)(w:Wj)(hG:∀w',au w w'->G w')(hS:gz w b off ops)(hz:Sized ops)(hn:ops.length<=N)(hN:N<2199023255300)(ac:∀o∈ops,sF Qok o)(hkk:∀o∈ops,K o):
  Calls Yq.prog 18 #[.slice (some ⟨b,off,none⟩) ops.length cap] w fun e w'=>fy ops w e w'\/Stop Qok e w':=by
 obtain ⟨i0,a8,bb,a0,be⟩:=info_parts Yq.infoAns;have O:Hid (gz w b off ops/\Sized ops):=⟨hS,hz⟩;have av:Hid (∀o∈ops,sF Qok o):=ac;have Z:Hid (jZ Qok K G N):=S;have bd:Hid (∀w',au w w'->G w'):=hG;have b2:Hid (∀o∈ops,K o):=hkk;have b3:Hid (∀e w',fy ops w e w'↔fy ops w e w'):=fun _ _=>Iff.rfl
 obtain ⟨P,hP⟩:∃P:Ending->Wj->Prop,P=fun e w'=>fy ops w e w'\/Stop Qok e w':=⟨_,rfl⟩
 have bn:Hid (∀e w',fy ops w e w'->P e w'):=fun e w' h=>by rw [hP];exact .inl h
 have bk:Hid (∀e w',Stop Qok e w'->P e w'):=fun e w' h=>by rw [hP];exact .inr h
 rw [<-hP];obtain ⟨n,U⟩:∃n,ops.length=n:=⟨_,rfl⟩;have HN:Hid (ops.length=n):=U;rw [U] at hn ⊢;clear hS hz U ac S hP b3 hkk hG;go_enter (Yq.nq Tryz.func18),Tryz.ntmps18;go_wp2_with (at_make;refine wpList_make_own _ rfl _ _ 27 rfl w.heap.size 36 i0 _ 5 (Yq.u Tryz.underlying27) a8 bb a0 _ _ _ n rfl rfl (by omega) ?qb1 ?qb2 ?qb3 ?_)
 case qb1=>rw [be];omega
 case qb2=>simp only [maxLen];omega
 case qb3=>simp
 intro w1 C f;have a7:w.heap.size<w1.heap.size:=(C.lt w.heap.size rfl).2;have b1:Below w.heap.size w w1:=⟨f.os,f.tape,f.output,f.size,fun k hk=>f.block k hk (by simp)⟩;go_wp2_with fail
 obtain ⟨W0,V⟩:∃W0,W0=w1.alloc (.cells #[.pointer none,.int .i64 0,.int .i64 0,.int .u64 0,.slice none 0 0,.int .i64 0,.map none,.slice (some ⟨b,off,none⟩) n cap,.slice (some ⟨w.heap.size,0,none⟩) 0 n] 65):=⟨_,rfl⟩;have af:Hid (BT Qok ops (.slice (some ⟨b,off,none⟩) n cap) n w1.heap.size w W0 0 (fun _=>False) []):=by
  rw [V];exact ⟨A9,fun _ h=>h.elim,by rw [qq];rfl,by rw [qq];rfl,C.alloc _,rfl,fun z hz=>by simp at hz,(au.below b1).alloc _,a7⟩
 rw [<-V];generalize w1.heap.size=k0 at *;clear b1 C f V
 go_loopw [5,13] (fun _ s12 wr=>∃ (i:Nat) (A:Nat->Prop) (zs:List (jX×Wx)),i<=n/\s12=.int .i64 i/\BT Qok ops (.slice (some ⟨b,off,none⟩) n cap) n k0 w wr i A zs) (fun _ s12 _=>n-(intOf s12).toNat)
 case atStart=>exact ⟨0,fun _=>False,[],Nat.zero_le _,rfl,af.out⟩
 case round=>
  obtain ⟨i,A,zs,hin,rfl,ap⟩:=hrel;have HR:Hid (BT Qok ops (.slice (some ⟨b,off,none⟩) n cap) n k0 w wr i A zs):=ap;clear ap af;by_cases hlt:i<n
  .have H:i<ops.length:=by rw [HN.out];exact hlt
   have hb:=HR.out.left;obtain ⟨c0,c1,c2,c3,c4,c5,c6⟩:=O.out.1 i H;replace c0:=hb.cell c0;replace c1:=hb.cell c1;replace c2:=hb.cell c2;replace c3:=hb.cell c3;replace c4:=hb.cell c4;replace c5:=hb.cell c5;replace c6:=hb.cell c6;obtain ⟨M,L⟩:=O.out.2 ops[i] (List.getElem_mem H);have hk1:=av.out ops[i] (List.getElem_mem H);have hk2:=b2.out ops[i] (List.getElem_mem H);have D:FK Qok (jx (ops.take i)) i:=by
    have:=Dz (Qok:=Qok) (ops.take i) (fun o ho=>⟨av.out o (List.mem_of_mem_take ho),(O.out.2 o (List.mem_of_mem_take ho)).1⟩)
    rwa [tL,Nat.min_eq_left (by omega)] at this
   have E:∀ (W1 w2 w3:Wj) (sv:Wx) (X:Obj),au wr W1->dv A (k0+1) k0 W1 (nS (ops.take i) (jx (ops.take i)) ops[i]).1 (nS (ops.take i) (jx (ops.take i)) ops[i]).2.1 (nS (ops.take i) (jx (ops.take i)) ops[i]).2.2 (.returned (qH (nS (ops.take i) (jx (ops.take i)) ops[i]).2.2 sv)) w2->w3.ownsRow w.heap.size 36 5 (.slice (some ⟨w.heap.size,0,none⟩) (i+1) n) (i+1) (aZ (zs++[((nS (ops.take i) (jx (ops.take i)) ops[i]).2.2,sv)]))->(w2.alloc X).grownBy w3 (some w.heap.size)->w3.cell? ⟨k0,8,none⟩=some (.slice (some ⟨w.heap.size,0,none⟩) i n)->∃A' zs',BT Qok ops (.slice (some ⟨b,off,none⟩) n cap) n k0 w (w3.setCell ⟨k0,8,none⟩ (.slice (some ⟨w.heap.size,0,none⟩) (i+1) n)) (i+1) A' zs':=
    fun W1 w2 w3 sv X hl hp ho hg hc=>by
     obtain ⟨A',h⟩:=HR.out.next H hl hp ho hg hc
     exact ⟨A',_,h⟩
   obtain ⟨o,ho⟩:∃o,o=ops[i]:=⟨_,rfl⟩;rw [<-ho] at E c0 c1 c2 c3 c4 c5 c6 M L hk1 hk2;obtain ⟨m,key,body,d,p,J,B⟩:=o;simp only at c0 c1 c2 c3 c4 c5 c6 M L;obtain ⟨W1,Q⟩:∃W1,W1=wr.alloc (.cells #[.int .i64 m,.string key,.string body,.string d,.string p,.int .i64 J,.int .i64 B] 31):=⟨_,rfl⟩;have s:au wr W1.drew:=by rw [Q];exact (au.refl.alloc _).drew
   have hkl:k0<wr.heap.size:=HR.out.desk.ls.lt;have ab:W1.drew.cell? ⟨k0,8,none⟩=some (.slice (some ⟨w.heap.size,0,none⟩) i n):=s.cell HR.out.c8;have bx:Hk W1.drew k0 w.heap.size i ((ops.take i).map (·.kind)) (jx (ops.take i)).bods:=by
    refine ⟨by simp;omega,by rw [Dk.bods,lM];exact D.n,D.small,⟨b,off,n,cap,s.cell HR.out.c7,by omega,fun j hj=>?_⟩,fun j hj=>s.cell (FL HR.out.al HR.out.own j hj)⟩;have hj':j<ops.length:=by simp at hj;omega
    have:=(HR.out.left.trans s).cell (O.out.1 j hj').1;simpa using this
   have HAN:=Z.out (HR.out.desk.left s) (by have:=s.size;omega) (fun w' hd=>bd.out w' (HR.out.leftD s hd)) ⟨m,key,body,d,p,J,B⟩ hk2 hk1 M L D.i D.t D.l (by omega) w.heap.size n (jx (ops.take i)).toks (by rw [Dk.toks,lM];exact D.n) ab (fun j hj=>s.cell (FM HR.out.al HR.out.own j hj)) ((ops.take i).map (·.kind)) (jx (ops.take i)).bods bx;change Calls _ _ _ _ (fun e w'=>dv A (k0+1) k0 W1.drew (nS (ops.take i) (jx (ops.take i)) ⟨m,key,body,d,p,J,B⟩).1 (nS (ops.take i) (jx (ops.take i)) ⟨m,key,body,d,p,J,B⟩).2.1 (nS (ops.take i) (jx (ops.take i)) ⟨m,key,body,d,p,J,B⟩).2.2 e w'\/Stop Qok e w') at HAN;generalize nS (ops.take i) (jx (ops.take i)) ⟨m,key,body,d,p,J,B⟩=sr at HAN E;obtain ⟨R,L',ad⟩:=sr;obtain ⟨code,ver,c,its,q⟩:=ad;simp only [bh] at HAN E;have Y:Hid (∀ (w2 w3:Wj) (sv:Wx) (X:Obj),dv A (k0+1) k0 W1.drew R L' ⟨code,ver,c,its,q⟩ (.returned (qH ⟨code,ver,c,its,q⟩ sv)) w2->w3.ownsRow w.heap.size 36 5 (.slice (some ⟨w.heap.size,0,none⟩) (i+1) n) (i+1) (aZ zs++[.int .i64 code,.int .i64 ver,.string c,sv,.string q])->(w2.alloc X).grownBy w3 (some w.heap.size)->w3.cell? ⟨k0,8,none⟩=some (.slice (some ⟨w.heap.size,0,none⟩) i n)->∃A' zs',BT Qok ops (.slice (some ⟨b,off,none⟩) n cap) n k0 w (w3.setCell ⟨k0,8,none⟩ (.slice (some ⟨w.heap.size,0,none⟩) (i+1) n)) (i+1) A' zs'):=
    fun w2 w3 sv X hp ho hg hc=>E _ w2 w3 sv X s hp (by rw [nT];exact ho) hg hc
   have bi:Hid (Calls Yq.prog 33 #[.pointer (some ⟨k0,0,none⟩),.agg #[.int .i64 m,.string key,.string body,.string d,.string p,.int .i64 J,.int .i64 B]] W1.drew fun e w'=>(∃v,e=.returned v/\∃I T sc,v=.agg #[.int .i64 code,.int .i64 ver,.string c,.slice I T sc,.string q]/\dv A (k0+1) k0 W1.drew R L' ⟨code,ver,c,its,q⟩ (.returned (qH ⟨code,ver,c,its,q⟩ (.slice I T sc))) w')\/∃ch,e=.panicked ch/\Stop Qok (.panicked ch) w'):=
    HAN.mono fun e w' h=>by
     rcases h with ⟨sv,rfl,A',a1,a2,a3,a4,a5⟩|hst
     .obtain ⟨I,sc,rfl,a6⟩:=a5;exact .inl ⟨_,rfl,I,_,sc,rfl,_,rfl,A',a1,a2,a3,a4,I,sc,rfl,a6⟩
     .obtain ⟨x,y,r,rfl,hst⟩:=hst;exact .inr ⟨_,rfl,x,y,r,rfl,hst⟩
   have bp:Hid (∀w2 sv,dv A (k0+1) k0 W1.drew R L' ⟨code,ver,c,its,q⟩ (.returned (qH ⟨code,ver,c,its,q⟩ sv)) w2->w2.cell? ⟨k0,8,none⟩=some (.slice (some ⟨w.heap.size,0,none⟩) i n)/\(∀X:Obj,(w2.alloc X).ownsRow w.heap.size 36 5 (.slice (some ⟨w.heap.size,0,none⟩) i n) i (aZ zs))/\∀ (w3:Wj) (X:Obj),(w2.alloc X).grownBy w3 (some w.heap.size)->w3.cell? ⟨k0,8,none⟩=some (.slice (some ⟨w.heap.size,0,none⟩) i n)/\w3.frozen? ⟨k0,8,none⟩=false):=fun w2 sv hp=>by
    obtain ⟨_,-,A',-,-,hd,hw,-⟩:=hp;have hk0:=HR.out.k0;have e2:w2.cell? ⟨k0,8,none⟩=some (.slice (some ⟨w.heap.size,0,none⟩) i n):=(hw.cells 8 (by omega)).trans ab;have hlt2:=hd.ls.lt;refine ⟨e2,fun X=>(yt hw (dA HR.out.own fun g _ hg=>s.block g hg) (by omega) (by omega)).alloc X,fun w3 X F=>?_⟩;have hk3:w3.heap[k0]?=w2.heap[k0]?:=by
     rw [F.block k0 (by simp;omega) (fun e=>by have:=oJ e;omega),bA _ _ _ hlt2]
    exact ⟨(cB (a:=⟨k0,8,none⟩) hk3).trans e2,(fB (a:=⟨k0,8,none⟩) hk3).trans (hd.ls.frozen 8)⟩
   have bs:Hid (W1=wr.alloc (.cells #[.int .i64 m,.string key,.string body,.string d,.string p,.int .i64 J,.int .i64 B] 31)):=Q;have W1c:∀j,W1.drew.cell? ⟨wr.heap.size,j,none⟩=(#[.int .i64 m,.string key,.string body,.string d,.string p,.int .i64 J,.int .i64 B]:Array Wx)[j]?:=fun j=>by rw [Q];exact qq wr _ _ j
   have q0:=W1c 0;have q1:=W1c 1;have q2:=W1c 2;have q3:=W1c 3;have q4:=W1c 4;have q5:=W1c 5;have q6:=W1c 6;have a9:Hid (∀ (args:Array Wx) (wx:Wj),(callFunc 33 args).run Yq.prog wx=.ok (.enter 33 args) wx):=fun args wx=>by go_simp
   have k8n:=HR.out.c8;clear W1c Q hb D E HAN hk1 hk2 M L ho s;simp only [gA,gZ,gS] at q0 q1 q2 q3 q4 q5 q6
   go_upto_region 5 with fail
   rw [<-bs.out]
   go_region_law (first
    |(refine ee rfl 33 #[.tmp 3,.tmp 19] #[65,31] rfl #[.pointer (some ⟨k0,0,none⟩),.agg #[.int .i64 m,.string key,.string body,.string d,.string p,.int .i64 J,.int .i64 B]] (by simp [Act.eval]) (a9.out _ _) _ _ bi.out (by intro ch w' hs;exact ⟨rfl,bk.out _ _ hs⟩) ?_;rintro v w2 ⟨I,T,sc,rfl,hp⟩;obtain ⟨bw,o8,f8⟩:=bp.out w2 _ hp;have k8d:(w2.alloc (.cells #[.int .i64 code,.int .i64 ver,.string c,.slice I T sc,.string q] 36)).cell? ⟨k0,8,none⟩=some (.slice (some ⟨w.heap.size,0,none⟩) i n):=aw bw _;have bo:Hid (dv A (k0+1) k0 W1.drew R L' ⟨code,ver,c,its,q⟩ (.returned (qH ⟨code,ver,c,its,q⟩ (.slice I T sc))) w2):=hp;have bl:Hid (∀X:Obj,(w2.alloc X).ownsRow w.heap.size 36 5 (.slice (some ⟨w.heap.size,0,none⟩) i n) i (aZ zs)):=o8;have b0:Hid (∀ (w3:Wj) (X:Obj),(w2.alloc X).grownBy w3 (some w.heap.size)->w3.cell? ⟨k0,8,none⟩=some (.slice (some ⟨w.heap.size,0,none⟩) i n)/\w3.frozen? ⟨k0,8,none⟩=false):=f8;clear hp o8 f8)
    |(refine mr rfl (.tmp 18) (.tmp 21) 27 rfl w.heap.size 36 i0 5 (Yq.u Tryz.underlying27) a8 a0 w.heap.size i n (aZ zs) (by simp [Act.eval]) (bl.out _) ⟨w2.heap.size,0,none⟩ 1 1 [.int .i64 code,.int .i64 ver,.string c,.slice I T sc,.string q] (by simp [Act.eval]) rfl (oU _ _ _ _ _ _ _) (by intro u hu;simp at hu;rcases hu with rfl|rfl|rfl|rfl|rfl<;>rfl) (by omega) ?_;intro w3 ho3 F;obtain ⟨bq,f8c⟩:=b0.out _ _ F;have ar:Hid (w3.ownsRow w.heap.size 36 5 (.slice (some ⟨w.heap.size,0,none⟩) (i+1) n) (i+1) (aZ zs++[.int .i64 code,.int .i64 ver,.string c,.slice I T sc,.string q])/\(w2.alloc (.cells #[.int .i64 code,.int .i64 ver,.string c,.slice I T sc,.string q] 36)).grownBy w3 (some w.heap.size)):=⟨ho3,F⟩;clear ho3 F))
   all_goals
    go_wp2;obtain ⟨A',zs',hI'⟩:=Y.out w2 w3 _ _ bo.out ar.out.1 ar.out.2 bq;exact ⟨⟨i+1,A',zs',by omega,by go_num,hI'⟩,by simp [intOf];omega⟩
  .have bv:i=n:=by omega
   subst bv;have HT:Hid (ops.take i=ops):=tO (by rw [HN.out];exact lR _);have c8:=HR.out.c8;go_wp2;refine bn.out _ _ ⟨A,zs,by rw [HN.out];rfl,?_,?_,HR.out.rows,HR.out.above,HR.out.left⟩
   .have:=HR.out.al;rw [HT.out] at this;exact this
   .rw [HN.out];exact HR.out.own
theorem DA (Qok:Qy->Prop)(K:OpD->Prop)(G:Wj->Prop)(N:Nat)(a:jZ Qok K G N)(b off cap:Nat)(ops:List OpD)(w:Wj)(f:∀w',au w w'->G w')(hS:gz w b off ops)(hz:Sized ops)(hn:ops.length<=N)(i:N<2199023255300)(c:∀o∈ops,jY Qok o)(hkk:∀o∈ops,K o):
  Calls Yq.prog 18 #[.slice (some ⟨b,off,none⟩) ops.length cap] w fun e w'=>uN ops w e w'\/Stop Qok e w':=
 (Ba Qok K G N a b off cap ops w f hS hz hn i (fun o ho=>(c o ho).e) hkk).mono fun _ _ h=>h.imp (fun h=>h.d fun o ho=>(c o ho).k12) id
end
section
open Go.RowKit
end
section
open Go.Conc Go.ConcX Go.ConcX.Gen Go.RowKit
theorem DC (Qok:Qy->Prop)(K:OpD->Prop)(G:Wj->Prop)(N:Nat)(c:jZ Qok K G N)(v:Wx)(ops:List OpD)(w:Wj)(f:∀w',au w w'->G w')(h:gB w v ops)(hne:ops≠[])(hn:ops.length<=N)(i:N<2199023255300)(d:∀o∈ops,jY Qok o)(hkk:∀o∈ops,K o):
  Calls Yq.prog 18 #[v] w fun e w'=>uN ops w e w'\/Stop Qok e w':=by
 obtain ⟨a,cap,rfl,hx⟩:=h.form;obtain ⟨b,off,rfl,hS⟩:=hx hne;exact DA Qok K G N c b off cap ops w f hS h.sized hn i d hkk
theorem gB.left {w w':Wj}{v:Wx}{ops:List OpD}(h:gB w v ops)(hl:au w w'):gB w' v ops:=by
 obtain ⟨a,cap,rfl,hx⟩:=h.form;refine ⟨⟨a,cap,rfl,fun hne=>?_⟩,h.sized,h.len⟩;obtain ⟨b,off,rfl,hS⟩:=hx hne;refine ⟨b,off,rfl,fun i c=>?_⟩;obtain ⟨c0,c1,c2,c3,c4,c5,c6⟩:=hS i c;exact ⟨hl.cell c0,hl.cell c1,hl.cell c2,hl.cell c3,hl.cell c4,hl.cell c5,hl.cell c6⟩
def yu (_:Qy):Prop:=True
end
