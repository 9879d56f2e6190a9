/- Part of a proof. -/
import Derived.Test.YtnapepbdohidgaaGreatDoorQM35
import Derived.Deep.RegionLaw
import Derived.Laws.AppendOwnNone
import Derived.Deep.DeepCutAuto
import Derived.Deep.QuietTactic
import Derived.BigQuiet
namespace Go.Proofs.YtnapepbdohidgaaGreatDoorQ
open Go
open Go.Conc Go.ConcX Go.ConcX.Gen Go.RowKit
theorem stepD_put (d : Dk) (key body : ByteArray) (hk : isKeyB key=true) (hb : body.size≤100) (hc : d.st.count < 200) : stepD d ⟨1,key,body,noB,noB,0,0⟩=⟨addSt d.st key body false,d.L,d.al++[⟨0,d.st.last+1,⟨#[]⟩,[],⟨#[]⟩⟩]⟩:=by
  have h1 : ¬100 < body.size:=by omega
  have h2 : ¬200≤d.st.count:=by omega
  simp [stepD,stepA,stepSt,hk,h1,h2]
theorem stepD_drop (d : Dk) (key : ByteArray) (hk : isKeyB key=true) (hc : d.st.count < 200) : stepD d ⟨4,key,noB,noB,noB,0,0⟩=⟨addSt d.st key ⟨#[]⟩ true,d.L,d.al++[⟨0,d.st.last+1,⟨#[]⟩,[],⟨#[]⟩⟩]⟩:=by
  have h2 : ¬200≤d.st.count:=by omega
  simp [stepD,stepA,stepSt,hk,h2]
theorem stepD_list (d : Dk) : stepD d ⟨6,noB,noB,noB,noB,1,0⟩=⟨d.st,(begR d.L d.st.f qAll 1).1,d.al++[pgAns (begR d.L d.st.f qAll 1)]⟩:=by
  simp [stepD,stepA,qAll,noB]
theorem stepD_next (d : Dk) (body : ByteArray) (src : Int) : stepD d ⟨8,noB,body,noB,noB,0,src⟩=⟨d.st,(nextR d.L (tokenR d.toks src body)).1,d.al++[pgAns (nextR d.L (tokenR d.toks src body))]⟩:=by
  simp [stepD,stepA]
theorem stepD_tick (d : Dk) (u : Int) : stepD d ⟨9,noB,noB,noB,noB,u,0⟩=⟨d.st,(tickR d.L u).1,d.al++[⟨(tickR d.L u).2,0,⟨#[]⟩,[],⟨#[]⟩⟩]⟩:=by
  simp [stepD,stepA]
theorem stepD_stats (d : Dk) : stepD d ⟨10,noB,noB,noB,noB,0,0⟩=⟨d.st,d.L,d.al++[⟨0,d.st.count,⟨#[]⟩,d.L.opened.map leaseI,⟨#[]⟩⟩]⟩:=by
  simp [stepD,stepA]
theorem nextR_at {L : Lg} {tok : ByteArray} {n pg : Int} {i : Nat} {x : LsA} (h1 : tFind tok L.told=some (n,pg)) (h2 : numAt n L.opened=some i) (h3 : L.opened[i]?=some x) : nextR L tok=(⟨L.opened.set i (x.again 10),L.begun,if x.tok pg=⟨#[]⟩ then L.told else tPut (x.tok pg) (n,pg+1) L.told⟩,x.page pg,x.tok pg,0):=by
  unfold nextR
  rw [h1]
  simp only [h2,h3]
theorem nextR_none {L : Lg} {tok : ByteArray} (h1 : tFind tok L.told=none) : nextR L tok=(L,[],⟨#[]⟩,9):=by
  unfold nextR
  rw [h1]
theorem nextR_gone {L : Lg} {tok : ByteArray} {n pg : Int} (h1 : tFind tok L.told=some (n,pg)) (h2 : numAt n L.opened=none) : nextR L tok=(L,[],⟨#[]⟩,10):=by
  unfold nextR
  rw [h1]
  simp only [h2]
theorem tokenR_at {toks : List ByteArray} {k : Nat} {t : ByteArray} (h : toks[k]?=some t) (ht : t≠⟨#[]⟩) (body : ByteArray) : tokenR toks k body=t:=by
  have hk : k < toks.length:=(List.getElem?_eq_some_iff.1 h).1
  unfold tokenR
  rw [if_pos ⟨by omega,by omega⟩,Int.toNat_natCast,h,Option.getD_some,if_neg ht]
theorem pg_items : itemsOf qAll (fromL (addSt (addSt st0 sB ⟨#[120]⟩ false) sA ⟨#[121]⟩ false).f [])=[⟨1,sA,2⟩,⟨1,sB,1⟩]:=by
  have hf : fromL (addSt (addSt st0 sB ⟨#[120]⟩ false) sA ⟨#[121]⟩ false).f []=[([97],[⟨2,⟨#[121]⟩,false⟩]),([98],[⟨1,⟨#[120]⟩,false⟩])]:=by
    show walkL (39+2) _ []=_
    rw [walk_row 39 _ [] [(97,⟨2,⟨#[121]⟩,false⟩),(98,⟨1,⟨#[120]⟩,false⟩)] (by simp)]
    · rfl
    · simp [addSt,upd,st0,sA,sB]
    · intro x hx
      simp at hx
      rcases hx with rfl | rfl <;> simp [addSt,upd,st0,sA,sB]
    · intro c hc k
      have h1 : c≠97:=fun e=>hc ⟨2,⟨#[121]⟩,false⟩ (by rw [e]; simp)
      have h2 : c≠98:=fun e=>hc ⟨1,⟨#[120]⟩,false⟩ (by rw [e]; simp)
      simp [addSt,upd,st0,sA,sB,h1,h2]
  rw [hf,items_plain]
  · rfl
  · intro x hx
    simp at hx
    rcases hx with rfl | rfl <;> exact want_cons _ _ _ rfl
theorem paging_as : ∃ a0 a1 a2 a3 a4 a5 : AnsL,(runD pagOps).al=[a0,a1,a2,a3,a4,a5]∧a2.tok≠⟨#[]⟩∧a4.items=[⟨1,sB,1⟩]∧a4.code=0∧a4.tok=⟨#[]⟩∧a5.code=9:=by
  obtain ⟨s,hs⟩ : ∃ s,s=addSt (addSt st0 sB ⟨#[120]⟩ false) sA ⟨#[121]⟩ false:=⟨_,rfl⟩
  have hits:=pg_items
  rw [←hs] at hits
  have hcnt : s.count=2:=by rw [hs]; rfl
  have kB : isKeyB sB=true:=by decide
  have kA : isKeyB sA=true:=by decide
  unfold pagOps runD
  simp only [List.foldl_cons,List.foldl_nil]
  rw [stepD_put dk0 sB _ kB (by decide) (by decide),stepD_put _ sA _ kA (by decide) (by decide),stepD_list]
  simp only [dk0,List.nil_append]
  rw [←hs,begR_one _ s.f (by rw [hits]; simp)]
  simp only [List.length_nil,pgAns]
  rw [if_neg (by omega),stepD_drop _ sB kB (by simp [hcnt]),stepD_next _ noB 2]
  simp only [List.nil_append,Int.zero_add,tPut,Dk.toks]
  rw [show (2 : Int)=((2 : Nat) : Int) from rfl,tokenR_at (t:=tokOf 1 2) (by rfl) (tokOf_ne _ _)]
  rw [nextR_at (n:=1) (pg:=2) (i:=0) (x:=⟨1,s.f,qAll,1,10⟩) (by simp [tFind]) (by simp [numAt]) (by rfl)]
  have ht : (⟨1,s.f,qAll,1,10⟩ : LsA).tok 2=⟨#[]⟩:=by
    rw [tok_next _ rfl rfl 2 (by omega)]
    simp [hits]
  have hp : (⟨1,s.f,qAll,1,10⟩ : LsA).page 2=[⟨1,sB,1⟩]:=by
    have hq' : qAll.p.data.toList=[]:=rfl
    simp only [LsA.page,hq',hits]
    rfl
  simp only [pgAns,ht,hp,if_true]
  rw [stepD_next _ _ (-1)]
  rw [nextR_none (by
    have e : ∀ toks,tokenR toks (-1) ⟨#[110,111,110,101]⟩=⟨#[110,111,110,101]⟩:=fun toks=>by unfold tokenR; rw [if_neg (by omega)]
    rw [e]
    simp only [tFind]
    rw [if_neg (by have:=tok12; intro e; rw [show ((2 : Nat) : Int)=2 from rfl,tok12] at e; revert e; decide)])]
  exact ⟨_,_,_,_,_,_,rfl,tokOf_ne _ _,rfl,rfl,rfl,rfl⟩
def putOp (i : Nat) : OpD:=⟨1,⟨#[107,UInt8.ofNat (97+i)]⟩,noB,noB,noB,0,0⟩
def puts (k : Nat) : List OpD:=(List.range k).map putOp
def kf (k : Nat) : List UInt8→List Ver
  | [a,b]=>if a=107∧97≤b.toNat∧b.toNat < 97+k then [⟨((b.toNat - 96 : Nat) : Int),⟨#[]⟩,false⟩] else []
  | _=>[]
theorem kf_add (k : Nat) (hk : k≤12) : addSt ⟨kf k,k,k⟩ ⟨#[107,UInt8.ofNat (97+k)]⟩ noB false=⟨kf (k+1),(k+1 : Nat),(k+1 : Nat)⟩:=by
  have hu : (UInt8.ofNat (97+k)).toNat=97+k:=by simp; omega
  simp only [addSt,St.mk.injEq]
  refine ⟨funext fun key=>?_,by omega,by omega⟩
  unfold upd
  split
  · rename_i e
    subst e
    simp only [kf,hu,noB]
    rw [if_neg (by omega),if_pos ⟨trivial,by omega,by omega⟩]
    simp only [List.nil_append]
    congr 2
    omega
  · rename_i hne
    unfold kf
    split
    · rename_i a b
      by_cases ha : a=107
      · subst ha
        have hb : b.toNat≠97+k:=fun e=>hne (by
          simp only [List.cons.injEq,true_and,and_true]
          apply UInt8.toNat_inj.1
          rw [hu,e])
        by_cases h2 : 97≤b.toNat∧b.toNat < 97+k
        · rw [if_pos ⟨rfl,h2.1,h2.2⟩,if_pos ⟨rfl,h2.1,by omega⟩]
        · rw [if_neg (fun h=>h2 h.2),if_neg (fun h=>h2 ⟨h.2.1,by omega⟩)]
      · rw [if_neg (fun h=>ha h.1),if_neg (fun h=>ha h.1)]
    · rfl
theorem puts_run : ∀ (k : Nat),k≤13→runD (puts k)=⟨⟨kf k,k,k⟩,⟨[],0,[]⟩,(List.range k).map fun (i : Nat)=>(⟨0,(i : Int)+1,⟨#[]⟩,[],⟨#[]⟩⟩ : AnsL)⟩
  | 0,_=>by
    have e : kf 0=fun _=>[]:=funext fun key=>by
      unfold kf
      split
      · rw [if_neg (by omega)]
      · rfl
    simp [puts,runD,dk0,st0,e]
  | k+1,h=>by
    have ih:=puts_run k (by omega)
    rw [puts,List.range_succ,List.map_append,List.map_cons,List.map_nil,runD_snoc]
    rw [puts] at ih
    rw [ih]
    unfold putOp
    rw [stepD_put _ _ _ (by rfl) (by decide) (by simp only; omega)]
    simp only
    rw [kf_add k (by omega)]
    simp
theorem kf_items (k : Nat) (hk : k≤12) : (itemsOf qAll (fromL (kf k) [])).length=k:=by
  have hu : ∀ i,i < k→(UInt8.ofNat (97+i)).toNat=97+i:=fun i hi=>by simp; omega
  have hf : fromL (kf k) []=((List.range k).map fun i=>(UInt8.ofNat (97+i),(⟨((i+1 : Nat) : Int),⟨#[]⟩,false⟩ : Ver))).map fun x=>([107]++[x.1],[x.2]):=by
    show walkL (40+1) (kf k) []=_
    rw [walk_at 40 (kf k) [] 107 rfl (fun c hc x=>?_)]
    · show walkL (38+2) _ [107]=_
      rw [walk_row 38 (fun x=>kf k (107 :: x)) [107] ((List.range k).map fun i=>(UInt8.ofNat (97+i),(⟨((i+1 : Nat) : Int),⟨#[]⟩,false⟩ : Ver)))]
      · rw [List.pairwise_map]
        refine List.pairwise_lt_range.imp_of_mem fun ha hb h=>?_
        have h1:=hu _ (List.mem_range.1 ha)
        have h2:=hu _ (List.mem_range.1 hb)
        rw [UInt8.lt_iff_toNat_lt,h1,h2]
        omega
      · rfl
      · intro x hx
        obtain ⟨i,hi,rfl⟩:=List.mem_map.1 hx
        have h1:=hu i (List.mem_range.1 hi)
        have:=List.mem_range.1 hi
        refine ⟨?_,fun c k=>rfl⟩
        simp only [kf,h1]
        rw [if_pos ⟨trivial,by omega,by omega⟩]
        congr 2
        omega
      · intro c hc x
        show kf k (107 :: c :: x)=[]
        cases x with
        | nil=>
          simp only [kf]
          rw [if_neg]
          rintro ⟨-,h1,h2⟩
          refine hc ⟨((c.toNat - 97+1 : Nat) : Int),⟨#[]⟩,false⟩ (List.mem_map.2 ⟨c.toNat - 97,List.mem_range.2 (by omega),?_⟩)
          have e : UInt8.ofNat (97+(c.toNat - 97))=c:=by
            apply UInt8.toNat_inj.1
            rw [hu _ (by omega)]
            omega
          rw [e]
        | cons y r=>rfl
    · cases x with
      | nil=>rfl
      | cons y r=>
        cases r with
        | nil=>simp only [kf]; rw [if_neg (fun h=>hc h.1)]
        | cons z r=>rfl
  rw [items_plain]
  · rw [hf]; simp
  · intro x hx
    rw [hf] at hx
    obtain ⟨y,hy,rfl⟩:=List.mem_map.1 hx
    obtain ⟨i,-,rfl⟩:=List.mem_map.1 hy
    exact want_cons _ _ _ rfl
def listOp : OpD:=⟨6,noB,noB,noB,noB,1,0⟩
def lsHead (k : Nat) (x y : Int) : List OpD:=[listOp,⟨9,noB,noB,noB,noB,x,0⟩,⟨8,noB,noB,noB,noB,0,k⟩,⟨9,noB,noB,noB,noB,y,0⟩,⟨8,noB,noB,noB,noB,0,k⟩]
def lsEnd : List OpD:=[listOp,listOp,listOp,listOp,⟨10,noB,noB,noB,noB,0,0⟩]
def lsOps (k : Nat) (x y : Int) : List OpD:=puts k++(lsHead k x y++lsEnd)
structure GoodL (a : AnsL) : Prop where
  code : a.code=0
  tok : a.tok≠⟨#[]⟩
theorem goodL {c v : Int} {b : ByteArray} {l : List ItD} {n pg : Int} (hc : c=0) : GoodL ⟨c,v,b,l,tokOf n pg⟩:=⟨hc,tokOf_ne _ _⟩
theorem ls_end0 (d : Dk) (hlen : 1 < (itemsOf qAll (fromL d.st.f [])).length) (ho : d.L.opened=[]) : ∃ a5 a6 a7 a8 a9 : AnsL,(lsEnd.foldl stepD d).al=d.al++[a5,a6,a7,a8,a9]∧GoodL a5∧GoodL a6∧GoodL a7∧a8.code=8∧a9.ver=d.st.count∧∃ i0 i1 i2,a9.items=[i0,i1,i2]∧i0.ver=10:=by
  obtain ⟨st,⟨op,bg,td⟩,al⟩:=d
  simp only at ho hlen
  subst ho
  have hb:=fun L=>begR_one L st.f hlen
  unfold lsEnd listOp
  simp only [List.foldl_cons,List.foldl_nil,stepD_list,stepD_stats,hb,List.length_nil,List.length_cons,pgAns,List.nil_append,List.cons_append,Nat.zero_add,show ¬(3≤0) by omega,show ¬(3≤0+1) by omega,show ¬(3≤1+1) by omega,show (3≤1+1+1) by omega,if_false,if_true,List.append_assoc]
  exact ⟨_,_,_,_,_,rfl,goodL rfl,goodL rfl,goodL rfl,rfl,rfl,_,_,_,rfl,rfl⟩
theorem ls_end1 (d : Dk) (hlen : 1 < (itemsOf qAll (fromL d.st.f [])).length) (x : LsA) (ho : d.L.opened=[x]) (hx : x.left=10) : ∃ a5 a6 a7 a8 a9 : AnsL,(lsEnd.foldl stepD d).al=d.al++[a5,a6,a7,a8,a9]∧GoodL a5∧GoodL a6∧a7.code=8∧a8.code=8∧a9.ver=d.st.count∧∃ i0 i1 i2,a9.items=[i0,i1,i2]∧i0.ver=10:=by
  obtain ⟨st,⟨op,bg,td⟩,al⟩:=d
  simp only at ho hlen
  subst ho
  have hb:=fun L=>begR_one L st.f hlen
  unfold lsEnd listOp
  simp only [List.foldl_cons,List.foldl_nil,stepD_list,stepD_stats,hb,List.length_nil,List.length_cons,pgAns,List.nil_append,List.cons_append,Nat.zero_add,show ¬(3≤1) by omega,show ¬(3≤1+1) by omega,show (3≤1+1+1) by omega,if_false,if_true,List.append_assoc]
  exact ⟨_,_,_,_,_,rfl,goodL rfl,goodL rfl,rfl,rfl,rfl,_,_,_,rfl,hx⟩
theorem tick_one (X : LsA) (b : Int) (T : Told) (u : Int) (hu : 0≤u∧u < 13) (hl : X.left=10) : tickR ⟨[X],b,T⟩ u=(⟨if u < 10 then [X.again (10 - u)] else [],b,T⟩,0):=by
  rw [tickR,if_neg (by omega)]
  simp only [passR,List.map_cons,List.map_nil,hl]
  by_cases h : u < 10
  · rw [if_pos h,List.filter_cons_of_pos (by show (!decide (10 - u≤0))=true; rw [decide_eq_false (by omega)]; rfl)]
    rfl
  · rw [if_neg h,List.filter_cons_of_neg (by show ¬(!decide (10 - u≤0))=true; rw [decide_eq_true (by omega)]; decide)]
    rfl
theorem tick_none (b : Int) (T : Told) (u : Int) (hu : 0≤u∧u < 13) : tickR ⟨[],b,T⟩ u=(⟨[],b,T⟩,0):=by
  rw [tickR,if_neg (by omega)]
  rfl
theorem ls_head (k : Nat) (h3 : 3≤k) (st : St) (hlen : (itemsOf qAll (fromL st.f [])).length=k) (al : List AnsL) (has : al.length=k) (x y : Int) (hx : 0≤x∧x < 13) (hy : 0≤y∧y < 13) :
    ∃ (a0 a1 a2 a3 a4 : AnsL) (L : Lg),(lsHead k x y).foldl stepD ⟨st,⟨[],0,[]⟩,al⟩=⟨st,L,al++[a0,a1,a2,a3,a4]⟩∧a0.code=0∧a2.code=(if x < 10 then 0 else 10)∧a4.code=(if x < 10∧y < 10 then 0 else 10)∧(if x < 10∧y < 10 then ∃ X : LsA,L.opened=[X]∧X.left=10 else L.opened=[]):=by
  obtain ⟨X,hX⟩ : ∃ X : Int→LsA,X=fun l=>⟨1,st.f,qAll,1,l⟩:=⟨_,rfl⟩
  have hag : ∀ l m,(X l).again m=X m:=fun l m=>by rw [hX]; rfl
  have hXl : ∀ l,(X l).left=l:=fun l=>by rw [hX]
  have ht2 : ∀ l,(X l).tok 2=tokOf 1 3:=fun l=>by
    rw [hX,tok_next _ rfl rfl 2 (by omega)]
    simp only [hlen]
    rw [if_pos (by omega)]
    rfl
  have hnum : ∀ l,numAt 1 [X l]=some 0:=fun l=>by simp [hX,numAt]
  have hget : ∀ l,[X l][0]?=some (X l):=fun l=>rfl
  have hne:=tokOf_ne 1 3
  have h1 : stepD ⟨st,⟨[],0,[]⟩,al⟩ listOp=⟨st,⟨[X 10],1,[(tokOf 1 2,(1,2))]⟩,al++[⟨0,0,⟨#[]⟩,(X 10).page 1,tokOf 1 2⟩]⟩:=by
    unfold listOp
    rw [stepD_list,begR_one _ _ (by show 1 < (itemsOf qAll (fromL st.f [])).length; omega),hX]
    simp [pgAns,tPut]
  have htok : ∀ r : List AnsL,tokenR (Dk.toks ⟨st,⟨[],0,[]⟩,al++(⟨0,0,⟨#[]⟩,(X 10).page 1,tokOf 1 2⟩ :: r)⟩) k noB=tokOf 1 2:=fun r=>by
    refine tokenR_at ?_ (tokOf_ne _ _) _
    rw [Dk.toks,List.getElem?_map,List.getElem?_append_right (by omega),has,Nat.sub_self]
    rfl
  have htk : ∀ (L : Lg) (r : List AnsL),tokenR (Dk.toks ⟨st,L,al++(⟨0,0,⟨#[]⟩,(X 10).page 1,tokOf 1 2⟩ :: r)⟩) k noB=tokOf 1 2:=fun L r=>htok r
  have hf1 : tFind (tokOf 1 2) [(tokOf 1 2,((1 : Int),(2 : Int)))]=some (1,2):=by simp [tFind]
  unfold lsHead
  rw [List.foldl_cons,h1,List.foldl_cons,stepD_tick,tick_one _ _ _ x hx (hXl _)]
  simp only [hag,List.append_assoc,List.cons_append,List.nil_append]
  by_cases hx1 : x < 10
  · simp only [if_pos hx1]
    rw [List.foldl_cons,stepD_next,htk,nextR_at hf1 (hnum _) (hget _),ht2,if_neg hne]
    simp only [List.set_cons_zero,hag,pgAns,List.append_assoc,List.cons_append,List.nil_append]
    have hf2 : tFind (tokOf 1 2) (tPut (tokOf 1 3) (1,2+1) [(tokOf 1 2,(1,2))])=some (1,2):=by rw [tFind_tPut,if_neg tok12_13]; exact hf1
    rw [List.foldl_cons,stepD_tick,tick_one _ _ _ y hy (hXl _)]
    simp only [hag,List.append_assoc,List.cons_append,List.nil_append]
    by_cases hy1 : y < 10
    · simp only [if_pos hy1]
      rw [List.foldl_cons,stepD_next,htk,nextR_at hf2 (hnum _) (hget _),ht2,if_neg hne]
      simp only [List.set_cons_zero,hag,pgAns,List.append_assoc,List.cons_append,List.nil_append]
      rw [List.foldl_nil]
      exact ⟨_,_,_,_,_,_,rfl,rfl,rfl,(if_pos ⟨hx1,hy1⟩).symm,by rw [if_pos ⟨hx1,hy1⟩]; exact ⟨_,rfl,hXl _⟩⟩
    · simp only [if_neg hy1]
      rw [List.foldl_cons,stepD_next,htk,nextR_gone hf2 (by rfl)]
      simp only [pgAns,List.append_assoc,List.cons_append,List.nil_append]
      rw [List.foldl_nil]
      exact ⟨_,_,_,_,_,_,rfl,rfl,rfl,(if_neg (fun h=>hy1 h.2)).symm,by rw [if_neg (fun h=>hy1 h.2)]⟩
  · simp only [if_neg hx1]
    rw [List.foldl_cons,stepD_next,htk,nextR_gone hf1 (by rfl)]
    simp only [pgAns,List.append_assoc,List.cons_append,List.nil_append]
    rw [List.foldl_cons,stepD_tick,tick_none _ _ y hy]
    simp only [List.append_assoc,List.cons_append,List.nil_append]
    rw [List.foldl_cons,stepD_next,htk,nextR_gone hf1 (by rfl)]
    simp only [pgAns,List.append_assoc,List.cons_append,List.nil_append]
    rw [List.foldl_nil]
    exact ⟨_,_,_,_,_,_,rfl,rfl,rfl,(if_neg (fun h=>hx1 h.1)).symm,by rw [if_neg (fun h=>hx1 h.1)]⟩
theorem leased_as (k : Nat) (h3 : 3≤k) (h12 : k≤12) (x y : Int) (hx : 0≤x∧x < 13) (hy : 0≤y∧y < 13) :
    ∃ (pre : List AnsL) (a0 a1 a2 a3 a4 a5 a6 a7 a8 a9 : AnsL),pre.length=k∧(runD (lsOps k x y)).al=pre++[a0,a1,a2,a3,a4,a5,a6,a7,a8,a9]∧a0.code=0∧a2.code=(if x < 10 then 0 else 10)∧a4.code=(if x < 10∧y < 10 then 0 else 10)∧GoodL a5∧GoodL a6∧(if x < 10∧y < 10 then a7.code=8 else GoodL a7)∧a8.code=8∧a9.ver=k∧∃ i0 i1 i2,a9.items=[i0,i1,i2]∧i0.ver=10:=by
  have hit:=kf_items k h12
  have hp:=puts_run k (by omega)
  unfold runD at hp
  obtain ⟨pre,hpre⟩ : ∃ pre : List AnsL,pre=(List.range k).map fun (i : Nat)=>(⟨0,(i : Int)+1,⟨#[]⟩,[],⟨#[]⟩⟩ : AnsL):=⟨_,rfl⟩
  have hlen : pre.length=k:=by rw [hpre]; simp
  rw [←hpre] at hp
  unfold runD lsOps
  rw [List.foldl_append,hp,List.foldl_append]
  obtain ⟨a0,a1,a2,a3,a4,L,e,c0,c2,c4,hL⟩:=ls_head k h3 ⟨kf k,k,k⟩ hit pre hlen x y hx hy
  rw [e]
  by_cases hxy : x < 10∧y < 10
  · rw [if_pos hxy] at hL
    obtain ⟨X,hL,hXl⟩:=hL
    obtain ⟨a5,a6,a7,a8,a9,e2,g5,g6,c7,c8,v9,i9⟩:=ls_end1 ⟨⟨kf k,k,k⟩,L,pre++[a0,a1,a2,a3,a4]⟩ (by simp only; omega) X hL hXl
    exact ⟨pre,a0,a1,a2,a3,a4,a5,a6,a7,a8,a9,hlen,by rw [e2]; simp,c0,c2,c4,g5,g6,by rw [if_pos hxy]; exact c7,c8,v9,i9⟩
  · rw [if_neg hxy] at hL
    obtain ⟨a5,a6,a7,a8,a9,e2,g5,g6,c7,c8,v9,i9⟩:=ls_end0 ⟨⟨kf k,k,k⟩,L,pre++[a0,a1,a2,a3,a4]⟩ (by simp only; omega) hL
    exact ⟨pre,a0,a1,a2,a3,a4,a5,a6,a7,a8,a9,hlen,by rw [e2]; simp,c0,c2,c4,g5,g6,by rw [if_neg hxy]; exact c7,c8,v9,i9⟩
end Go.Proofs.YtnapepbdohidgaaGreatDoorQ
namespace Go.Proofs.YtnapepbdohidgaaGreatDoorQ
open Go.RowKit
theorem step_append_fits {P : Program} {ops : Array Oper} {o : Oper} {a : Act} {w : World} {K : Act→World→Prop} {Q : Exit→Act→World→Prop} {E : Prop}
    (hg : o.guard=none) (s x : Operand) (t : TypeId) (hop : o.op=Op.call { callee:=Callee.builtin Builtin.append,args:=#[s,x],argTypes:=#[t,t] })
    (base : Nat) (e : TypeId) (i : TypeInfo) (size : Nat) (h1 : P.underlying t=some (.slice e)) (h2 : P.info? e=some i) (h4 : i.size=size)
    (g k cap : Nat) (xs : List Value) (hs : a.eval s=.slice (some ⟨g,0,none⟩) k cap) (hown : w.ownsRow base e size (.slice (some ⟨g,0,none⟩) k cap) k xs) (ad : Addr) (m c : Nat) (news : List Value) (hx : a.eval x=.slice (some ad) m c) (hn : news.length=m * size)
    (hc : ∀ j u,news[j]?=some u→w.cell? (ad.add j)=some u) (h1c : ∀ u∈news,u.oneCell'=true) (b1 : k+m≤cap)
    (hK : ∀ w',w'.ownsRow base e size (.slice (some ⟨g,0,none⟩) (k+m) cap) (k+m) (xs++news)→w.grownBy w' (some g)→K (a.put o.dst (.slice (some ⟨g,0,none⟩) (k+m) cap)) w') :
    if Region.wanted o (yielded ops a.tmps)=true then Oper.wp P o a w K Q else E:=by
  have hw : Region.wanted o (yielded ops a.tmps)=true:=by simp [Region.wanted,hg]
  rw [if_pos hw]
  obtain ⟨w',hrun,r1,r2⟩:=run_append_fits (P:=P) w base t o.type e i size h1 h2 h4 g k cap xs hown ad m c news hn hc h1c b1
  unfold Oper.wp
  simp [execOp,hop,resolve,invoke,builtin,hs,hx,hrun,Result.andThen]
  exact hK w' r1 r2
theorem cells5_new (w : World) (x0 x1 x2 x3 x4 : Value) (T : TypeId) : ∀ j u,[x0,x1,x2,x3,x4][j]?=some u→(w.alloc (.cells #[x0,x1,x2,x3,x4] T)).cell? ((⟨w.heap.size,0,none⟩ : Addr).add j)=some u:=by
  intro j u hj
  rw [Addr.add_lit,World.cell?_alloc_at (w:=w) _ _ w.heap.size _ rfl]
  simpa using hj
theorem desk_new (w : World) (xs : Array Value) (T : TypeId) (j : Nat) : (w.alloc (.cells xs T)).cell? ⟨w.heap.size,j,none⟩=xs[j]?:=World.cell?_alloc_at (w:=w) _ _ w.heap.size j rfl
structure ScrAt (w : World) (v : Value) (ops : List OpD) : Prop where
  form : ∃ a cap,v=.slice a ops.length cap∧(ops≠[]→∃ b off,a=some ⟨b,off,none⟩∧ScriptAt w b off ops)
  sized : Sized ops
  len : ops.length≤2199023255552
end Go.Proofs.YtnapepbdohidgaaGreatDoorQ
namespace Go.Proofs.YtnapepbdohidgaaGreatDoorQ
open Go
open Go.Conc Go.ConcX Go.ConcX.Gen Go.RowKit
theorem deskW_owns {A : Nat→Prop} {B k0 : Nat} {w w' : World} (h : DeskW A B k0 w w') {base n cap g : Nat} {T : TypeId} {xs : List Value} (ho : w.ownsRow base T 5 (.slice (some ⟨g,0,none⟩) n cap) n xs) (hB : g < B) (hk : g≠k0) : w'.ownsRow base T 5 (.slice (some ⟨g,0,none⟩) n cap) n xs:=
  owns_at ho fun g' hg'=>by
    simp [Value.ownBlock] at hg'
    subst hg'
    exact h.low _ hB (ho.lt _ rfl).2 hk
structure RunI (Qok : Qy→Prop) (ops : List OpD) (n k0 : Nat) (w wr : World) (i : Nat) (A : Nat→Prop) (zs : List (AnsL×Value)) : Prop where
  desk : DeskAt A (k0+1) wr k0 (runD (ops.take i)).st (runD (ops.take i)).L
  above : ∀ b,A b→w.heap.size < b
  c8 : wr.cell? ⟨k0,8,none⟩=some (.slice (some ⟨w.heap.size,0,none⟩) i n)
  own : wr.ownsRow w.heap.size 36 5 (.slice (some ⟨w.heap.size,0,none⟩) i n) i (aCells zs)
  al : zs.map (·.1)=(runD (ops.take i)).al
  rows : RowsAt A wr zs
  left : LeftL w wr
  k0 : w.heap.size < k0
theorem RunI.next {Qok : Qy→Prop} {ops : List OpD} {n k0 i : Nat} {w wr W1 w2 w3 : World} {A : Nat→Prop} {zs : List (AnsL×Value)} (h : RunI Qok ops n k0 w wr i A zs) (hi : i < ops.length) (hl : LeftL wr W1) {sv : Value} {X : Obj} (hp : AnsPost A (k0+1) k0 W1 (stepA (runD (ops.take i)).st (runD (ops.take i)).L (runD (ops.take i)).toks ops[i]).1 (stepA (runD (ops.take i)).st (runD (ops.take i)).L (runD (ops.take i)).toks ops[i]).2.1 (stepA (runD (ops.take i)).st (runD (ops.take i)).L (runD (ops.take i)).toks ops[i]).2.2 (.returned (ansV (stepA (runD (ops.take i)).st (runD (ops.take i)).L (runD (ops.take i)).toks ops[i]).2.2 sv)) w2)
    (ho : w3.ownsRow w.heap.size 36 5 (.slice (some ⟨w.heap.size,0,none⟩) (i+1) n) (i+1) (aCells (zs++[((stepA (runD (ops.take i)).st (runD (ops.take i)).L (runD (ops.take i)).toks ops[i]).2.2,sv)]))) (hg : (w2.alloc X).grownBy w3 (some w.heap.size)) (hfz : w3.cell? ⟨k0,8,none⟩=some (.slice (some ⟨w.heap.size,0,none⟩) i n)) :
    ∃ A',RunI Qok ops n k0 w (w3.setCell ⟨k0,8,none⟩ (.slice (some ⟨w.heap.size,0,none⟩) (i+1) n)) (i+1) A' (zs++[((stepA (runD (ops.take i)).st (runD (ops.take i)).L (runD (ops.take i)).toks ops[i]).2.2,sv)]):=by
  obtain ⟨sv',he,A',a1,a2,hd,hw,hrow⟩:=hp
  have hsv : sv'=sv:=by
    simp [ansV] at he
    exact he.symm
  subst hsv
  have htk : ops.take (i+1)=ops.take i++[ops[i]]:=List.take_succ_eq_append_getElem hi
  have hrd : runD (ops.take (i+1))=stepD (runD (ops.take i)) ops[i]:=by rw [htk,runD_snoc]
  have hk:=h.k0
  have hs0:=h.left.size
  have hs1:=hl.size
  have hs2:=hw.size
  have hs3:=hg.size
  simp at hs3
  have hne : ∀ b,b < w2.heap.size→b≠k0→b≠w.heap.size→(w3.setCell ⟨k0,8,none⟩ (.slice (some ⟨w.heap.size,0,none⟩) (i+1) n)).heap[b]?=w2.heap[b]?:=fun b hb h1 h2=>by
    rw [Below.heap_setCell _ _ _ _ h1,hg.block b (by simp; omega) (fun e=>h2 (Option.some.inj e)),Below.heap_alloc _ _ _ hb]
  have hlk : k0 < w2.heap.size:=hd.ls.lt
  have hk3 : w3.heap[k0]?=w2.heap[k0]?:=by
    rw [hg.block k0 (by simp; omega) (fun e=>by have:=Option.some.inj e; omega),Below.heap_alloc _ _ _ hlk]
  have ha' : ∀ b,A' b→w.heap.size < b:=fun b hb=>by
    rcases a2 b hb with h1 | h1
    · exact h.above b h1
    · have:=h.desk.ls.lt; omega
  have hc : ∀ j,j≠8→(w3.setCell ⟨k0,8,none⟩ (.slice (some ⟨w.heap.size,0,none⟩) (i+1) n)).cell? ⟨k0,j,none⟩=w2.cell? ⟨k0,j,none⟩:=fun j hj=>by
    rw [World.cell?_setCell_other _ _ _ _ (addr_ne (fun e=>hj e.symm))]
    exact World.cell?_of_block (a:=⟨k0,j,none⟩) hk3
  have hf : ∀ j,(w3.setCell ⟨k0,8,none⟩ (.slice (some ⟨w.heap.size,0,none⟩) (i+1) n)).frozen? ⟨k0,j,none⟩=w2.frozen? ⟨k0,j,none⟩:=fun j=>by
    rw [World.frozen?_setCell]
    exact World.frozen?_of_block (a:=⟨k0,j,none⟩) hk3
  refine ⟨A',?_,ha',World.cell?_setCell_same' _ _ _ (by rw [hfz]; rfl),?_,?_,?_,?_,h.k0⟩
  · rw [hrd]
    show DeskAt A' (k0+1) _ k0 (stepA _ _ _ _).1 (stepA _ _ _ _).2.1
    exact hd.apart (g0:=w.heap.size) (by simp; omega) hne (fun hx=>by have:=ha' _ hx; omega) (by omega) (fun j hj=>hc j (by omega)) hf
  · exact owns_at ho fun g hg'=>by
      simp [Value.ownBlock] at hg'
      subst hg'
      exact Below.heap_setCell _ _ _ _ (by show w.heap.size≠k0; omega)
  · rw [hrd,List.map_append,h.al]
    rfl
  · intro z hz
    have hkeep : ∀ {v : Value} {m : Nat} {xs : List Value},RowAt A' w2 v m xs→RowAt A' (w3.setCell ⟨k0,8,none⟩ (.slice (some ⟨w.heap.size,0,none⟩) (i+1) n)) v m xs:=fun hr=>RowAt.keep hr fun b hb hlt=>⟨hb,hne b hlt (fun e=>hd.ls.avoid (e ▸ hb)) (fun e=>by have:=ha' b hb; omega)⟩
    rcases List.mem_append.1 hz with hz | hz
    · refine hkeep (RowAt.keep (h.rows z hz) fun b hb hlt=>⟨a1 b hb,?_⟩)
      rw [hw.tree b hb (by omega),hl.block b hlt]
    · simp only [List.mem_singleton] at hz
      subst hz
      exact hkeep hrow
  · refine ⟨?_,by simp; omega,fun b hb=>?_⟩
    · show w3.os=w.os
      rw [hg.os]
      exact hw.os.trans (hl.os.trans h.left.os)
    · have hkk:=h.desk.ls.lt
      rw [hne b (by omega) (by omega) (by omega),hw.low b (by omega) (by omega) (by omega),hl.block b (by omega),h.left.block b hb]
set_option maxHeartbeats 4000000 in
set_option maxRecDepth 100000 in
theorem run_list (Qok : Qy→Prop) (K : OpD→Prop) (N : Nat) (hAns : AnsAll Qok K N) (b off cap : Nat) (ops : List OpD) (w : World) (hS : ScriptAt w b off ops) (hz : Sized ops) (hn : ops.length≤N) (hN : N < 2199023255540) (hko : ∀ o∈ops,KindOk Qok o) (hkk : ∀ o∈ops,K o) :
    Calls Tryq.prog 18 #[.slice (some ⟨b,off,none⟩) ops.length cap] w fun e w'=>RunPost ops w e w'∨Stop Qok e w':=by
  obtain ⟨i0,hi0,hz0,hz1,hz2⟩:=info_parts Tryq.infoAns
  have HSc : Hid (ScriptAt w b off ops∧Sized ops):=⟨hS,hz⟩
  have HPL : Hid (∀ o∈ops,KindOk Qok o):=hko
  have HAN0 : Hid (AnsAll Qok K N):=hAns
  have HKK : Hid (∀ o∈ops,K o):=hkk
  have HRP : Hid (∀ e w',RunPost ops w e w'↔RunPost ops w e w'):=fun _ _=>Iff.rfl
  obtain ⟨P,hP⟩ : ∃ P : Ending→World→Prop,P=fun e w'=>RunPost ops w e w'∨Stop Qok e w':=⟨_,rfl⟩
  have HP1 : Hid (∀ e w',RunPost ops w e w'→P e w'):=fun e w' h=>by rw [hP]; exact .inl h
  have HP2 : Hid (∀ e w',Stop Qok e w'→P e w'):=fun e w' h=>by rw [hP]; exact .inr h
  rw [←hP]
  obtain ⟨n,hnl⟩ : ∃ n,ops.length=n:=⟨_,rfl⟩
  have HN : Hid (ops.length=n):=hnl
  rw [hnl] at hn ⊢
  clear hS hz hnl hko hAns hP HRP hkk
  go_enter Tryq.func18,Tryz.ntmps18
  go_wp2_with (at_make; refine wpList_make_own _ rfl _ _ 27 rfl w.heap.size 36 i0 _ 5 Tryq.underlying27 hi0 hz0 hz1 _ _ _ n rfl rfl (by omega) ?qb1 ?qb2 ?qb3 ?_)
  case qb1=>rw [hz2]; omega
  case qb2=>simp only [maxLen]; omega
  case qb3=>simp
  intro w1 hown1 hgrow1
  have hlt1 : w.heap.size < w1.heap.size:=(hown1.lt w.heap.size rfl).2
  have b1 : Below w.heap.size w w1:=⟨hgrow1.os,hgrow1.tape,hgrow1.output,hgrow1.size,fun k hk=>hgrow1.block k hk (by simp)⟩
  go_wp2_with fail
  obtain ⟨W0,hW0⟩ : ∃ W0,W0=w1.alloc (.cells #[.pointer none,.int .i64 0,.int .i64 0,.int .u64 0,.slice none 0 0,.int .i64 0,.map none,.slice (some ⟨b,off,none⟩) n cap,.slice (some ⟨w.heap.size,0,none⟩) 0 n] 65):=⟨_,rfl⟩
  have HI0 : Hid (RunI Qok ops n w1.heap.size w W0 0 (fun _=>False) []):=by
    rw [hW0]
    exact ⟨desk_zero,fun _ h=>h.elim,by rw [desk_new]; rfl,hown1.alloc _,rfl,fun z hz=>by simp at hz,(LeftL.below b1).alloc _,hlt1⟩
  rw [←hW0]
  generalize w1.heap.size=k0 at *
  clear b1 hown1 hgrow1 hW0
  go_loopw [5,13] (fun _ s12 wr=>∃ (i : Nat) (A : Nat→Prop) (zs : List (AnsL×Value)),i≤n∧s12=.int .i64 i∧RunI Qok ops n k0 w wr i A zs) (fun _ s12 _=>n - (intOf s12).toNat)
  case atStart=>exact ⟨0,fun _=>False,[],Nat.zero_le _,rfl,HI0.out⟩
  case round=>
    obtain ⟨i,A,zs,hin,rfl,HR0⟩:=hrel
    have HR : Hid (RunI Qok ops n k0 w wr i A zs):=HR0
    clear HR0 HI0
    by_cases hlt : i < n
    · have hlo : i < ops.length:=by rw [HN.out]; exact hlt
      have hb:=HR.out.left
      obtain ⟨c0,c1,c2,c3,c4,c5,c6⟩:=HSc.out.1 i hlo
      replace c0:=hb.cell c0
      replace c1:=hb.cell c1
      replace c2:=hb.cell c2
      replace c3:=hb.cell c3
      replace c4:=hb.cell c4
      replace c5:=hb.cell c5
      replace c6:=hb.cell c6
      obtain ⟨hzk,hzb⟩:=HSc.out.2 ops[i] (List.getElem_mem hlo)
      have hk1:=HPL.out ops[i] (List.getElem_mem hlo)
      have hk2:=HKK.out ops[i] (List.getElem_mem hlo)
      have hID : InvD Qok (runD (ops.take i)) i:=by
        have:=invD_run (Qok:=Qok) (ops.take i) (fun o ho=>⟨HPL.out o (List.mem_of_mem_take ho),(HSc.out.2 o (List.mem_of_mem_take ho)).1⟩)
        rwa [List.length_take,Nat.min_eq_left (by omega)] at this
      have HNX : ∀ (W1 w2 w3 : World) (sv : Value) (X : Obj),LeftL wr W1→AnsPost A (k0+1) k0 W1 (stepA (runD (ops.take i)).st (runD (ops.take i)).L (runD (ops.take i)).toks ops[i]).1 (stepA (runD (ops.take i)).st (runD (ops.take i)).L (runD (ops.take i)).toks ops[i]).2.1 (stepA (runD (ops.take i)).st (runD (ops.take i)).L (runD (ops.take i)).toks ops[i]).2.2 (.returned (ansV (stepA (runD (ops.take i)).st (runD (ops.take i)).L (runD (ops.take i)).toks ops[i]).2.2 sv)) w2→w3.ownsRow w.heap.size 36 5 (.slice (some ⟨w.heap.size,0,none⟩) (i+1) n) (i+1) (aCells (zs++[((stepA (runD (ops.take i)).st (runD (ops.take i)).L (runD (ops.take i)).toks ops[i]).2.2,sv)]))→(w2.alloc X).grownBy w3 (some w.heap.size)→w3.cell? ⟨k0,8,none⟩=some (.slice (some ⟨w.heap.size,0,none⟩) i n)→∃ A' zs',RunI Qok ops n k0 w (w3.setCell ⟨k0,8,none⟩ (.slice (some ⟨w.heap.size,0,none⟩) (i+1) n)) (i+1) A' zs':=
        fun W1 w2 w3 sv X hl hp ho hg hc=>by
          obtain ⟨A',h⟩:=HR.out.next hlo hl hp ho hg hc
          exact ⟨A',_,h⟩
      obtain ⟨o,ho⟩ : ∃ o,o=ops[i]:=⟨_,rfl⟩
      rw [←ho] at HNX c0 c1 c2 c3 c4 c5 c6 hzk hzb hk1 hk2
      obtain ⟨kind,key,body,delim,past,nn,src⟩:=o
      simp only at c0 c1 c2 c3 c4 c5 c6 hzk hzb
      obtain ⟨W1,hW1⟩ : ∃ W1,W1=wr.alloc (.cells #[.int .i64 kind,.string key,.string body,.string delim,.string past,.int .i64 nn,.int .i64 src] 31):=⟨_,rfl⟩
      have hLW : LeftL wr W1.drew:=by rw [hW1]; exact (LeftL.refl.alloc _).drew
      have hkl : k0 < wr.heap.size:=HR.out.desk.ls.lt
      have k8a : W1.drew.cell? ⟨k0,8,none⟩=some (.slice (some ⟨w.heap.size,0,none⟩) i n):=hLW.cell HR.out.c8
      have HAN:=HAN0.out (HR.out.desk.left hLW) (by have:=hLW.size; omega) ⟨kind,key,body,delim,past,nn,src⟩ hk2 hk1 hzk hzb hID.i hID.t hID.l (by omega) w.heap.size n (runD (ops.take i)).toks (by rw [Dk.toks,List.length_map]; exact hID.n) k8a (fun j hj=>hLW.cell (toks_at HR.out.al HR.out.own j hj))
      generalize stepA (runD (ops.take i)).st (runD (ops.take i)).L (runD (ops.take i)).toks ⟨kind,key,body,delim,past,nn,src⟩=sr at HAN HNX
      obtain ⟨st',L',ad⟩:=sr
      obtain ⟨code,ver,abody,its,tok⟩:=ad
      simp only [opVal] at HAN HNX
      have HNX1 : Hid (∀ (w2 w3 : World) (sv : Value) (X : Obj),AnsPost A (k0+1) k0 W1.drew st' L' ⟨code,ver,abody,its,tok⟩ (.returned (ansV ⟨code,ver,abody,its,tok⟩ sv)) w2→w3.ownsRow w.heap.size 36 5 (.slice (some ⟨w.heap.size,0,none⟩) (i+1) n) (i+1) (aCells zs++[.int .i64 code,.int .i64 ver,.string abody,sv,.string tok])→(w2.alloc X).grownBy w3 (some w.heap.size)→w3.cell? ⟨k0,8,none⟩=some (.slice (some ⟨w.heap.size,0,none⟩) i n)→∃ A' zs',RunI Qok ops n k0 w (w3.setCell ⟨k0,8,none⟩ (.slice (some ⟨w.heap.size,0,none⟩) (i+1) n)) (i+1) A' zs'):=
        fun w2 w3 sv X hp ho hg hc=>HNX _ w2 w3 sv X hLW hp (by rw [aCells_snoc]; exact ho) hg hc
      have HCL : Hid (Calls Tryq.prog 33 #[.pointer (some ⟨k0,0,none⟩),.agg #[.int .i64 kind,.string key,.string body,.string delim,.string past,.int .i64 nn,.int .i64 src]] W1.drew fun e w'=>(∃ v,e=.returned v∧∃ so sn sc,v=.agg #[.int .i64 code,.int .i64 ver,.string abody,.slice so sn sc,.string tok]∧AnsPost A (k0+1) k0 W1.drew st' L' ⟨code,ver,abody,its,tok⟩ (.returned (ansV ⟨code,ver,abody,its,tok⟩ (.slice so sn sc))) w')∨∃ ch,e=.panicked ch∧Stop Qok (.panicked ch) w'):=
        HAN.mono fun e w' h=>by
          rcases h with ⟨sv,rfl,A',a1,a2,a3,a4,a5⟩ | hst
          · obtain ⟨so,sc,rfl,a6⟩:=a5
            exact .inl ⟨_,rfl,so,_,sc,rfl,_,rfl,A',a1,a2,a3,a4,so,sc,rfl,a6⟩
          · obtain ⟨x,y,r,rfl,hst⟩:=hst
            exact .inr ⟨_,rfl,x,y,r,rfl,hst⟩
      have HF8 : Hid (∀ w2 sv,AnsPost A (k0+1) k0 W1.drew st' L' ⟨code,ver,abody,its,tok⟩ (.returned (ansV ⟨code,ver,abody,its,tok⟩ sv)) w2→w2.cell? ⟨k0,8,none⟩=some (.slice (some ⟨w.heap.size,0,none⟩) i n)∧(∀ X : Obj,(w2.alloc X).ownsRow w.heap.size 36 5 (.slice (some ⟨w.heap.size,0,none⟩) i n) i (aCells zs))∧∀ (w3 : World) (X : Obj),(w2.alloc X).grownBy w3 (some w.heap.size)→w3.cell? ⟨k0,8,none⟩=some (.slice (some ⟨w.heap.size,0,none⟩) i n)∧w3.frozen? ⟨k0,8,none⟩=false):=fun w2 sv hp=>by
        obtain ⟨_,-,A',-,-,hd,hw,-⟩:=hp
        have hk0:=HR.out.k0
        have e2 : w2.cell? ⟨k0,8,none⟩=some (.slice (some ⟨w.heap.size,0,none⟩) i n):=(hw.cells 8 (by omega)).trans k8a
        have hlt2:=hd.ls.lt
        refine ⟨e2,fun X=>(deskW_owns hw (owns_same HR.out.own fun g _ hg=>hLW.block g hg) (by omega) (by omega)).alloc X,fun w3 X hg3=>?_⟩
        have hk3 : w3.heap[k0]?=w2.heap[k0]?:=by
          rw [hg3.block k0 (by simp; omega) (fun e=>by have:=Option.some.inj e; omega),Below.heap_alloc _ _ _ hlt2]
        exact ⟨(World.cell?_of_block (a:=⟨k0,8,none⟩) hk3).trans e2,(World.frozen?_of_block (a:=⟨k0,8,none⟩) hk3).trans (hd.ls.frozen 8)⟩
      have HW1 : Hid (W1=wr.alloc (.cells #[.int .i64 kind,.string key,.string body,.string delim,.string past,.int .i64 nn,.int .i64 src] 31)):=hW1
      have W1c : ∀ j,W1.drew.cell? ⟨wr.heap.size,j,none⟩=(#[.int .i64 kind,.string key,.string body,.string delim,.string past,.int .i64 nn,.int .i64 src] : Array Value)[j]?:=fun j=>by rw [hW1]; exact desk_new wr _ _ j
      have q0:=W1c 0
      have q1:=W1c 1
      have q2:=W1c 2
      have q3:=W1c 3
      have q4:=W1c 4
      have q5:=W1c 5
      have q6:=W1c 6
      have HEN : Hid (∀ (args : Array Value) (wx : World),(callFunc 33 args).run Tryq.prog wx=.ok (.enter 33 args) wx):=fun args wx=>by go_simp
      have k8n:=HR.out.c8
      clear W1c hW1 hb hID HNX HAN hk1 hk2 hzk hzb ho hLW
      simp only [List.getElem?_toArray,List.getElem?_cons_zero,List.getElem?_cons_succ] at q0 q1 q2 q3 q4 q5 q6
      go_upto_region 5 with fail
      rw [←HW1.out]
      go_region_law (first
        | (refine step_call2 rfl 33 #[.tmp 3,.tmp 19] #[65,31] rfl #[.pointer (some ⟨k0,0,none⟩),.agg #[.int .i64 kind,.string key,.string body,.string delim,.string past,.int .i64 nn,.int .i64 src]] (by simp [Act.eval]) (HEN.out _ _) _ _ HCL.out (by intro ch w' hs; exact ⟨rfl,HP2.out _ _ hs⟩) ?_; rintro v w2 ⟨so,sn,sc,rfl,hp⟩; obtain ⟨k8b,o8,f8⟩:=HF8.out w2 _ hp; have k8d : (w2.alloc (.cells #[.int .i64 code,.int .i64 ver,.string abody,.slice so sn sc,.string tok] 36)).cell? ⟨k0,8,none⟩=some (.slice (some ⟨w.heap.size,0,none⟩) i n):=cell_alloc_ne k8b _; have HX2 : Hid (AnsPost A (k0+1) k0 W1.drew st' L' ⟨code,ver,abody,its,tok⟩ (.returned (ansV ⟨code,ver,abody,its,tok⟩ (.slice so sn sc))) w2):=hp; have HO8 : Hid (∀ X : Obj,(w2.alloc X).ownsRow w.heap.size 36 5 (.slice (some ⟨w.heap.size,0,none⟩) i n) i (aCells zs)):=o8; have HG8 : Hid (∀ (w3 : World) (X : Obj),(w2.alloc X).grownBy w3 (some w.heap.size)→w3.cell? ⟨k0,8,none⟩=some (.slice (some ⟨w.heap.size,0,none⟩) i n)∧w3.frozen? ⟨k0,8,none⟩=false):=f8; clear hp o8 f8)
        | (refine step_append_fits rfl (.tmp 18) (.tmp 21) 27 rfl w.heap.size 36 i0 5 Tryq.underlying27 hi0 hz1 w.heap.size i n (aCells zs) (by simp [Act.eval]) (HO8.out _) ⟨w2.heap.size,0,none⟩ 1 1 [.int .i64 code,.int .i64 ver,.string abody,.slice so sn sc,.string tok] (by simp [Act.eval]) rfl (cells5_new _ _ _ _ _ _ _) (by intro u hu; simp at hu; rcases hu with rfl | rfl | rfl | rfl | rfl <;> rfl) (by omega) ?_; intro w3 ho3 hg3; obtain ⟨k8c,f8c⟩:=HG8.out _ _ hg3; have HW3 : Hid (w3.ownsRow w.heap.size 36 5 (.slice (some ⟨w.heap.size,0,none⟩) (i+1) n) (i+1) (aCells zs++[.int .i64 code,.int .i64 ver,.string abody,.slice so sn sc,.string tok])∧(w2.alloc (.cells #[.int .i64 code,.int .i64 ver,.string abody,.slice so sn sc,.string tok] 36)).grownBy w3 (some w.heap.size)):=⟨ho3,hg3⟩; clear ho3 hg3))
      all_goals
        go_wp2
        obtain ⟨A',zs',hI'⟩:=HNX1.out w2 w3 _ _ HX2.out HW3.out.1 HW3.out.2 k8c
        exact ⟨⟨i+1,A',zs',by omega,by go_num,hI'⟩,by simp [intOf]; omega⟩
    · have hie : i=n:=by omega
      subst hie
      have HT : Hid (ops.take i=ops):=List.take_of_length_le (by rw [HN.out]; exact Nat.le_refl _)
      have c8:=HR.out.c8
      go_wp2
      refine HP1.out _ _ ⟨A,zs,by rw [HN.out]; rfl,?_,?_,HR.out.rows,HR.out.above,HR.out.left⟩
      · have:=HR.out.al
        rw [HT.out] at this
        exact this
      · rw [HN.out]
        exact HR.out.own
end Go.Proofs.YtnapepbdohidgaaGreatDoorQ
namespace Go.Proofs.YtnapepbdohidgaaGreatDoorQ
open Go.RowKit
theorem opCells_get (ops : List OpD) (i j : Nat) (hi : i < ops.length) (hj : j < 7) : (ops.flatMap opCells)[i * 7+j]?=(opCells ops[i])[j]?:=flat_get 7 opCells (fun _=>rfl) ops i j hi hj
theorem scr_new (w : World) (ops : List OpD) (cs : Array Value) (T : TypeId) (hcs : cs=(ops.flatMap opCells).toArray) (m : Nat) (hm : m=ops.length) (hz : Sized ops) (hl : ops.length≤2199023255552) : ScrAt (w.alloc (.cells cs T)) (.slice (some ⟨w.heap.size,0,none⟩) m m) ops:=by
  subst hcs; subst hm
  refine ⟨⟨_,ops.length,rfl,fun _=>⟨w.heap.size,0,rfl,fun i hi=>?_⟩⟩,hz,hl⟩
  have h : ∀ j,j < 7→(w.alloc (.cells (ops.flatMap opCells).toArray T)).cell? ⟨w.heap.size,0+i * 7+j,none⟩=(opCells ops[i])[j]?:=fun j hj=>by
    rw [Nat.zero_add,World.cell?_alloc_at (w:=w) _ _ w.heap.size _ rfl,←opCells_get ops i j hi hj]; simp
  exact ⟨h 0 (by omega),h 1 (by omega),h 2 (by omega),h 3 (by omega),h 4 (by omega),h 5 (by omega),h 6 (by omega)⟩
theorem Tryq.infoOp : (Tryq.prog.info? 31).map (fun i=>(i.zero,i.size,i.bytes))=some (some (.agg #[.int .i64 0,.string ⟨#[]⟩,.string ⟨#[]⟩,.string ⟨#[]⟩,.string ⟨#[]⟩,.int .i64 0,.int .i64 0]),7,88):=by kernel_rfl
theorem opsCells_one (ops : List OpD) : ∀ u∈ops.flatMap opCells,u.oneCell'=true:=by
  intro u hu
  obtain ⟨o,_,hu⟩:=List.mem_flatMap.1 hu
  simp [opCells] at hu
  rcases hu with rfl | rfl | rfl | rfl | rfl | rfl | rfl <;> rfl
theorem scr_of_owns {w : World} {base : Nat} {v : Value} {n : Nat} {ops : List OpD} (h : w.ownsRow base 31 7 v n (ops.flatMap opCells)) (hn : n=ops.length) (hz : Sized ops) (hl : ops.length≤2199023255552) : ScrAt w v ops:=by
  subst hn
  rcases h.2 with ⟨rfl,h0⟩ | ⟨g,cap,cur,rfl,hbg,hg,hnc,hcm,hcs,htake⟩
  · have : ops=[]:=List.length_eq_zero_iff.1 h0
    subst this
    exact ⟨⟨none,0,rfl,fun h=>absurd rfl h⟩,hz,hl⟩
  · refine ⟨⟨_,cap,rfl,fun _=>⟨g,0,rfl,fun i hi=>?_⟩⟩,hz,hl⟩
    have hc : ∀ j,j < 7→w.cell? ⟨g,0+i * 7+j,none⟩=(opCells ops[i])[j]?:=fun j hj=>by
      rw [Nat.zero_add,←opCells_get ops i j hi hj]; exact h.cellAt _ (by omega)
    exact ⟨hc 0 (by omega),hc 1 (by omega),hc 2 (by omega),hc 3 (by omega),hc 4 (by omega),hc 5 (by omega),hc 6 (by omega)⟩
theorem cells7_new (w : World) (o : OpD) (T : TypeId) : ∀ j u,(opCells o)[j]?=some u→(w.alloc (.cells #[.int .i64 o.kind,.string o.key,.string o.body,.string o.delim,.string o.past,.int .i64 o.n,.int .i64 o.src] T)).cell? ((⟨w.heap.size,0,none⟩ : Addr).add j)=some u:=by
  intro j u hj
  rw [Addr.add_lit,World.cell?_alloc_at (w:=w) _ _ w.heap.size _ rfl]
  simpa [opCells] using hj
theorem one7 (o : OpD) : ∀ u∈opCells o,u.oneCell'=true:=by
  intro u hu; simp [opCells] at hu; rcases hu with rfl | rfl | rfl | rfl | rfl | rfl | rfl <;> rfl
set_option maxHeartbeats 400000 in
theorem kop_any (kind : Int) (key body : ByteArray) (w : World) : Calls Tryq.prog 20 #[.int .i64 kind,.string key,.string body] w fun e w'=>
    e=.returned (.agg #[.int .i64 kind,.string key,.string body,.string ⟨#[]⟩,.string ⟨#[]⟩,.int .i64 0,.int .i64 0])∧Below w.heap.size w w':=by
  go_enter Tryq.func20,Tryz.ntmps20
  go_wp2
  exact bodyPost_ret (v:=.agg #[.int .i64 kind,.string key,.string body,.string ⟨#[]⟩,.string ⟨#[]⟩,.int .i64 0,.int .i64 0]) (by simp [results,Tryz.results20,go_sem]) rfl ⟨rfl,(Below.refl _ _).alloc (Nat.le_refl _) _⟩
set_option maxHeartbeats 400000 in
theorem pick_any (c : Int) (m : Nat) (w : World) (h1 : -9223372036854775808≤c) (h2 : c≤9223372036854775807) (hm : 0 < m) (hm2 : m≤9223372036854775807) :
    Calls Tryq.prog 21 #[.int .i64 c,.int .i64 m] w fun e w'=>∃ k : Nat,k < m∧e=.returned (.int .i64 k)∧w=w':=by
  have hm0 : ((m : Int) == 0)=false:=by simp; omega
  by_cases hc : c < 0
  · have e : -((c+1).tmod (m : Int))=(((-(c+1)) % (m : Int)).toNat : Int):=by
      rw [←Int.neg_tmod,Int.tmod_eq_emod_of_nonneg (by omega)]
      have:=Int.emod_nonneg (-(c+1)) (b:=(m : Int)) (by omega)
      omega
    have hk : ((-(c+1)) % (m : Int)).toNat < m:=by
      have h3:=Int.emod_nonneg (-(c+1)) (b:=(m : Int)) (by omega)
      have h4:=Int.emod_lt_of_pos (-(c+1)) (b:=(m : Int)) (by omega)
      omega
    have HE : Hid (-((c+1).tmod (m : Int))=(((-(c+1)) % (m : Int)).toNat : Int)∧((-(c+1)) % (m : Int)).toNat < m):=⟨e,hk⟩
    clear e hk
    go_enter Tryq.func21,Tryz.ntmps21
    go_wp2
    go_ret
    exact ⟨_,HE.out.2,ret_int HE.out.1,rfl⟩
  · have e : c % (m : Int)=((c % (m : Int)).toNat : Int):=by
      have:=Int.emod_nonneg c (b:=(m : Int)) (by omega)
      omega
    have hk : (c % (m : Int)).toNat < m:=by
      have h3:=Int.emod_nonneg c (b:=(m : Int)) (by omega)
      have h4:=Int.emod_lt_of_pos c (b:=(m : Int)) (by omega)
      omega
    have HE : Hid (c % (m : Int)=((c % (m : Int)).toNat : Int)∧(c % (m : Int)).toNat < m):=⟨e,hk⟩
    clear e hk
    go_enter Tryq.func21,Tryz.ntmps21
    go_wp2
    go_ret
    exact ⟨_,HE.out.2,ret_int HE.out.1,rfl⟩
end Go.Proofs.YtnapepbdohidgaaGreatDoorQ
