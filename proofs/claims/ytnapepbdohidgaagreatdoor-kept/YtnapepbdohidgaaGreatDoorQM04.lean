/- Part of a proof. -/
import Derived.Test.YtnapepbdohidgaaGreatDoorQM03
set_option maxHeartbeats 4000000
set_option maxRecDepth 100000
namespace Go.Proofs.YtnapepbdohidgaaGreatDoorQ
section
open Go
section
variable {P:Program} [Two P] {ρ:Ren}
inductive RPs (ρ:Ren):List (Nat×Value)->List (Nat×Value)->Prop
 |nil:RPs ρ [] []
 |cons (i:Nat) {v v':Value} {l l':List (Nat×Value)} (h:RV ρ v v') (hl:RPs ρ l l'):RPs ρ ((i,v)::l) ((i,v')::l')
theorem RPs.mono {ρ':Ren}(hle:ρ.le ρ'){l l':List (Nat×Value)}(h:RPs ρ l l'):RPs ρ' l l':=by
 induction h with
 |nil=>exact .nil
 |cons i h _ ih=>exact .cons i (h.mono hle) ih
theorem B4 (off:Nat):∀ (l l':List Value)(k:Nat)(c c':Array Value),l.length=l'.length->(∀ (j:Nat) v v',l[j]?=some v->l'[j]?=some v'->RV ρ v v')->RVs ρ c c' ->
  RVs ρ ((l.zipIdx k).foldl (fun cs (x:Value×Nat)=>cs.setIfInBounds (off+x.2) x.1) c) ((l'.zipIdx k).foldl (fun cs (x:Value×Nat)=>cs.setIfInBounds (off+x.2) x.1) c'):=by
 intro l;induction l with
 |nil=>intro l' k c c' hl _ hc;cases l' with
  |nil=>exact hc
  |cons=>simp at hl
 |cons v l ih=>
  intro l' k c c' hl hv hc;cases l' with
  |nil=>simp at hl
  |cons v' l'=>
   simp only [List.zipIdx_cons,List.foldl_cons];exact ih l' (k+1) _ _ (by simpa using hl) (fun j x x' h1 h2=>hv (j+1) x x' h1 h2) (hc.set _ (hv 0 v v' rfl rfl))
theorem ov (place:Nat->Option (Nat×Nat)){l l':List (Nat×Value)}(h:RPs ρ l l'):∀ {c c':Array Value},RVs ρ c c' ->
  (Instr.fill place c l=none/\Instr.fill place c' l'=none)\/∃d d',Instr.fill place c l=some d/\Instr.fill place c' l'=some d'/\RVs ρ d d':=by
 induction h with
 |nil=>intro c c' hc;exact .inr ⟨c,c',rfl,rfl,hc⟩
 | @cons i v v' l l' hv _ ih=>
  intro c c' hc;unfold Instr.fill;cases place i with
  |none=>exact .inl ⟨rfl,rfl⟩
  |some x=>
   obtain ⟨off,size⟩:=x;have hcs:=hv.cellsRel;simp only [<-hcs.size,<-hc.size];split
   ·exact .inl ⟨rfl,rfl⟩
   ·refine ih ?_;have:=B4 (ρ:=ρ) off v.cells.toList v'.cells.toList 0 c c' (by simpa using hcs.size) (fun j x x' h1 h2=>hcs.at_ j x x' (by simpa using h1) (by simpa using h2)) hc;rw [<-Array.toList_zipIdx,<-Array.toList_zipIdx,Array.foldl_toList,Array.foldl_toList] at this;exact this
theorem RVs.cyc {z z':Array Value}(h:RVs ρ z z')(n:Nat):RVs ρ ((Array.range n).map (fun i=>z[i % z.size]!)) ((Array.range n).map (fun i=>z'[i % z'.size]!)):=by
 refine ⟨by simp,fun i v v' h1 h2=>?_⟩;simp only [Array.getElem?_map,Array.getElem?_range] at h1 h2;split at h1
 ·rename_i hi;simp only [hi,if_true,Option.map_some,oI] at h1 h2;by_cases hp:0<z.size
  rotate_left
  ·have e1:z=#[]:=Array.eq_empty_of_size_eq_zero (by omega);have e2:z'=#[]:=Array.eq_empty_of_size_eq_zero (by rw [<-h.size];omega);subst e1;subst e2;subst h1;subst h2;exact .bool _
  have hm:i % z.size<z.size:=Nat.mod_lt _ hp;have hm':i % z'.size<z'.size:=by rw [<-h.size];exact hm
  rw [getElem!_pos z _ hm] at h1;rw [getElem!_pos z' _ hm'] at h2;subst h1;subst h2;refine h.at_ (i % z.size) _ _ (eG hm) ?_;rw [eG (by rw [<-h.size];exact hm)];simp only [h.size]
 ·cases h1
theorem ow (hZ:bB P)(t:TypeId)(len:Nat){a a':Array (Nat×Value)}(h:RPs ρ a.toList a'.toList):RS P QV ρ (Instr.buildSlice t len a) (Instr.buildSlice t len a'):=by
 unfold Instr.buildSlice;refine ae (ao t) (fun ρ1 l1 d=>?_);cases d with
 |slice elem=>
  refine ae (bf elem) (fun ρ2 l2 size=>?_);have fin:∀ (ρ3:Ren),ρ2.le ρ3->∀z z',RVs ρ3 z z'->RS P QV ρ3 (match Instr.fill (fun i=>some (i * size,size)) ((Array.range (len * size)).map (fun x=>z[x % z.size]!)) a.toList with
    |some cells=>do let r <-newRow elem cells;pure (.slice (some r) len len)
    | _ => stuck "buildSlice: a part of the wrong size") (match Instr.fill (fun i => some (i * size, size)) ((Array.range (len * size)).map (fun x => z'[x % z'.size]!)) a'.toList with
    |some cells=>do let r <-newRow elem cells;pure (.slice (some r) len len)
    | _ => stuck "buildSlice: a part of the wrong size") := by
   intro ρ3 l3 z z' hz;rcases ov (fun i=>some (i * size,size)) (((h.mono l1).mono l2).mono l3) (hz.cyc (len * size)) with ⟨h1,h2⟩|⟨c,c',h1,h2,hc⟩
   ·rw [h1,h2];exact ac _
   ·rw [h1,h2];exact ag (dx elem hc) (fun ρ4 _ r r' hr=>aa (.slice _ _ (.some hr)))
  simp only;split
  ·exact ah _
  ·split
   ·exact fin ρ2 (Ren.le_refl _) _ _ RVs.nil
   ·exact ag (bl hZ elem) (fun ρ3 l3 z z' hz=>fin ρ3 l3 _ _ (RV.cellsRel hz))
 |_=>exact ac _
theorem bj {α β:Type}{Q:Ren->α->β->Prop}(m:String):RS P Q ρ (runtimePanic (.error m)) (runtimePanic (.error m)):=.program rfl (.halt (.panic (.iface _ (.string _))))
theorem lj {α β:Type}{Q:Ren->α->β->Prop}(m:String):RS P Q ρ (runtimePanic (.plain m)) (runtimePanic (.plain m)):=.program rfl (.halt (.panic (.iface _ (.string _))))
theorem fv (n:Nat):RS P QU ρ (askRoom n) (askRoom n):=by
 unfold askRoom;split
 ·exact .mark .noRoom (.pure trivial)
 ·exact aa trivial
theorem eP {v v':Value}(hv:RV ρ v v'):RS P QE ρ (asInt v) (asInt v'):=by
 unfold asInt;exact ae (ig hv) (fun ρ1 _ x=>aa rfl)
theorem ox {v v':Value}(hv:RV ρ v v'):RS P QE ρ (Builtin.lenOf v) (Builtin.lenOf v'):=by
 cases hv<;>first|exact aa rfl|exact ac _
theorem cR (size n:Nat){v v':Value}(hv:RV ρ v v'):RS P QVs ρ (Builtin.firstCells size n v) (Builtin.firstCells size n v'):=by
 cases hv with
 |slice m c h=>
  cases h with
  |none=>exact aa RVs.nil
  |some h=>exact eO h _
 |string s=>
  refine aa ⟨rfl,fun i v v' h1 h2=>?_⟩;rw [h1] at h2;cases h2;simp only [Array.getElem?_map] at h1;obtain ⟨b,-,rfl⟩:=Option.map_eq_some_iff.1 h1;exact .int _ _
 |_=>exact ac _
theorem RVs.append {a a' b b':Array Value}(h:RVs ρ a a')(k:RVs ρ b b'):RVs ρ (a++b) (a'++b'):=by
 refine ⟨by simp [h.size,k.size],fun i v v' h1 h2=>?_⟩;rw [Array.getElem?_append] at h1 h2;rw [<-h.size] at h2;split at h1
 ·rename_i hi;rw [if_pos hi] at h2;exact h.at_ i v v' h1 h2
 ·rename_i hi;rw [if_neg hi] at h2;exact k.at_ _ v v' h1 h2
theorem RVs.zeros {z z':Array Value}(h:RVs ρ z z')(n:Nat):RVs ρ (Builtin.zeroCells z n) (Builtin.zeroCells z' n):=by
 unfold Builtin.zeroCells;rw [<-h.size];have:=h.cyc (n * z.size);rw [<-h.size] at this;exact this
end
section
variable {P:Program} [Two P] {ρ:Ren}
theorem zS {a a':Addr}(h:RA ρ a a')(n:Nat):RS P QE ρ (Builtin.holdsCells a n) (Builtin.holdsCells a' n):=by
 unfold Builtin.holdsCells;refine .shape h.1 (fun s=>?_);show RS P QE ρ (match s with|some (_,m)=>pure (a.spot.isNone&&a.off+n<=m)|none=>pure false) (match s with|some (_,m)=>pure (a'.spot.isNone&&a'.off+n<=m)|none=>pure false);rw [h.2.1,h.2.2];split<;>exact aa rfl
theorem B5 (at_:Array TypeId)(t:TypeId){a a':Array Value}(h:RVs ρ a a'):RS P QV ρ (Builtin.copy_ at_ t a) (Builtin.copy_ at_ t a'):=by
 unfold Builtin.copy_;rcases h.get 0 with ⟨h1,h2⟩|⟨d,d',h1,h2,hd⟩
 ·rw [h1,h2];cases at_[0]?<;>exact ac _
 rcases h.get 1 with ⟨k1,k2⟩|⟨s,s',k1,k2,hs⟩
 ·rw [h1,h2,k1,k2];cases at_[0]?<;>exact ac _
 rw [h1,h2,k1,k2];cases at_[0]? with
 |none=>exact ac _
 |some dt=>
  refine ae (ao dt) (fun ρ1 l1 ty=>?_);cases ty with
  |slice elem=>
   have hd1:=hd.mono l1;cases hd1 with
   |slice n c hb=>
    refine ae (ox (hs.mono l1)) (fun ρ2 l2 m=>?_);refine ae (bf elem) (fun ρ3 l3 z=>?_);refine ag (cR z _ (((hs.mono l1).mono l2).mono l3)) (fun ρ4 l4 c c' hc=>?_);have hb4:=((hb.mono l2).mono l3).mono l4;cases hb4 with
    |none=>exact aa (.int _ _)
    |some ha=>exact ag (bO c.toList c'.toList 0 ha (by simpa using hc.size) (fun j x x' e1 e2=>hc.at_ j x x' (by simpa using e1) (by simpa using e2))) (fun ρ5 _ _ _ _=>aa (.int _ _))
   |_=>exact ac _
  |_=>exact ac _
theorem rS (hS:ρ.F j8=true)(t:TypeId){v v':Value}(hv:RV ρ v v'):RS P QV ρ (Instr.makeChan t v) (Instr.makeChan t v'):=by
 unfold Instr.makeChan;refine ae (eP hv) (fun ρ1 l1 n=>?_);refine ae (ao t) (fun ρ2 l2 d=>?_);cases d with
 |chan a b=>
  refine ag (aC b) (fun ρ3 l3 i i' hi=>?_);obtain ⟨rfl,-⟩:=hi;simp only;split
  ·exact lj _
  ·exact .new (.chan _ _ _ _ _ _ _ _ _ (.inr RVs.nil) (.inr rfl)) (fun r r' _ _ _=>.pure (.chan (.some (.inr ⟨rfl,rfl⟩)))) (fun _=>by rw [l3.F,l2.F,l1.F];exact hS)
 |_=>exact ac _
def QO (r:Nat):Ren->Obj->Obj->Prop:=fun ρ o o'=>RO ρ o o'/\(ρ.old r->Dw o)/\(ρ.ch r->o.isChan=true)
theorem de {r r':Nat}(h:ρ r r'):RS P (QO r) ρ (getObj r) (getObj r'):=.getObj h (fun _o _o' ho h1 h2=>.pure ⟨ho,h1,h2⟩)
theorem zT (hS:ρ.F ft=true)(at_:Array TypeId)(t:TypeId){r r':Option Nat}(h:RNo ρ r r'):RS P QV ρ (Builtin.close_ at_ t #[.chan r]) (Builtin.close_ at_ t #[.chan r']):=by
 unfold Builtin.close_;cases h with
 |none=>exact lj _
 |some h=>
  refine ag (de h) (fun ρ1 l1 o o' ho=>?_);obtain ⟨ho,hold,hch⟩:=ho;cases ho with
  |chan cap cap' cl cl' s q s' q' tm hb hcl=>
   have hS1:ρ1.F ft=true:=by rw [l1.F];exact hS
   have hcl:cl=cl':=hcl.resolve_left (by rw [ρ1.tight hS1];exact fun h=>by cases h);subst hcl;cases cl with
   |true=>exact lj _
   |false=>exact ag (Q:=QU) (.setObj (l1 _ _ h) (.chan cap cap' true true s q s' q' tm hb (.inr rfl)) (fun k=>by cases hold k) (fun _=>⟨hS1,_,_,_,_,_,rfl⟩) (.pure trivial) (fun _=>⟨hS1,_,_,_,_,_,rfl⟩)) (fun ρ2 _ _ _ _=>aa (.tuple rfl (fun i v v' e=>by simp at e)))
  |_=>exact ac _
def QN {α β:Type}:Ren->α->β->Prop:=fun _ _ _=>False
theorem aS {α β γ δ:Type}{Q':Ren->γ->δ->Prop}{x:Sem α}{x':Sem β}{f:α->Sem γ}{f':β->Sem δ}(h:RS P QN ρ x x'):RS P Q' ρ (x >>= f) (x' >>= f'):=ag h (fun _ _ _ _ hf=>hf.elim)
theorem fw {ρ:Ren}{a c d e:Nat}(h1:ρ a c)(h2:ρ d e):(a==d)=(c==e):=by
 by_cases h:a=d
 ·subst h;have:=ρ.fn _ _ _ h1 h2;subst this;exact (beq_self_eq_true a).trans (beq_self_eq_true c).symm
 ·have h':¬c=e:=fun e'=>h (ρ.inj _ _ _ h1 (e'▸h2))
  exact (beq_eq_false_iff_ne.2 h).trans (beq_eq_false_iff_ne.2 h').symm
theorem gC (a:Addr)(n:Nat):Calm (Builtin.holdsCells a n):=by
 unfold Builtin.holdsCells;refine .shape _ (fun s=>?_);show Calm (match s with|some (_,m)=>pure (a.spot.isNone&&a.off+n<=m)|none=>pure false);split<;>exact .pure _
theorem d9 (size n m:Nat)(b:Option Addr)(x:Value):Calm (Builtin.mayShare size n m b x):=by
 have jp:∀there:Bool,Calm
   (if (!there)=true then pure true else match (generalizing:=false) x with
    | .slice (some c) _ _=>do
     let u <-Builtin.holdsCells c (m * size)
     pure (!u||b.any (fun y=>y.block==c.block))
    |_=>pure false):=fun there=>by
  split
  ·exact .pure _
  cases x with
  |slice a k c=>
   cases a with
   |none=>exact .pure _
   |some a=>exact (gC a _).bind (fun u=>.pure _)
  |_=>exact .pure _
 unfold Builtin.mayShare;cases b with
 |none=>exact Calm.bind (.pure true) (fun t=>jp t)
 |some a=>exact (gC a _).bind (fun t=>Calm.bind (.frozen _ (fun u=>.pure u)) (fun u=>Calm.bind (.pure _) (fun t=>jp t)))
end
section
variable {P:Program} [Two P] {ρ:Ren}
theorem av {γ δ:Type}{Q:Ren->γ->δ->Prop}{c:Prop} [Decidable c]{x y:Sem γ}{x' y':Sem δ}(h1:c->RS P Q ρ x x')(h2:¬c->RS P Q ρ y y'):RS P Q ρ (if c then x else y) (if c then x' else y'):=by
 split
 ·exact h1 (by assumption)
 ·exact h2 (by assumption)
theorem cI (q:Question):RS P QE ρ (choose q) (choose q):=.choose _ (fun _=>.pure rfl)
theorem xd (hZ:bB P)(at_:Array TypeId)(t:TypeId){a a':Array Value}(h:RVs ρ a a'):RS P QV ρ (Builtin.append_ at_ t a) (Builtin.append_ at_ t a'):=by
 unfold Builtin.append_;rcases h.get 0 with ⟨h1,h2⟩|⟨s,s',h1,h2,hs⟩
 ·rw [h1,h2];cases at_[0]?<;>exact ac _
 rcases h.get 1 with ⟨k1,k2⟩|⟨x,x',k1,k2,hx⟩
 ·rw [h1,h2,k1,k2];cases at_[0]?<;>exact ac _
 rw [h1,h2,k1,k2];cases at_[0]? with
 |none=>exact ac _
 |some st=>
  refine ae (ao st) (fun ρ1 l1 ty=>?_);cases ty with
  |slice elem=>
   have hs1:=hs.mono l1;cases hs1 with
   | @slice b b' n c hb=>
    refine ae (bf elem) (fun ρ2 l2 size=>?_);have hx2:=(hx.mono l1).mono l2;have hb2:=hb.mono l2;clear hb hs hx l1 l2 h h1 h2 k1 k2;have happ:∀ (ρz:Ren) (zeros:Bool) (m:Nat),ρ2.le ρz->RS P QVs ρz
      (if (!zeros)=true then Builtin.firstCells size m x else if m * size=0 then pure #[] else do let z <-zeroValue elem;pure (Builtin.zeroCells z.cells m))
      (if (!zeros)=true then Builtin.firstCells size m x' else if m * size=0 then pure #[] else do let z <-zeroValue elem;pure (Builtin.zeroCells z.cells m)):=by
     intro ρz zeros m lz;refine av (fun _=>cR size m (hx2.mono lz)) (fun _=>av (fun _=>aa RVs.nil) (fun _=>?_));exact ag (bl hZ elem) (fun ρy _ z z' hz=>aa ((RV.cellsRel hz).zeros m))
    cases at_[1]? with
    |none=>
     refine ae (aa rfl) (fun ρ3 l3 zeros=>?_);refine av (fun _=>?_) (fun _=>?_)
     ·refine ae (eP (hx2.mono l3)) (fun ρ4 l4 li=>?_);refine av (fun _=>aS (bj _)) (fun _=>?_);refine ag (aC elem) (fun ρ5 l5 i0 i0' hi0=>?_);obtain ⟨rfl,-⟩:=hi0;refine av (fun _=>ae (cI _) (fun ρ6 l6 made=>aS (bj _))) (fun _=>?_);refine ae (aa rfl) (fun ρk l6 m=>?_);have lk:=Ren.le_trans l3 (Ren.le_trans l4 (Ren.le_trans l5 l6));refine av (fun _=>?_) (fun _=>?_)
      ·refine ag (happ ρk zeros m lk) (fun ρa la new new' hnew=>?_);have hba:=(hb2.mono lk).mono la;cases hba with
       |none=>exact aa (.slice _ _ .none)
       |some ha=>exact ag (bO new.toList new'.toList 0 (ha.add _) (by simpa using hnew.size) (fun j x x' e1 e2=>hnew.at_ j x x' (by simpa using e1) (by simpa using e2))) (fun ρb lb _ _ _=>aa (.slice _ _ (.some (ha.mono lb))))
      ·refine ag (aC elem) (fun ρa la ia ia' hia=>?_);obtain ⟨rfl,-⟩:=hia;have lka:=Ren.le_trans lk la;refine av (fun _=>aS (bj _)) (fun _=>?_);refine ag (aC elem) (fun ρb lb ib ib' hib=>?_);obtain ⟨rfl,-⟩:=hib;have lkb:=Ren.le_trans lka lb;refine av (fun _=>aS (av (fun _=>bj _) (fun _=>?_))) (fun _=>?_)
       ·exact .lost ((d9 size n m _ _).lost (fun sh=>by cases sh<;>first|exact .mark _ (.halt rfl)|exact .halt rfl)) _
       ·refine ae (cI _) (fun ρ9 l9 newCap=>?_);refine ag (aC elem) (fun ρc lc ic ic' hic=>?_);obtain ⟨rfl,-⟩:=hic;refine ag (fv _) (fun ρd ld _ _ _=>?_);have lkd:=Ren.le_trans lkb (Ren.le_trans l9 (Ren.le_trans lc ld));refine ag (cR size n (.slice n c (hb2.mono lkd))) (fun ρe le old old' hold=>?_);refine ag (happ ρe zeros m (Ren.le_trans lkd le)) (fun ρf lf new new' hnew=>?_);refine ag (bl hZ elem) (fun ρg lg z z' hz=>?_);exact ag (dx elem ((((hold.mono lf).mono lg).append (hnew.mono lg)).append ((RV.cellsRel hz).zeros _))) (fun ρh _ r r' hr=>aa (.slice _ _ (.some hr)))
     ·refine ae (ox (hx2.mono l3)) (fun ρk l4 m=>?_);have lk:=Ren.le_trans l3 l4;refine av (fun _=>?_) (fun _=>?_)
      ·refine ag (happ ρk zeros m lk) (fun ρa la new new' hnew=>?_);have hba:=(hb2.mono lk).mono la;cases hba with
       |none=>exact aa (.slice _ _ .none)
       |some ha=>exact ag (bO new.toList new'.toList 0 (ha.add _) (by simpa using hnew.size) (fun j x x' e1 e2=>hnew.at_ j x x' (by simpa using e1) (by simpa using e2))) (fun ρb lb _ _ _=>aa (.slice _ _ (.some (ha.mono lb))))
      ·refine ag (aC elem) (fun ρa la ia ia' hia=>?_);obtain ⟨rfl,-⟩:=hia;have lka:=Ren.le_trans lk la;refine av (fun _=>aS (bj _)) (fun _=>?_);refine ag (aC elem) (fun ρb lb ib ib' hib=>?_);obtain ⟨rfl,-⟩:=hib;have lkb:=Ren.le_trans lka lb;refine av (fun _=>aS (av (fun _=>bj _) (fun _=>?_))) (fun _=>?_)
       ·exact .lost ((d9 size n m _ _).lost (fun sh=>by cases sh<;>first|exact .mark _ (.halt rfl)|exact .halt rfl)) _
       ·refine ae (cI _) (fun ρ9 l9 newCap=>?_);refine ag (aC elem) (fun ρc lc ic ic' hic=>?_);obtain ⟨rfl,-⟩:=hic;refine ag (fv _) (fun ρd ld _ _ _=>?_);have lkd:=Ren.le_trans lkb (Ren.le_trans l9 (Ren.le_trans lc ld));refine ag (cR size n (.slice n c (hb2.mono lkd))) (fun ρe le old old' hold=>?_);refine ag (happ ρe zeros m (Ren.le_trans lkd le)) (fun ρf lf new new' hnew=>?_);refine ag (bl hZ elem) (fun ρg lg z z' hz=>?_);exact ag (dx elem ((((hold.mono lf).mono lg).append (hnew.mono lg)).append ((RV.cellsRel hz).zeros _))) (fun ρh _ r r' hr=>aa (.slice _ _ (.some hr)))
    |some xt=>
     refine ae (ao xt) (fun ρ30 l30 ty=>?_);refine ae (aa rfl) (fun ρ3 l31 zeros=>?_);have l3:=Ren.le_trans l30 l31;refine av (fun _=>?_) (fun _=>?_)
     ·refine ae (eP (hx2.mono l3)) (fun ρ4 l4 li=>?_);refine av (fun _=>aS (bj _)) (fun _=>?_);refine ag (aC elem) (fun ρ5 l5 i0 i0' hi0=>?_);obtain ⟨rfl,-⟩:=hi0;refine av (fun _=>ae (cI _) (fun ρ6 l6 made=>aS (bj _))) (fun _=>?_);refine ae (aa rfl) (fun ρk l6 m=>?_);have lk:=Ren.le_trans l3 (Ren.le_trans l4 (Ren.le_trans l5 l6));refine av (fun _=>?_) (fun _=>?_)
      ·refine ag (happ ρk zeros m lk) (fun ρa la new new' hnew=>?_);have hba:=(hb2.mono lk).mono la;cases hba with
       |none=>exact aa (.slice _ _ .none)
       |some ha=>exact ag (bO new.toList new'.toList 0 (ha.add _) (by simpa using hnew.size) (fun j x x' e1 e2=>hnew.at_ j x x' (by simpa using e1) (by simpa using e2))) (fun ρb lb _ _ _=>aa (.slice _ _ (.some (ha.mono lb))))
      ·refine ag (aC elem) (fun ρa la ia ia' hia=>?_);obtain ⟨rfl,-⟩:=hia;have lka:=Ren.le_trans lk la;refine av (fun _=>aS (bj _)) (fun _=>?_);refine ag (aC elem) (fun ρb lb ib ib' hib=>?_);obtain ⟨rfl,-⟩:=hib;have lkb:=Ren.le_trans lka lb;refine av (fun _=>aS (av (fun _=>bj _) (fun _=>?_))) (fun _=>?_)
       ·exact .lost ((d9 size n m _ _).lost (fun sh=>by cases sh<;>first|exact .mark _ (.halt rfl)|exact .halt rfl)) _
       ·refine ae (cI _) (fun ρ9 l9 newCap=>?_);refine ag (aC elem) (fun ρc lc ic ic' hic=>?_);obtain ⟨rfl,-⟩:=hic;refine ag (fv _) (fun ρd ld _ _ _=>?_);have lkd:=Ren.le_trans lkb (Ren.le_trans l9 (Ren.le_trans lc ld));refine ag (cR size n (.slice n c (hb2.mono lkd))) (fun ρe le old old' hold=>?_);refine ag (happ ρe zeros m (Ren.le_trans lkd le)) (fun ρf lf new new' hnew=>?_);refine ag (bl hZ elem) (fun ρg lg z z' hz=>?_);exact ag (dx elem ((((hold.mono lf).mono lg).append (hnew.mono lg)).append ((RV.cellsRel hz).zeros _))) (fun ρh _ r r' hr=>aa (.slice _ _ (.some hr)))
     ·refine ae (ox (hx2.mono l3)) (fun ρk l4 m=>?_);have lk:=Ren.le_trans l3 l4;refine av (fun _=>?_) (fun _=>?_)
      ·refine ag (happ ρk zeros m lk) (fun ρa la new new' hnew=>?_);have hba:=(hb2.mono lk).mono la;cases hba with
       |none=>exact aa (.slice _ _ .none)
       |some ha=>exact ag (bO new.toList new'.toList 0 (ha.add _) (by simpa using hnew.size) (fun j x x' e1 e2=>hnew.at_ j x x' (by simpa using e1) (by simpa using e2))) (fun ρb lb _ _ _=>aa (.slice _ _ (.some (ha.mono lb))))
      ·refine ag (aC elem) (fun ρa la ia ia' hia=>?_);obtain ⟨rfl,-⟩:=hia;have lka:=Ren.le_trans lk la;refine av (fun _=>aS (bj _)) (fun _=>?_);refine ag (aC elem) (fun ρb lb ib ib' hib=>?_);obtain ⟨rfl,-⟩:=hib;have lkb:=Ren.le_trans lka lb;refine av (fun _=>aS (av (fun _=>bj _) (fun _=>?_))) (fun _=>?_)
       ·exact .lost ((d9 size n m _ _).lost (fun sh=>by cases sh<;>first|exact .mark _ (.halt rfl)|exact .halt rfl)) _
       ·refine ae (cI _) (fun ρ9 l9 newCap=>?_);refine ag (aC elem) (fun ρc lc ic ic' hic=>?_);obtain ⟨rfl,-⟩:=hic;refine ag (fv _) (fun ρd ld _ _ _=>?_);have lkd:=Ren.le_trans lkb (Ren.le_trans l9 (Ren.le_trans lc ld));refine ag (cR size n (.slice n c (hb2.mono lkd))) (fun ρe le old old' hold=>?_);refine ag (happ ρe zeros m (Ren.le_trans lkd le)) (fun ρf lf new new' hnew=>?_);refine ag (bl hZ elem) (fun ρg lg z z' hz=>?_);exact ag (dx elem ((((hold.mono lf).mono lg).append (hnew.mono lg)).append ((RV.cellsRel hz).zeros _))) (fun ρh _ r r' hr=>aa (.slice _ _ (.some hr)))
   |_=>exact ac _
  |_=>exact ac _
end
section
variable {P:Program} [Two P] {ρ:Ren}
theorem kO (t:TypeId){v v':Value}(hv:RV ρ v v'):RS P QV ρ (Instr.makeInterface t v) (Instr.makeInterface t v'):=by
 unfold Instr.makeInterface;refine ae (ao t) (fun ρ1 l1 d=>?_);cases d with
 |interface _=>exact ac _
 |_=>exact aa (.iface t (hv.mono l1))
theorem pQ (hZ:bB P)(t:TypeId){n n' c c':Value}(hn:RV ρ n n')(hc:RV ρ c c'):RS P QV ρ (Instr.makeSlice t n c) (Instr.makeSlice t n' c'):=by
 unfold Instr.makeSlice;refine ae (ao t) (fun ρ1 l1 d=>?_);cases d with
 |slice elem=>
  refine ae (eP (hn.mono l1)) (fun ρ2 l2 len=>?_);refine ae (eP ((hc.mono l1).mono l2)) (fun ρ3 l3 cap=>?_);refine ag (aC elem) (fun ρ4 l4 i i' hi=>?_);obtain ⟨rfl,-⟩:=hi;refine av (fun _=>?_) (fun _=>?_)
  ·refine av (fun _=>aS (bj _)) (fun _=>av (fun _=>aS (bj _)) (fun _=>?_));exact ae (cI _) (fun ρ5 l5 x=>aS (bj _))
  ·refine ag (fv _) (fun ρ5 l5 _ _ _=>?_);refine ae (bf elem) (fun ρ6 l6 z=>?_);refine av (fun _=>?_) (fun _=>?_)
   ·refine ag (Q:=QVs) (aa RVs.nil) (fun ρ7 l7 z z' hz=>?_);exact ag (dx elem (hz.cyc _)) (fun ρ8 _ r r' hr=>aa (.slice _ _ (.some hr)))
   ·refine ag (bl hZ elem) (fun ρ7 l7 z z' hz=>?_);refine ag (Q:=QVs) (aa (RV.cellsRel hz)) (fun ρ7 l7 z z' hz=>?_);exact ag (dx elem (hz.cyc _)) (fun ρ8 _ r r' hr=>aa (.slice _ _ (.some hr)))
 |_=>exact ac _
theorem Dy (at_:Array TypeId)(hB:BY P .len at_=true)(t:TypeId){a a':Array Value}(h:RVs ρ a a'):RS P QV ρ (Builtin.len_ at_ t a) (Builtin.len_ at_ t a'):=by
 unfold Builtin.len_;rcases h.get 0 with ⟨h1,h2⟩|⟨x,x',h1,h2,hx⟩
 ·rw [h1,h2];cases at_[0]?<;>exact ac _
 rw [h1,h2];cases ha0:at_[0]? with
 |none=>exact ac _
 |some u=>
  refine ag (aP u) (fun ρ1 l1 d d' hd=>?_);obtain ⟨rfl,hd⟩:=hd;have hx1:=hx.mono l1;cases d with
  |pointer arr=>
   refine ae (ao arr) (fun ρ2 l2 d=>?_);cases d with
   |array n e=>exact aa (.int _ _)
   |_=>exact ac _
  |chan d e=>simp [BY,ha0,hd] at hB
  |map k e=>
   cases hx1 with
   |map hr=>
    cases hr with
    |none=>exact aa (.int _ _)
    |some hr=>
     refine ag (de hr) (fun ρ2 l2 o o' ho=>?_);obtain ⟨ho,-,-⟩:=ho;cases ho with
     |map c hm=>
      have:∀ (l l':List MapEntry),RMs ρ2 l l'->l.length=l'.length:=fun l l' h=>by
       induction h with
       |nil=>rfl
       |cons b hk h _ ih=>simp [ih]
      have hs:=this _ _ hm;simp only [Array.length_toList] at hs;simp only [hs];exact aa (.int _ _)
     |_=>exact ac _
   |_=>exact ac _
  |_=>cases hx1<;>first|exact ac _|exact aa (.int _ _)
theorem Dz (at_:Array TypeId)(hB:BY P .cap at_=true)(t:TypeId){a a':Array Value}(h:RVs ρ a a'):RS P QV ρ (Builtin.cap_ at_ t a) (Builtin.cap_ at_ t a'):=by
 unfold Builtin.cap_;rcases h.get 0 with ⟨h1,h2⟩|⟨x,x',h1,h2,hx⟩
 ·rw [h1,h2];cases at_[0]?<;>exact ac _
 rw [h1,h2];cases ha0:at_[0]? with
 |none=>exact ac _
 |some u=>
  refine ag (aP u) (fun ρ1 l1 d d' hd=>?_);obtain ⟨rfl,hd⟩:=hd;have hx1:=hx.mono l1;cases d with
  |pointer arr=>
   refine ae (ao arr) (fun ρ2 l2 d=>?_);cases d with
   |array n e=>exact aa (.int _ _)
   |_=>exact ac _
  |chan d e=>simp [BY,ha0,hd] at hB
  |_=>cases hx1<;>first|exact ac _|exact aa (.int _ _)
theorem lO (op:BinOp)(k:IntKind)(x y:Int):RS P QV ρ (Op.intArith op k x y) (Op.intArith op k x y):=by
 unfold Op.intArith;split<;>first|exact ac _|exact aa (.int _ _)
theorem xe (op:BinOp)(k:IntKind)(x y:Int):RS P QV ρ (Op.intDiv op k x y) (Op.intDiv op k x y):=by
 unfold Op.intDiv;refine av (fun _=>bj _) (fun _=>?_);split<;>first|exact ac _|exact aa (.int _ _)
theorem nw (op:BinOp)(k:IntKind)(x y:Int):RS P QV ρ (Op.intBits op k x y) (Op.intBits op k x y):=by
 unfold Op.intBits;cases op<;>first|exact ac _|exact aa (.int _ _)
theorem zU (op:BinOp)(k:IntKind)(x:Int)(yk:IntKind)(y:Int):RS P QV ρ (Op.shift op k x yk y) (Op.shift op k x yk y):=by
 unfold Op.shift;refine av (fun _=>bj _) (fun _=>?_);cases op<;>first|exact ac _|exact aa (.int _ _)
theorem xh (op:BinOp)(x y:Int):RS P QV ρ (Op.intCmp op x y) (Op.intCmp op x y):=by
 unfold Op.intCmp;cases op<;>first|exact ac _|exact aa (.bool _)
theorem lQ (op:BinOp)(x y:ByteArray):RS P QV ρ (Op.stringOp op x y) (Op.stringOp op x y):=by
 unfold Op.stringOp;cases op with
 |add=>exact av (fun _=>ah _) (fun _=>aa (.string _))
 |_=>first|exact ac _|exact aa (.bool _)
theorem zV (op:UnOp){v v':Value}(hv:RV ρ v v'):RS P QV ρ (Op.unary op v) (Op.unary op v'):=by
 unfold Op.unary;cases hv with
 |bool b=>cases op<;>first|exact ac _|exact aa (.bool _)
 |int k n=>cases op<;>first|exact ac _|exact lO _ _ _ _|exact nw _ _ _ _
 |pointer ha=>cases op<;>cases ha<;>first|exact ac _|exact ah _
 |_=>cases op<;>exact ac _
theorem zW (hZ:bB P)(at_:Array TypeId)(t:TypeId){a a':Array Value}(h:RVs ρ a a'):RS P QV ρ (Builtin.clear_ at_ t a) (Builtin.clear_ at_ t a'):=by
 unfold Builtin.clear_;have unit:∀ρ1:Ren,RS P QV ρ1 (pure (.tuple #[]):Sem Value) (pure (.tuple #[])):=fun ρ1=>aa (.tuple rfl (fun i v v' e=>by simp at e))
 rcases h.get 0 with ⟨h1,h2⟩|⟨x,x',h1,h2,hx⟩
 ·rw [h1,h2];cases at_[0]?<;>exact ac _
 rw [h1,h2];cases at_[0]? with
 |none=>exact ac _
 |some u=>
  refine ae (ao u) (fun ρ1 l1 d=>?_);have hx1:=hx.mono l1;cases hx1 with
  |map hr=>
   cases hr with
   |none=>cases d<;>exact unit ρ1
   |some hr=>
    cases d<;>exact ag (de hr) (fun ρ2 l2 o o' ho=>by
     obtain ⟨ho,k1,k2⟩:=ho;cases ho with
     |map c hm=>exact ag (Q:=QU) (.setObj (l2 _ _ hr) (.map c .nil) (fun k=>by cases k1 k) (fun k=>by have:=k2 k;simp [Obj.isChan] at this) (.pure trivial)) (fun ρ3 l3 _ _ _=>unit ρ3)
     |_=>exact ac _)
  |slice n c ha=>
   cases ha with
   |none=>cases d<;>exact unit ρ1
   |some ha=>
    cases n with
    |zero=>cases d<;>exact unit ρ1
    |succ n=>
     cases d with
     |slice elem=>
      refine ag (bl hZ elem) (fun ρ2 l2 z z' hz=>?_);have hzz:=(RV.cellsRel hz).zeros (n+1);exact ag (bO _ _ 0 (ha.mono l2) (by simpa using hzz.size) (fun j x x' e1 e2=>hzz.at_ j x x' (by simpa using e1) (by simpa using e2))) (fun ρ3 _ _ _ _=>unit ρ3)
     |_=>exact ac _
  |_=>cases d<;>exact ac _
end
section
variable {P:Program} [Two P] {ρ:Ren}
theorem eb {r r':Nat}(h:ρ r r'):RS P QE ρ (shape r) (shape r'):=.shape h (fun _=>.pure rfl)
theorem pR {r r':Nat}(h:ρ r r'):RS P (fun _ a b=>a=none/\b=none) ρ (viewAt r) (viewAt r'):=by
 unfold viewAt;refine ae (eb h) (fun ρ1 l1 s=>av (fun _=>aa ⟨rfl,rfl⟩) (fun _=>?_));refine ag (de (l1 _ _ h)) (fun ρ2 l2 o o' ho=>?_);obtain ⟨ho,-,-⟩:=ho;cases ho with
 |dead _ hd=>cases o'<;>first|exact aa ⟨rfl,rfl⟩|simp [ot] at hd
 |_=>exact aa ⟨rfl,rfl⟩
inductive Eh (ρ:Ren):Option (Addr×Bool)->Option (Addr×Bool)->Prop
 |none:Eh ρ none none
 |some {a a':Addr} (b:Bool) (h:RA ρ a a'):Eh ρ (some (a,b)) (some (a',b))
theorem lS {r r':Nat}(h:ρ r r'):RS P Eh ρ (numberAt r) (numberAt r'):=by
 unfold numberAt;refine ae (eb h) (fun ρ1 l1 s=>av (fun _=>aa .none) (fun _=>?_));refine ag (de (l1 _ _ h)) (fun ρ2 l2 o o' ho=>?_);obtain ⟨ho,-,-⟩:=ho;cases ho with
 |number b h=>exact aa (.some b h)
 |dead _ hd=>cases o'<;>first|exact aa .none|simp [ot] at hd
 |_=>exact aa .none
theorem lU {a a':Addr}(h:RA ρ a a'):RS P QU ρ (noView a) (noView a'):=by
 unfold noView;refine ag (pR h.1) (fun ρ1 l1 x y e=>?_);obtain ⟨rfl,rfl⟩:=e;exact aa trivial
theorem bY (t:TypeId):P.alt.underlying t=P.underlying t:=rfl
theorem dm (t:TypeId):P.alt.cellsOf t=P.cellsOf t:=rfl
theorem fM (t:TypeId):P.alt.bytesOf t=P.bytesOf t:=rfl
theorem gE:P.alt.depth=P.depth:=rfl
theorem iu:∀ (d:Nat)(t:TypeId)(o:Nat),byteOfCell P.alt d t o=byteOfCell P d t o:=by
 intro d;induction d with
 |zero=>intro t o;rfl
 |succ d ih=>
  intro t o;unfold byteOfCell;simp only [ih,bY,dm,fM];rfl
theorem eC {a a':Addr}(h:RA ρ a a'):RS P QE ρ (byteOf a) (byteOf a'):=by
 unfold byteOf;rw [<-h.2.2];cases a.spot with
 |some s=>exact aa rfl
 |none=>
  refine aY ?_ ?_
  rotate_left
  ·simp only [iu,dm,gE,fM]
  refine ag (lU h) (fun ρ2 l2 _ _ _=>?_);refine ae (eb (l2 _ _ h.1)) (fun ρ3 l3 s=>?_);rcases s with - |⟨e,z⟩
  ·exact ac _
  refine av (fun _=>aa rfl) (fun _=>?_);rw [<-h.2.1];cases byteOfCell P P.depth e (a.off % P.cellsOf e) with
  |none=>exact ac _
  |some b=>exact aa rfl
theorem xi {a a':Addr}(h:RA ρ a a')(c b:Nat):RS P QA ρ (partAt a c b) (partAt a' c b):=by
 unfold partAt;refine ae (eC h) (fun ρ1 l1 x=>?_);have hp:RA ρ1 {block:=a.block,off:=a.off+c} {block:=a'.block,off:=a'.off+c}:=⟨l1 _ _ h.1,by rw [h.2.1],rfl⟩;refine ae (eC hp) (fun ρ2 l2 y=>aa ?_);show RA ρ2 _ _;split
 ·exact hp.mono l2
 ·exact ⟨l2 _ _ hp.1,hp.2.1,rfl⟩
theorem oy {a a':Addr}(h:RA ρ a a')(f:Field):RS P QA ρ (fieldPlace a f) (fieldPlace a' f):=by
 unfold fieldPlace;refine ae (bf _) (fun ρ1 l1 x=>av (fun _=>xi (h.mono l1) _ _) (fun _=>aa ((h.mono l1).add _)))
theorem uT (s:TypeId){v v':Value}(hv:RV ρ v v')(f:Nat):RS P QV ρ (Instr.fieldAt s v f) (Instr.fieldAt s v' f):=by
 unfold Instr.fieldAt;refine ae (ao s) (fun ρ1 l1 d=>?_);cases d with
 |struct fields=>
  dsimp only;cases fields[f]? with
  |none=>exact ac _
  |some x=>
   refine ag (eA (hv.mono l1)) (fun ρ2 l2 a a' ha=>?_);exact ag (oy ha x) (fun ρ3 l3 b b' hb=>aa (.pointer (.some hb)))
 |_=>exact ac _
theorem uU (t:TypeId){v v':Value}(hv:RV ρ v v'){lo lo' hi hi' mx mx':Option Value}(h1:∀v v',lo=some v->lo'=some v'->RV ρ v v')(h2:∀v v',hi=some v->hi'=some v'->RV ρ v v')(h3:∀v v',mx=some v->mx'=some v'->RV ρ v v')
  (e1:lo.isSome=lo'.isSome) (e2:hi.isSome=hi'.isSome) (e3:mx.isSome=mx'.isSome):RS P QV ρ (Instr.sliceAt t v lo hi mx) (Instr.sliceAt t v' lo' hi' mx'):=by
 unfold Instr.sliceAt;refine ae (ao t) (fun ρ1 l1 d=>?_);have hv1:=hv.mono l1;have g1:∀v v',lo=some v->lo'=some v'->RV ρ1 v v':=fun v v' a b=>(h1 v v' a b).mono l1
 have g2:∀v v',hi=some v->hi'=some v'->RV ρ1 v v':=fun v v' a b=>(h2 v v' a b).mono l1
 have g3:∀v v',mx=some v->mx'=some v'->RV ρ1 v v':=fun v v' a b=>(h3 v v' a b).mono l1
 cases d with
 |array n elem=>
  refine ag (eA hv1) (fun ρ2 l2 a a' ha=>?_);refine ae (dM false _ _ (fun v v' a b=>(g1 v v' a b).mono l2) (fun v v' a b=>(g2 v v' a b).mono l2) (fun v v' a b=>(g3 v v' a b).mono l2) e1 e2 e3) (fun ρ4 l4 x=>?_);obtain ⟨l,h,m⟩:=x;refine ae (bf elem) (fun ρ5 l5 z=>?_);refine aa (.slice _ _ (.some ?_));have ha5:=(ha.mono l4).mono l5;split
  ·exact ha5
  ·exact ha5.add _
 |_=>exact zR t hv1 g1 g2 g3 e1 e2 e3
theorem zX {a a' b b':Addr}(h:RA ρ a a')(k:RA ρ b b'):(a==b)=(a'==b'):=by
 have e:a=b↔a'=b':=by
  obtain ⟨r,o,s⟩:=a;obtain ⟨r',o',s'⟩:=a';obtain ⟨q,u,t⟩:=b;obtain ⟨q',u',t'⟩:=b';obtain ⟨h1,h2,h3⟩:=h;obtain ⟨k1,k2,k3⟩:=k;simp only at h1 h2 h3 k1 k2 k3;subst h2;subst h3;subst k2;subst k3;simp only [Addr.mk.injEq];constructor
  ·rintro ⟨rfl,rfl,rfl⟩;exact ⟨ρ.fn _ _ _ h1 k1,rfl,rfl⟩
  ·rintro ⟨rfl,rfl,rfl⟩;exact ⟨ρ.inj _ _ _ h1 k1,rfl,rfl⟩
 by_cases hab:a=b
 ·exact (beq_iff_eq.2 hab).trans (beq_iff_eq.2 (e.1 hab)).symm
 ·exact (beq_eq_false_iff_ne.2 hab).trans (beq_eq_false_iff_ne.2 (fun x=>hab (e.2 x))).symm
theorem kP {a a':Addr}(h:RA ρ a a')(hn:¬ρ.old a.block):RS P QU ρ (markStringish a) (markStringish a'):=by
 unfold markStringish;refine .shape h.1 (fun s=>?_);rcases s with - |⟨e,z⟩
 ·exact .pure trivial
 ·exact .freeze 1 ⟨h.1,rfl,rfl⟩ hn (.pure trivial)
def QAn:Ren->Addr->Addr->Prop:=fun ρ a a'=>RA ρ a a'/\¬ρ.old a.block
theorem uV (e:TypeId){c c':Array Value}(h:RVs ρ c c'):RS P QAn ρ (newRow e c) (newRow e c'):=by
 unfold newRow;exact .new (.cells e (.inl rfl) h) (fun r r' _ _ hn=>.pure ⟨⟨.inr ⟨rfl,rfl⟩,rfl,rfl⟩,hn⟩)
theorem RVs.self {c:Array Value}(h:∀ (i:Nat) v,c[i]?=some v->RV ρ v v):RVs ρ c c:=⟨rfl,fun i v v' e e'=>by rw [e] at e';cases e';exact h i v e⟩
theorem kQ (e:TypeId)(s:ByteArray):RS P QV ρ (Conv.stringToBytes e s) (Conv.stringToBytes e s):=by
 unfold Conv.stringToBytes;refine ae (cI _) (fun ρ1 l1 cap=>?_);refine ag (uV e (RVs.append (RVs.self (fun i v h=>?_)) (RVs.self (fun i v h=>?_)))) (fun ρ2 l2 a a' ha=>?_)
 ·simp only [Array.getElem?_map,Option.map_eq_some_iff] at h;obtain ⟨x,-,rfl⟩:=h;exact .int _ _
 ·rw [Array.getElem?_replicate] at h;split at h
  ·cases h;exact .int _ _
  ·cases h
 exact ag (kP ha.1 ha.2) (fun ρ3 l3 _ _ _=>aa (.slice _ _ (.some (ha.1.mono l3))))
end
section
variable {P:Program} [Two P]
theorem eQ {α α' σ:Type}:∀ (l:List α)(l':List α')(s:σ){ρ:Ren}(R:Ren->α->α'->Prop)(_hm:∀ρ ρ' a a',Ren.le ρ ρ'->R ρ a a'->R ρ' a a')(f:α->σ->Sem (ForInStep σ))(f':α'->σ->Sem (ForInStep σ)),
  l.length=l'.length->(∀ (j:Nat) a a',l[j]?=some a->l'[j]?=some a'->R ρ a a')->(∀ρ',ρ.le ρ'->∀a a' s,R ρ' a a'->RS P QE ρ' (f a s) (f' a' s))->RS P QE ρ (forIn l s f) (forIn l' s f'):=by
 intro l;induction l with
 |nil=>
  intro l' s ρ R hm f f' hl _ _;cases l' with
  |nil=>simp only [List.forIn_nil];exact aa rfl
  |cons _ _=>simp at hl
 |cons x l ih=>
  intro l' s ρ R hm f f' hl hR hf;cases l' with
  |nil=>simp at hl
  |cons x' l'=>
   simp only [List.forIn_cons];refine ae (hf ρ (Ren.le_refl _) x x' s (hR 0 x x' rfl rfl)) (fun ρ1 l1 r=>?_);cases r with
   |done r=>exact aa rfl
   |yield r=>exact ih l' r R hm f f' (by simpa using hl) (fun j a a' h1 h2=>hm _ _ _ _ l1 (hR (j+1) a a' (by simpa using h1) (by simpa using h2))) (fun ρ' l'=>hf ρ' (Ren.le_trans l1 l'))
theorem j9 {α σ:Type}{ρ:Ren}(l:List α)(s:σ)(f f':α->σ->Sem (ForInStep σ))(hf:∀ρ',ρ.le ρ'->∀a s,RS P QE ρ' (f a s) (f' a s)):RS P QE ρ (forIn l s f) (forIn l s f'):=
 eQ l l s (fun _ a a'=>a=a') (fun _ _ _ _ _ h=>h) f f' rfl (fun j a a' h1 h2=>by rw [h1] at h2;exact Option.some.inj h2) (fun ρ' l a a' s h=>by subst h;exact hf ρ' l a s)
variable {ρ:Ren}
theorem kT {v v':Value}(hv:RV ρ v v'):RS P QV ρ (Conv.bytesToString v) (Conv.bytesToString v'):=by
 unfold Conv.bytesToString;cases hv with
 |slice n c ha=>
  cases ha with
  |none=>exact aa (.string _)
  |some ha=>
   refine ag (eO ha n) (fun ρ1 l1 c c' hc=>?_);simp only [<-Array.forIn_toList];refine ae (eQ c.toList c'.toList _ (fun ρ a a'=>RV ρ a a') (fun _ _ _ _ l h=>h.mono l) _ _ (by simpa using hc.size) (fun j a a' h1 h2=>hc.at_ j a a' (by simpa using h1) (by simpa using h2)) (fun ρ' l a a' s h=>?_)) (fun ρ2 l2 s=>aa (.string _));cases h with
   |int k n=>cases k<;>first|exact ac _|exact aa rfl
   |_=>exact ac _
 |_=>exact ac _
theorem kU {v v':Value}(hv:RV ρ v v'):RS P QV ρ (Conv.runesToString v) (Conv.runesToString v'):=by
 unfold Conv.runesToString;cases hv with
 |slice n c ha=>
  cases ha with
  |none=>exact aa (.string _)
  |some ha=>
   refine ag (eO ha n) (fun ρ1 l1 c c' hc=>?_);simp only [<-Array.forIn_toList];refine ae (eQ c.toList c'.toList _ (fun ρ a a'=>RV ρ a a') (fun _ _ _ _ l h=>h.mono l) _ _ (by simpa using hc.size) (fun j a a' h1 h2=>hc.at_ j a a' (by simpa using h1) (by simpa using h2)) (fun ρ' l a a' s h=>?_)) (fun ρ2 l2 s=>aa (.string _));cases h with
   |int k n=>cases k<;>first|exact ac _|exact aa rfl
   |_=>exact ac _
 |_=>exact ac _
end
def strip (fn:Func):Func:={fn with body:=fn.body.map (fun _=>.skip)}
structure GId (P:Program) [Two P](ρ:Ren):Prop where
 glob:∀g,g<P.globals.size->ρ g g
 prog:ρ.prog=P
 code:∀ (f:FuncId) fn b,ρ.F f=true->P.funcs[f]?=some fn->fn.body=some b->aA P ρ.F b=true
 alt:∀f,ρ.F f=true->P.alt.funcs[f]?=P.funcs[f]?
 free:ρ.F j7=true->∀a,¬ρ.old a
 same:∀f:Nat,(P.alt.funcs[f]?).map strip=(P.funcs[f]?).map strip
 size:P.alt.funcs.size=P.funcs.size
 apart:∀f,Mk ρ.F f=true->∃a b,P.alt.funcs[f]?=some a/\P.funcs[f]?=some b/\a.body.isSome=true/\b.body.isSome=true/\a.name=b.name
theorem GId.mono {P:Program} [Two P]{ρ ρ':Ren}(h:GId P ρ)(l:ρ.le ρ'):GId P ρ':=⟨fun g hg=>l _ _ (h.glob g hg),l.prog.trans h.prog,by rw [l.F];exact h.code,by rw [l.F];exact h.alt,by rw [l.F,l.old];exact h.free,h.same,h.size,by rw [l.F];exact h.apart⟩
theorem GId.lt {P:Program} [Two P]{ρ:Ren}(h:GId P ρ){a b:Nat}(k:ρ a b):(a<P.globals.size)↔(b<P.globals.size):=by
 constructor
 ·intro e;rw [<-ρ.fn _ _ _ (h.glob a e) k];exact e
 ·intro e;rw [ρ.inj _ _ _ k (h.glob b e)];exact e
section
variable {P:Program} [Two P]
theorem aU {ρ:Ren}{a a':Addr}(h:RA ρ a a'):RS P (fun ρ x y=>RA ρ x.1 y.1/\x.2=y.2) ρ (behindNumber a) (behindNumber a'):=by
 unfold behindNumber;refine ag (lS h.1) (fun ρ1 l1 x y e=>?_);cases e with
 |none=>exact aa ⟨h.mono l1,rfl⟩
 |some b h=>exact aa ⟨h,rfl⟩
theorem B6 {ρ:Ren}{r r' q q':Option Nat}(h:RNo ρ r r')(k:RNo ρ q q'):(r==q)=(r'==q'):=by
 cases h with
 |none=>cases k<;>rfl
 |some h=>
  cases k with
  |none=>rfl
  |some k=>exact fw h k
theorem ii (d:Nat){ρ:Ren}(hI:GId P ρ)(t:TypeId){x x' y y':Value}(hx:RV ρ x x')(hy:RV ρ y y')(hn:gm (P.underlying t)=true\/zB x=true\/zB y=true):RS P QE ρ (Op.equalIn d t x y) (Op.equalIn d t x' y'):=by
 cases d with
 |zero=>exact ah _
 |succ d=>
  unfold Op.equalIn;refine ag (aP t) (fun ρ1 l1 ty ty' hd=>?_);obtain ⟨rfl,hd⟩:=hd;have hI1:=hI.mono l1;have hx1:=hx.mono l1;have hy1:=hy.mono l1;clear hI hx hy l1;cases ty with
  |bool=>cases hx1<;>first|exact ac _|(cases hy1<;>first|exact ac _|exact aa rfl)
  |string=>cases hx1<;>first|exact ac _|(cases hy1<;>first|exact ac _|exact aa rfl)
  |chan u e=>
   cases hx1 with
   |chan h=>
    cases hy1 with
    |chan k=>exact aa (B6 h k)
    |_=>exact ac _
   |_=>exact ac _
  |func a b c=>cases hx1<;>first|exact ac _|(cases hy1<;>first|exact ac _|exact aa rfl)
  |slice e=>
   cases hx1 with
   |slice n c h=>
    cases hy1 with
    |slice n' c' k=>cases h<;>cases k<;>first|exact ac _|exact aa rfl
    |_=>cases h<;>exact ac _
   |_=>exact ac _
  |map u e=>
   cases hx1 with
   |map h=>
    cases hy1 with
    |map k=>cases h<;>cases k<;>first|exact ac _|exact aa rfl
    |_=>cases h<;>exact ac _
   |_=>exact ac _
  |pointer elem=>
   cases hx1 with
   |pointer h=>
    cases hy1 with
    |pointer k=>
     cases h with
     |none=>cases k<;>exact aa rfl
     |some h=>
      cases k with
      |none=>exact aa rfl
      |some k=>simp [hd,gm,zB] at hn
    |_=>cases h<;>exact ac _
   |_=>exact ac _
  |unsafePointer=>
   cases hx1 with
   |pointer h=>
    cases hy1 with
    |pointer k=>
     show RS P QE ρ1 (samePointer _ _) (samePointer _ _);unfold samePointer;cases h with
     |none=>cases k<;>exact aa rfl
     |some h=>
      cases k with
      |none=>exact aa rfl
      |some k=>simp [hd,gm,zB] at hn
    |_=>exact ac _
   |_=>exact ac _
  |interface ms=>
   cases hx1 with
   |nilIface=>cases hy1<;>first|exact ac _|exact aa rfl
   |iface tx hv=>
    cases hy1 with
    |nilIface=>exact aa rfl
    |iface ty hw=>simp [hd,gm,zB] at hn
    |_=>exact ac _
   |_=>exact ac _
  |int kk=>
   cases hx1 with
   |int k n=>
    cases hy1 with
    |int k' n'=>exact av (fun _=>aa rfl) (fun _=>ac _)
    |pointer h=>cases h<;>rcases n with (_|m)|m<;>first|exact aa rfl|exact ah _
    |_=>exact ac _
   |pointer h=>
    cases hy1 with
    |int k n=>cases h<;>rcases n with (_|m)|m<;>first|exact aa rfl|exact ah _
    |pointer k=>
     cases h with
     |none=>cases k<;>exact ah _
     |some h=>
      cases k with
      |none=>exact ah _
      |some k=>
       refine ag (aU h) (fun ρ2 l2 a a' ha=>?_);refine ag (aU (k.mono l2)) (fun ρ3 l3 b b' hb=>?_);have ha3:=ha.1.mono l3;have hb3:=hb.1;refine aY ?_;have hI3:=(hI1.mono l2).mono l3;have e1:(a.1.block==b.1.block)=(a'.1.block==b'.1.block):=fw ha3.1 hb3.1;have e2:decide (a.1.block<P.globals.size)=decide (a'.1.block<P.globals.size):=decide_eq_decide.2 (hI3.lt ha3.1);rw [e1,e2,zX ha3 hb3];refine av (fun _=>?_) (fun _=>?_)
       ·refine ae (eC ha3) (fun ρ4 l4 x=>?_);exact ae (eC (hb3.mono l4)) (fun ρ5 l5 y=>aa rfl)
       ·refine ag (aC t) (fun ρ4 l4 i i' hi=>?_);obtain ⟨rfl,-⟩:=hi;split
        ·exact av (fun _=>aa rfl) (fun _=>ah _)
        ·exact ah _
    |_=>cases h<;>exact ah _
   |_=>
    cases hy1<;>first|exact ac _|exact ah _
  |struct fs=>
   cases hx1 with
   |agg hc hR=>
    cases hy1 with
    |agg kc kR=>simp [hd,gm,zB] at hn
    |_=>exact ac _
   |_=>exact ac _
  |array n e=>
   cases hx1 with
   |agg hc hR=>
    cases hy1 with
    |agg kc kR=>simp [hd,gm,zB] at hn
    |_=>exact ac _
   |_=>exact ac _
  |float k=>cases hx1<;>exact ac _
  |complex k=>cases hx1<;>exact ac _
  |_=>exact ac _
end
end
