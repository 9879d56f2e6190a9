/- A part. -/
import Derived.Test.YtnapepbdohidgaaGreatDoorQU01
import Derived.Laws.Sem
set_option maxHeartbeats 4000000
set_option maxRecDepth 100000
open Go renaming Value->Wq,Program->Wx,TypeId->Wk,Addr->Ww
namespace Go.Proofs.Qw
section
open Go
section
variable {P:Wx} [Two P] {ρ:Ren}
inductive RPs (ρ:Ren):List (Nat×Wq)->List (Nat×Wq)->Prop
 |nil:RPs ρ [] []
 |cons (i:Nat) {v v':Wq} {l l':List (Nat×Wq)} (h:RV ρ v v') (hl:RPs ρ l l'):RPs ρ ((i,v)::l) ((i,v')::l')
theorem RPs.mono {ρ':Ren}(hle:ρ.le ρ'){l l':List (Nat×Wq)}(h:RPs ρ l l'):RPs ρ' l l':=by
 induction h with
 |nil=>exact .nil
 |cons i h _ ih=>exact .cons i (h.mono hle) ih
theorem DU (off:Nat):∀ (l l':List Wq)(k:Nat)(c c':Array Wq),l.length=l'.length->(∀ (j:Nat) v v',l[j]?=some v->l'[j]?=some v'->RV ρ v v')->RVs ρ c c' ->
  RVs ρ ((l.zipIdx k).foldl (fun cs (x:Wq×Nat)=>cs.setIfInBounds (off+x.2) x.1) c) ((l'.zipIdx k).foldl (fun cs (x:Wq×Nat)=>cs.setIfInBounds (off+x.2) x.1) c'):=by
 intro l;induction l with
 |nil=>intro l' k c c' hl _ hc;cases l' with
  |nil=>exact hc
  |cons=>simp at hl
 |cons v l ih=>
  intro l' k c c' hl hv hc;cases l' with
  |nil=>simp at hl
  |cons v' l'=>
   simp only [List.zipIdx_cons,List.foldl_cons];exact ih l' (k+1) _ _ (by simpa using hl) (fun j x x' h1 h2=>hv (j+1) x x' h1 h2) (hc.set _ (hv 0 v v' rfl rfl))
theorem pq (place:Nat->Option (Nat×Nat)){l l':List (Nat×Wq)}(h:RPs ρ l l'):∀ {c c':Array Wq},RVs ρ c c' ->
  (Instr.fill place c l=none/\Instr.fill place c' l'=none)\/∃d d',Instr.fill place c l=some d/\Instr.fill place c' l'=some d'/\RVs ρ d d':=by
 induction h with
 |nil=>intro c c' hc;exact .inr ⟨c,c',rfl,rfl,hc⟩
 | @cons i v v' l l' hv _ ih=>
  intro c c' hc;unfold Instr.fill;cases place i with
  |none=>exact .inl ⟨rfl,rfl⟩
  |some x=>
   obtain ⟨off,size⟩:=x;have hcs:=hv.cellsRel;simp only [<-hcs.size,<-hc.size];split
   .exact .inl ⟨rfl,rfl⟩
   .refine ih ?_;have:=DU (ρ:=ρ) off v.cells.toList v'.cells.toList 0 c c' (by simpa using hcs.size) (fun j x x' h1 h2=>hcs.at_ j x x' (by simpa using h1) (by simpa using h2)) hc;rw [<-Array.toList_zipIdx,<-Array.toList_zipIdx,Array.foldl_toList,Array.foldl_toList] at this;exact this
theorem RVs.cyc {z z':Array Wq}(h:RVs ρ z z')(n:Nat):RVs ρ ((Array.range n).map (fun i=>z[i % z.size]!)) ((Array.range n).map (fun i=>z'[i % z'.size]!)):=by
 refine ⟨by simp,fun i v v' h1 h2=>?_⟩;simp only [Array.getElem?_map,Array.getElem?_range] at h1 h2;split at h1
 .rename_i hi;simp only [hi,if_true,Option.map_some,oI] at h1 h2;by_cases hp:0<z.size
  rotate_left
  .have e1:z=#[]:=Array.eq_empty_of_size_eq_zero (by omega);have e2:z'=#[]:=Array.eq_empty_of_size_eq_zero (by rw [<-h.size];omega);subst e1;subst e2;subst h1;subst h2;exact .bool _
  have hm:i % z.size<z.size:=Nat.mod_lt _ hp;have hm':i % z'.size<z'.size:=by rw [<-h.size];exact hm
  rw [getElem!_pos z _ hm] at h1;rw [getElem!_pos z' _ hm'] at h2;subst h1;subst h2;refine h.at_ (i % z.size) _ _ (eG hm) ?_;rw [eG (by rw [<-h.size];exact hm)];simp only [h.size]
 .cases h1
theorem pu (hZ:bu P)(t:Wk)(len:Nat){a a':Array (Nat×Wq)}(h:RPs ρ a.toList a'.toList):RS P QV ρ (Instr.buildSlice t len a) (Instr.buildSlice t len a'):=by
 unfold Instr.buildSlice;refine ae (ao t) (fun ρ1 l1 d=>?_);cases d with
 |slice elem=>
  refine ae (bf elem) (fun ρ2 l2 size=>?_);have fin:∀ (ρ3:Ren),ρ2.le ρ3->∀z z',RVs ρ3 z z'->RS P QV ρ3 (match Instr.fill (fun i=>some (i * size,size)) ((Array.range (len * size)).map (fun x=>z[x % z.size]!)) a.toList with
    |some cells=>do let r <-newRow elem cells;pure (.slice (some r) len len)
    | _ => stuck "buildSlice: a part of the wrong size") (match Instr.fill (fun i => some (i * size, size)) ((Array.range (len * size)).map (fun x => z'[x % z'.size]!)) a'.toList with
    |some cells=>do let r <-newRow elem cells;pure (.slice (some r) len len)
    | _ => stuck "buildSlice: a part of the wrong size") := by
   intro ρ3 l3 z z' hz;rcases pq (fun i=>some (i * size,size)) (((h.mono l1).mono l2).mono l3) (hz.cyc (len * size)) with ⟨h1,h2⟩|⟨c,c',h1,h2,hc⟩
   .rw [h1,h2];exact ac _
   .rw [h1,h2];exact ag (dE elem hc) (fun ρ4 _ r r' hr=>aa (.slice _ _ (.some hr)))
  simp only;split
  .exact ah _
  .split
   .exact fin ρ2 (Ren.le_refl _) _ _ RVs.nil
   .exact ag (bi hZ elem) (fun ρ3 l3 z z' hz=>fin ρ3 l3 _ _ (RV.cellsRel hz))
 |_=>exact ac _
theorem bh {α β:Type}{Q:Ren->α->β->Prop}(m:String):RS P Q ρ (runtimePanic (.error m)) (runtimePanic (.error m)):=.program rfl (.halt (.panic (.iface _ (.string _))))
theorem mw {α β:Type}{Q:Ren->α->β->Prop}(m:String):RS P Q ρ (runtimePanic (.plain m)) (runtimePanic (.plain m)):=.program rfl (.halt (.panic (.iface _ (.string _))))
theorem fU (n:Nat):RS P QU ρ (askRoom n) (askRoom n):=by
 unfold askRoom;split
 .exact .mark .noRoom (.pure trivial)
 .exact aa trivial
theorem fo {v v':Wq}(hv:RV ρ v v'):RS P QE ρ (asInt v) (asInt v'):=by
 unfold asInt;exact ae (iJ hv) (fun ρ1 _ x=>aa rfl)
theorem pv {v v':Wq}(hv:RV ρ v v'):RS P QE ρ (Builtin.lenOf v) (Builtin.lenOf v'):=by
 cases hv<;>first|exact aa rfl|exact ac _
theorem cY (size n:Nat){v v':Wq}(hv:RV ρ v v'):RS P QVs ρ (Builtin.firstCells size n v) (Builtin.firstCells size n v'):=by
 cases hv with
 |slice m c h=>
  cases h with
  |none=>exact aa RVs.nil
  |some h=>exact fm h _
 |string s=>
  refine aa ⟨rfl,fun i v v' h1 h2=>?_⟩;rw [h1] at h2;cases h2;simp only [Array.getElem?_map] at h1;obtain ⟨b,-,rfl⟩:=Option.map_eq_some_iff.1 h1;exact .int _ _
 |_=>exact ac _
theorem RVs.append {a a' b b':Array Wq}(h:RVs ρ a a')(k:RVs ρ b b'):RVs ρ (a++b) (a'++b'):=by
 refine ⟨by simp [h.size,k.size],fun i v v' h1 h2=>?_⟩;rw [Array.getElem?_append] at h1 h2;rw [<-h.size] at h2;split at h1
 .rename_i hi;rw [if_pos hi] at h2;exact h.at_ i v v' h1 h2
 .rename_i hi;rw [if_neg hi] at h2;exact k.at_ _ v v' h1 h2
theorem RVs.zeros {z z':Array Wq}(h:RVs ρ z z')(n:Nat):RVs ρ (Builtin.zeroCells z n) (Builtin.zeroCells z' n):=by
 unfold Builtin.zeroCells;rw [<-h.size];have:=h.cyc (n * z.size);rw [<-h.size] at this;exact this
end
section
variable {P:Wx} [Two P] {ρ:Ren}
theorem BM {a a':Ww}(h:RA ρ a a')(n:Nat):RS P QE ρ (Builtin.holdsCells a n) (Builtin.holdsCells a' n):=by
 unfold Builtin.holdsCells;refine .shape h.1 (fun s=>?_);show RS P QE ρ (match s with|some (_,m)=>pure (a.spot.isNone&&a.off+n<=m)|none=>pure false) (match s with|some (_,m)=>pure (a'.spot.isNone&&a'.off+n<=m)|none=>pure false);rw [h.2.1,h.2.2];split<;>exact aa rfl
theorem DV (at_:Array Wk)(t:Wk){a a':Array Wq}(h:RVs ρ a a'):RS P QV ρ (Builtin.copy_ at_ t a) (Builtin.copy_ at_ t a'):=by
 unfold Builtin.copy_;rcases h.get 0 with ⟨h1,h2⟩|⟨d,d',h1,h2,hd⟩
 .rw [h1,h2];cases at_[0]?<;>exact ac _
 rcases h.get 1 with ⟨k1,k2⟩|⟨s,s',k1,k2,hs⟩
 .rw [h1,h2,k1,k2];cases at_[0]?<;>exact ac _
 rw [h1,h2,k1,k2];cases at_[0]? with
 |none=>exact ac _
 |some dt=>
  refine ae (ao dt) (fun ρ1 l1 ty=>?_);cases ty with
  |slice elem=>
   have hd1:=hd.mono l1;cases hd1 with
   |slice n c hb=>
    refine ae (pv (hs.mono l1)) (fun ρ2 l2 m=>?_);refine ae (bf elem) (fun ρ3 l3 z=>?_);refine ag (cY z _ (((hs.mono l1).mono l2).mono l3)) (fun ρ4 l4 c c' hc=>?_);have hb4:=((hb.mono l2).mono l3).mono l4;cases hb4 with
    |none=>exact aa (.int _ _)
    |some ha=>exact ag (bP c.toList c'.toList 0 ha (by simpa using hc.size) (fun j x x' e1 e2=>hc.at_ j x x' (by simpa using e1) (by simpa using e2))) (fun ρ5 _ _ _ _=>aa (.int _ _))
   |_=>exact ac _
  |_=>exact ac _
theorem tM (hS:ρ.F lq=true)(t:Wk){v v':Wq}(hv:RV ρ v v'):RS P QV ρ (Instr.makeChan t v) (Instr.makeChan t v'):=by
 unfold Instr.makeChan;refine ae (fo hv) (fun ρ1 l1 n=>?_);refine ae (ao t) (fun ρ2 l2 d=>?_);cases d with
 |chan a b=>
  refine ag (aB b) (fun ρ3 l3 i i' hi=>?_);obtain ⟨rfl,-⟩:=hi;simp only;split
  .exact mw _
  .exact .new (.chan _ _ _ _ _ _ _ _ _ (.inr RVs.nil) (.inr rfl)) (fun r r' _ _ _=>.pure (.chan (.some (.inr ⟨rfl,rfl⟩)))) (fun _=>by rw [l3.F,l2.F,l1.F];exact hS)
 |_=>exact ac _
def QO (r:Nat):Ren->Obj->Obj->Prop:=fun ρ o o'=>RO ρ o o'/\(ρ.old r->FF o)/\(ρ.ch r->o.isChan=true)
theorem dm {r r':Nat}(h:ρ r r'):RS P (QO r) ρ (getObj r) (getObj r'):=.getObj h (fun _o _o' ho h1 h2=>.pure ⟨ho,h1,h2⟩)
theorem BN (hS:ρ.F fS=true)(at_:Array Wk)(t:Wk){r r':Option Nat}(h:RNo ρ r r'):RS P QV ρ (Builtin.close_ at_ t #[.chan r]) (Builtin.close_ at_ t #[.chan r']):=by
 unfold Builtin.close_;cases h with
 |none=>exact mw _
 |some h=>
  refine ag (dm h) (fun ρ1 l1 o o' ho=>?_);obtain ⟨ho,hold,hch⟩:=ho;cases ho with
  |chan cap cap' cl cl' s q s' q' tm hb hcl=>
   have hS1:ρ1.F fS=true:=by rw [l1.F];exact hS
   have hcl:cl=cl':=hcl.resolve_left (by rw [ρ1.tight hS1];exact fun h=>by cases h);subst hcl;cases cl with
   |true=>exact mw _
   |false=>exact ag (Q:=QU) (.setObj (l1 _ _ h) (.chan cap cap' true true s q s' q' tm hb (.inr rfl)) (fun k=>by cases hold k) (fun _=>⟨hS1,_,_,_,_,_,rfl⟩) (.pure trivial) (fun _=>⟨hS1,_,_,_,_,_,rfl⟩)) (fun ρ2 _ _ _ _=>aa (.tuple rfl (fun i v v' e=>by simp at e)))
  |_=>exact ac _
def QN {α β:Type}:Ren->α->β->Prop:=fun _ _ _=>False
theorem aP {α β γ δ:Type}{Q':Ren->γ->δ->Prop}{x:Sem α}{x':Sem β}{f:α->Sem γ}{f':β->Sem δ}(h:RS P QN ρ x x'):RS P Q' ρ (x >>= f) (x' >>= f'):=ag h (fun _ _ _ _ hf=>hf.elim)
theorem fV {ρ:Ren}{a c d e:Nat}(h1:ρ a c)(h2:ρ d e):(a==d)=(c==e):=by
 by_cases h:a=d
 .subst h;have:=ρ.fn _ _ _ h1 h2;subst this;exact (beq_self_eq_true a).trans (beq_self_eq_true c).symm
 .have h':¬c=e:=fun e'=>h (ρ.inj _ _ _ h1 (e'▸h2))
  exact (beq_eq_false_iff_ne.2 h).trans (beq_eq_false_iff_ne.2 h').symm
theorem ie (a:Ww)(n:Nat):Calm (Builtin.holdsCells a n):=by
 unfold Builtin.holdsCells;refine .shape _ (fun s=>?_);show Calm (match s with|some (_,m)=>pure (a.spot.isNone&&a.off+n<=m)|none=>pure false);split<;>exact .pure _
theorem eA (size n m:Nat)(b:Option Ww)(x:Wq):Calm (Builtin.mayShare size n m b x):=by
 have jp:∀there:Bool,Calm
   (if (!there)=true then pure true else match (generalizing:=false) x with
    | .slice (some c) _ _=>do
     let u <-Builtin.holdsCells c (m * size)
     pure (!u||b.any (fun y=>y.block==c.block))
    |_=>pure false):=fun there=>by
  split
  .exact .pure _
  cases x with
  |slice a k c=>
   cases a with
   |none=>exact .pure _
   |some a=>exact (ie a _).bind (fun u=>.pure _)
  |_=>exact .pure _
 unfold Builtin.mayShare;cases b with
 |none=>exact Calm.bind (.pure true) (fun t=>jp t)
 |some a=>exact (ie a _).bind (fun t=>Calm.bind (.frozen _ (fun u=>.pure u)) (fun u=>Calm.bind (.pure _) (fun t=>jp t)))
end
section
variable {P:Wx} [Two P] {ρ:Ren}
theorem av {γ δ:Type}{Q:Ren->γ->δ->Prop}{c:Prop} [Decidable c]{x y:Sem γ}{x' y':Sem δ}(h1:c->RS P Q ρ x x')(h2:¬c->RS P Q ρ y y'):RS P Q ρ (if c then x else y) (if c then x' else y'):=by
 split
 .exact h1 (by assumption)
 .exact h2 (by assumption)
theorem cM (q:Question):RS P QE ρ (choose q) (choose q):=.choose _ (fun _=>.pure rfl)
theorem za (hZ:bu P)(at_:Array Wk)(t:Wk){a a':Array Wq}(h:RVs ρ a a'):RS P QV ρ (Builtin.append_ at_ t a) (Builtin.append_ at_ t a'):=by
 unfold Builtin.append_;rcases h.get 0 with ⟨h1,h2⟩|⟨s,s',h1,h2,hs⟩
 .rw [h1,h2];cases at_[0]?<;>exact ac _
 rcases h.get 1 with ⟨k1,k2⟩|⟨x,x',k1,k2,hx⟩
 .rw [h1,h2,k1,k2];cases at_[0]?<;>exact ac _
 rw [h1,h2,k1,k2];cases at_[0]? with
 |none=>exact ac _
 |some st=>
  refine ae (ao st) (fun ρ1 l1 ty=>?_);cases ty with
  |slice elem=>
   have hs1:=hs.mono l1;cases hs1 with
   | @slice b b' n c hb=>
    refine ae (bf elem) (fun ρ2 l2 size=>?_);have hx2:=(hx.mono l1).mono l2;have hb2:=hb.mono l2;clear hb hs hx l1 l2 h h1 h2 k1 k2;have happ:∀ (ρz:Ren) (zeros:Bool) (m:Nat),ρ2.le ρz->RS P QVs ρz
      (if (!zeros)=true then Builtin.firstCells size m x else if m * size=0 then pure #[] else do let z <-zeroValue elem;pure (Builtin.zeroCells z.cells m))
      (if (!zeros)=true then Builtin.firstCells size m x' else if m * size=0 then pure #[] else do let z <-zeroValue elem;pure (Builtin.zeroCells z.cells m)):=by
     intro ρz zeros m lz;refine av (fun _=>cY size m (hx2.mono lz)) (fun _=>av (fun _=>aa RVs.nil) (fun _=>?_));exact ag (bi hZ elem) (fun ρy _ z z' hz=>aa ((RV.cellsRel hz).zeros m))
    cases at_[1]? with
    |none=>
     refine ae (aa rfl) (fun ρ3 l3 zeros=>?_);refine av (fun _=>?_) (fun _=>?_)
     .refine ae (fo (hx2.mono l3)) (fun ρ4 l4 li=>?_);refine av (fun _=>aP (bh _)) (fun _=>?_);refine ag (aB elem) (fun ρ5 l5 i0 i0' hi0=>?_);obtain ⟨rfl,-⟩:=hi0;refine av (fun _=>ae (cM _) (fun ρ6 l6 made=>aP (bh _))) (fun _=>?_);refine ae (aa rfl) (fun ρk l6 m=>?_);have lk:=Ren.le_trans l3 (Ren.le_trans l4 (Ren.le_trans l5 l6));refine av (fun _=>?_) (fun _=>?_)
      .refine ag (happ ρk zeros m lk) (fun ρa la new new' hnew=>?_);have hba:=(hb2.mono lk).mono la;cases hba with
       |none=>exact aa (.slice _ _ .none)
       |some ha=>exact ag (bP new.toList new'.toList 0 (ha.add _) (by simpa using hnew.size) (fun j x x' e1 e2=>hnew.at_ j x x' (by simpa using e1) (by simpa using e2))) (fun ρb lb _ _ _=>aa (.slice _ _ (.some (ha.mono lb))))
      .refine ag (aB elem) (fun ρa la ia ia' hia=>?_);obtain ⟨rfl,-⟩:=hia;have lka:=Ren.le_trans lk la;refine av (fun _=>aP (bh _)) (fun _=>?_);refine ag (aB elem) (fun ρb lb ib ib' hib=>?_);obtain ⟨rfl,-⟩:=hib;have lkb:=Ren.le_trans lka lb;refine av (fun _=>aP (av (fun _=>bh _) (fun _=>?_))) (fun _=>?_)
       .exact .lost ((eA size n m _ _).lost (fun sh=>by cases sh<;>first|exact .mark _ (.halt rfl)|exact .halt rfl)) _
       .refine ae (cM _) (fun ρ9 l9 newCap=>?_);refine ag (aB elem) (fun ρc lc ic ic' hic=>?_);obtain ⟨rfl,-⟩:=hic;refine ag (fU _) (fun ρd ld _ _ _=>?_);have lkd:=Ren.le_trans lkb (Ren.le_trans l9 (Ren.le_trans lc ld));refine ag (cY size n (.slice n c (hb2.mono lkd))) (fun ρe le old old' hold=>?_);refine ag (happ ρe zeros m (Ren.le_trans lkd le)) (fun ρf lf new new' hnew=>?_);refine ag (bi hZ elem) (fun ρg lg z z' hz=>?_);exact ag (dE elem ((((hold.mono lf).mono lg).append (hnew.mono lg)).append ((RV.cellsRel hz).zeros _))) (fun ρh _ r r' hr=>aa (.slice _ _ (.some hr)))
     .refine ae (pv (hx2.mono l3)) (fun ρk l4 m=>?_);have lk:=Ren.le_trans l3 l4;refine av (fun _=>?_) (fun _=>?_)
      .refine ag (happ ρk zeros m lk) (fun ρa la new new' hnew=>?_);have hba:=(hb2.mono lk).mono la;cases hba with
       |none=>exact aa (.slice _ _ .none)
       |some ha=>exact ag (bP new.toList new'.toList 0 (ha.add _) (by simpa using hnew.size) (fun j x x' e1 e2=>hnew.at_ j x x' (by simpa using e1) (by simpa using e2))) (fun ρb lb _ _ _=>aa (.slice _ _ (.some (ha.mono lb))))
      .refine ag (aB elem) (fun ρa la ia ia' hia=>?_);obtain ⟨rfl,-⟩:=hia;have lka:=Ren.le_trans lk la;refine av (fun _=>aP (bh _)) (fun _=>?_);refine ag (aB elem) (fun ρb lb ib ib' hib=>?_);obtain ⟨rfl,-⟩:=hib;have lkb:=Ren.le_trans lka lb;refine av (fun _=>aP (av (fun _=>bh _) (fun _=>?_))) (fun _=>?_)
       .exact .lost ((eA size n m _ _).lost (fun sh=>by cases sh<;>first|exact .mark _ (.halt rfl)|exact .halt rfl)) _
       .refine ae (cM _) (fun ρ9 l9 newCap=>?_);refine ag (aB elem) (fun ρc lc ic ic' hic=>?_);obtain ⟨rfl,-⟩:=hic;refine ag (fU _) (fun ρd ld _ _ _=>?_);have lkd:=Ren.le_trans lkb (Ren.le_trans l9 (Ren.le_trans lc ld));refine ag (cY size n (.slice n c (hb2.mono lkd))) (fun ρe le old old' hold=>?_);refine ag (happ ρe zeros m (Ren.le_trans lkd le)) (fun ρf lf new new' hnew=>?_);refine ag (bi hZ elem) (fun ρg lg z z' hz=>?_);exact ag (dE elem ((((hold.mono lf).mono lg).append (hnew.mono lg)).append ((RV.cellsRel hz).zeros _))) (fun ρh _ r r' hr=>aa (.slice _ _ (.some hr)))
    |some xt=>
     refine ae (ao xt) (fun ρ30 l30 ty=>?_);refine ae (aa rfl) (fun ρ3 l31 zeros=>?_);have l3:=Ren.le_trans l30 l31;refine av (fun _=>?_) (fun _=>?_)
     .refine ae (fo (hx2.mono l3)) (fun ρ4 l4 li=>?_);refine av (fun _=>aP (bh _)) (fun _=>?_);refine ag (aB elem) (fun ρ5 l5 i0 i0' hi0=>?_);obtain ⟨rfl,-⟩:=hi0;refine av (fun _=>ae (cM _) (fun ρ6 l6 made=>aP (bh _))) (fun _=>?_);refine ae (aa rfl) (fun ρk l6 m=>?_);have lk:=Ren.le_trans l3 (Ren.le_trans l4 (Ren.le_trans l5 l6));refine av (fun _=>?_) (fun _=>?_)
      .refine ag (happ ρk zeros m lk) (fun ρa la new new' hnew=>?_);have hba:=(hb2.mono lk).mono la;cases hba with
       |none=>exact aa (.slice _ _ .none)
       |some ha=>exact ag (bP new.toList new'.toList 0 (ha.add _) (by simpa using hnew.size) (fun j x x' e1 e2=>hnew.at_ j x x' (by simpa using e1) (by simpa using e2))) (fun ρb lb _ _ _=>aa (.slice _ _ (.some (ha.mono lb))))
      .refine ag (aB elem) (fun ρa la ia ia' hia=>?_);obtain ⟨rfl,-⟩:=hia;have lka:=Ren.le_trans lk la;refine av (fun _=>aP (bh _)) (fun _=>?_);refine ag (aB elem) (fun ρb lb ib ib' hib=>?_);obtain ⟨rfl,-⟩:=hib;have lkb:=Ren.le_trans lka lb;refine av (fun _=>aP (av (fun _=>bh _) (fun _=>?_))) (fun _=>?_)
       .exact .lost ((eA size n m _ _).lost (fun sh=>by cases sh<;>first|exact .mark _ (.halt rfl)|exact .halt rfl)) _
       .refine ae (cM _) (fun ρ9 l9 newCap=>?_);refine ag (aB elem) (fun ρc lc ic ic' hic=>?_);obtain ⟨rfl,-⟩:=hic;refine ag (fU _) (fun ρd ld _ _ _=>?_);have lkd:=Ren.le_trans lkb (Ren.le_trans l9 (Ren.le_trans lc ld));refine ag (cY size n (.slice n c (hb2.mono lkd))) (fun ρe le old old' hold=>?_);refine ag (happ ρe zeros m (Ren.le_trans lkd le)) (fun ρf lf new new' hnew=>?_);refine ag (bi hZ elem) (fun ρg lg z z' hz=>?_);exact ag (dE elem ((((hold.mono lf).mono lg).append (hnew.mono lg)).append ((RV.cellsRel hz).zeros _))) (fun ρh _ r r' hr=>aa (.slice _ _ (.some hr)))
     .refine ae (pv (hx2.mono l3)) (fun ρk l4 m=>?_);have lk:=Ren.le_trans l3 l4;refine av (fun _=>?_) (fun _=>?_)
      .refine ag (happ ρk zeros m lk) (fun ρa la new new' hnew=>?_);have hba:=(hb2.mono lk).mono la;cases hba with
       |none=>exact aa (.slice _ _ .none)
       |some ha=>exact ag (bP new.toList new'.toList 0 (ha.add _) (by simpa using hnew.size) (fun j x x' e1 e2=>hnew.at_ j x x' (by simpa using e1) (by simpa using e2))) (fun ρb lb _ _ _=>aa (.slice _ _ (.some (ha.mono lb))))
      .refine ag (aB elem) (fun ρa la ia ia' hia=>?_);obtain ⟨rfl,-⟩:=hia;have lka:=Ren.le_trans lk la;refine av (fun _=>aP (bh _)) (fun _=>?_);refine ag (aB elem) (fun ρb lb ib ib' hib=>?_);obtain ⟨rfl,-⟩:=hib;have lkb:=Ren.le_trans lka lb;refine av (fun _=>aP (av (fun _=>bh _) (fun _=>?_))) (fun _=>?_)
       .exact .lost ((eA size n m _ _).lost (fun sh=>by cases sh<;>first|exact .mark _ (.halt rfl)|exact .halt rfl)) _
       .refine ae (cM _) (fun ρ9 l9 newCap=>?_);refine ag (aB elem) (fun ρc lc ic ic' hic=>?_);obtain ⟨rfl,-⟩:=hic;refine ag (fU _) (fun ρd ld _ _ _=>?_);have lkd:=Ren.le_trans lkb (Ren.le_trans l9 (Ren.le_trans lc ld));refine ag (cY size n (.slice n c (hb2.mono lkd))) (fun ρe le old old' hold=>?_);refine ag (happ ρe zeros m (Ren.le_trans lkd le)) (fun ρf lf new new' hnew=>?_);refine ag (bi hZ elem) (fun ρg lg z z' hz=>?_);exact ag (dE elem ((((hold.mono lf).mono lg).append (hnew.mono lg)).append ((RV.cellsRel hz).zeros _))) (fun ρh _ r r' hr=>aa (.slice _ _ (.some hr)))
   |_=>exact ac _
  |_=>exact ac _
end
section
variable {P:Wx} [Two P] {ρ:Ren}
theorem mh (t:Wk){v v':Wq}(hv:RV ρ v v'):RS P QV ρ (Instr.makeInterface t v) (Instr.makeInterface t v'):=by
 unfold Instr.makeInterface;refine ae (ao t) (fun ρ1 l1 d=>?_);cases d with
 |interface _=>exact ac _
 |_=>exact aa (.iface t (hv.mono l1))
theorem qR (hZ:bu P)(t:Wk){n n' c c':Wq}(hn:RV ρ n n')(hc:RV ρ c c'):RS P QV ρ (Instr.makeSlice t n c) (Instr.makeSlice t n' c'):=by
 unfold Instr.makeSlice;refine ae (ao t) (fun ρ1 l1 d=>?_);cases d with
 |slice elem=>
  refine ae (fo (hn.mono l1)) (fun ρ2 l2 len=>?_);refine ae (fo ((hc.mono l1).mono l2)) (fun ρ3 l3 cap=>?_);refine ag (aB elem) (fun ρ4 l4 i i' hi=>?_);obtain ⟨rfl,-⟩:=hi;refine av (fun _=>?_) (fun _=>?_)
  .refine av (fun _=>aP (bh _)) (fun _=>av (fun _=>aP (bh _)) (fun _=>?_));exact ae (cM _) (fun ρ5 l5 x=>aP (bh _))
  .refine ag (fU _) (fun ρ5 l5 _ _ _=>?_);refine ae (bf elem) (fun ρ6 l6 z=>?_);refine av (fun _=>?_) (fun _=>?_)
   .refine ag (Q:=QVs) (aa RVs.nil) (fun ρ7 l7 z z' hz=>?_);exact ag (dE elem (hz.cyc _)) (fun ρ8 _ r r' hr=>aa (.slice _ _ (.some hr)))
   .refine ag (bi hZ elem) (fun ρ7 l7 z z' hz=>?_);refine ag (Q:=QVs) (aa (RV.cellsRel hz)) (fun ρ7 l7 z z' hz=>?_);exact ag (dE elem (hz.cyc _)) (fun ρ8 _ r r' hr=>aa (.slice _ _ (.some hr)))
 |_=>exact ac _
theorem FH (at_:Array Wk)(hB:DR P .len at_=true)(t:Wk){a a':Array Wq}(h:RVs ρ a a'):RS P QV ρ (Builtin.len_ at_ t a) (Builtin.len_ at_ t a'):=by
 unfold Builtin.len_;rcases h.get 0 with ⟨h1,h2⟩|⟨x,x',h1,h2,hx⟩
 .rw [h1,h2];cases at_[0]?<;>exact ac _
 rw [h1,h2];cases ha0:at_[0]? with
 |none=>exact ac _
 |some u=>
  refine ag (aO u) (fun ρ1 l1 d d' hd=>?_);obtain ⟨rfl,hd⟩:=hd;have hx1:=hx.mono l1;cases d with
  |pointer arr=>
   refine ae (ao arr) (fun ρ2 l2 d=>?_);cases d with
   |array n e=>exact aa (.int _ _)
   |_=>exact ac _
  |chan d e=>simp [DR,ha0,hd] at hB
  |map k e=>
   cases hx1 with
   |map hr=>
    cases hr with
    |none=>exact aa (.int _ _)
    |some hr=>
     refine ag (dm hr) (fun ρ2 l2 o o' ho=>?_);obtain ⟨ho,-,-⟩:=ho;cases ho with
     |map c hm=>
      have:∀ (l l':List MapEntry),RMs ρ2 l l'->l.length=l'.length:=fun l l' h=>by
       induction h with
       |nil=>rfl
       |cons b hk h _ ih=>simp [ih]
      have hs:=this _ _ hm;simp only [lY] at hs;simp only [hs];exact aa (.int _ _)
     |_=>exact ac _
   |_=>exact ac _
  |_=>cases hx1<;>first|exact ac _|exact aa (.int _ _)
theorem FI (at_:Array Wk)(hB:DR P .cap at_=true)(t:Wk){a a':Array Wq}(h:RVs ρ a a'):RS P QV ρ (Builtin.cap_ at_ t a) (Builtin.cap_ at_ t a'):=by
 unfold Builtin.cap_;rcases h.get 0 with ⟨h1,h2⟩|⟨x,x',h1,h2,hx⟩
 .rw [h1,h2];cases at_[0]?<;>exact ac _
 rw [h1,h2];cases ha0:at_[0]? with
 |none=>exact ac _
 |some u=>
  refine ag (aO u) (fun ρ1 l1 d d' hd=>?_);obtain ⟨rfl,hd⟩:=hd;have hx1:=hx.mono l1;cases d with
  |pointer arr=>
   refine ae (ao arr) (fun ρ2 l2 d=>?_);cases d with
   |array n e=>exact aa (.int _ _)
   |_=>exact ac _
  |chan d e=>simp [DR,ha0,hd] at hB
  |_=>cases hx1<;>first|exact ac _|exact aa (.int _ _)
theorem mU (op:BinOp)(k:IntKind)(x y:Int):RS P QV ρ (Op.intArith op k x y) (Op.intArith op k x y):=by
 unfold Op.intArith;split<;>first|exact ac _|exact aa (.int _ _)
theorem zb (op:BinOp)(k:IntKind)(x y:Int):RS P QV ρ (Op.intDiv op k x y) (Op.intDiv op k x y):=by
 unfold Op.intDiv;refine av (fun _=>bh _) (fun _=>?_);split<;>first|exact ac _|exact aa (.int _ _)
theorem oq (op:BinOp)(k:IntKind)(x y:Int):RS P QV ρ (Op.intBits op k x y) (Op.intBits op k x y):=by
 unfold Op.intBits;cases op<;>first|exact ac _|exact aa (.int _ _)
theorem BO (op:BinOp)(k:IntKind)(x:Int)(yk:IntKind)(y:Int):RS P QV ρ (Op.shift op k x yk y) (Op.shift op k x yk y):=by
 unfold Op.shift;refine av (fun _=>bh _) (fun _=>?_);cases op<;>first|exact ac _|exact aa (.int _ _)
theorem zc (op:BinOp)(x y:Int):RS P QV ρ (Op.intCmp op x y) (Op.intCmp op x y):=by
 unfold Op.intCmp;cases op<;>first|exact ac _|exact aa (.bool _)
theorem mV (op:BinOp)(x y:ByteArray):RS P QV ρ (Op.stringOp op x y) (Op.stringOp op x y):=by
 unfold Op.stringOp;cases op with
 |add=>exact av (fun _=>ah _) (fun _=>aa (.string _))
 |_=>first|exact ac _|exact aa (.bool _)
theorem BP (op:UnOp){v v':Wq}(hv:RV ρ v v'):RS P QV ρ (Op.unary op v) (Op.unary op v'):=by
 unfold Op.unary;cases hv with
 |bool b=>cases op<;>first|exact ac _|exact aa (.bool _)
 |int k n=>cases op<;>first|exact ac _|exact mU _ _ _ _|exact oq _ _ _ _
 |pointer ha=>cases op<;>cases ha<;>first|exact ac _|exact ah _
 |_=>cases op<;>exact ac _
theorem BQ (hZ:bu P)(at_:Array Wk)(t:Wk){a a':Array Wq}(h:RVs ρ a a'):RS P QV ρ (Builtin.clear_ at_ t a) (Builtin.clear_ at_ t a'):=by
 unfold Builtin.clear_;have unit:∀ρ1:Ren,RS P QV ρ1 (pure (.tuple #[]):Sem Wq) (pure (.tuple #[])):=fun ρ1=>aa (.tuple rfl (fun i v v' e=>by simp at e))
 rcases h.get 0 with ⟨h1,h2⟩|⟨x,x',h1,h2,hx⟩
 .rw [h1,h2];cases at_[0]?<;>exact ac _
 rw [h1,h2];cases at_[0]? with
 |none=>exact ac _
 |some u=>
  refine ae (ao u) (fun ρ1 l1 d=>?_);have hx1:=hx.mono l1;cases hx1 with
  |map hr=>
   cases hr with
   |none=>cases d<;>exact unit ρ1
   |some hr=>
    cases d<;>exact ag (dm hr) (fun ρ2 l2 o o' ho=>by
     obtain ⟨ho,k1,k2⟩:=ho;cases ho with
     |map c hm=>exact ag (Q:=QU) (.setObj (l2 _ _ hr) (.map c .nil) (fun k=>by cases k1 k) (fun k=>by have:=k2 k;simp [Obj.isChan] at this) (.pure trivial)) (fun ρ3 l3 _ _ _=>unit ρ3)
     |_=>exact ac _)
  |slice n c ha=>
   cases ha with
   |none=>cases d<;>exact unit ρ1
   |some ha=>
    cases n with
    |zero=>cases d<;>exact unit ρ1
    |succ n=>
     cases d with
     |slice elem=>
      refine ag (bi hZ elem) (fun ρ2 l2 z z' hz=>?_);have hzz:=(RV.cellsRel hz).zeros (n+1);exact ag (bP _ _ 0 (ha.mono l2) (by simpa using hzz.size) (fun j x x' e1 e2=>hzz.at_ j x x' (by simpa using e1) (by simpa using e2))) (fun ρ3 _ _ _ _=>unit ρ3)
     |_=>exact ac _
  |_=>cases d<;>exact ac _
end
section
variable {P:Wx} [Two P] {ρ:Ren}
theorem eB {r r':Nat}(h:ρ r r'):RS P QE ρ (shape r) (shape r'):=.shape h (fun _=>.pure rfl)
theorem qS {r r':Nat}(h:ρ r r'):RS P (fun _ a b=>a=none/\b=none) ρ (viewAt r) (viewAt r'):=by
 unfold viewAt;refine ae (eB h) (fun ρ1 l1 s=>av (fun _=>aa ⟨rfl,rfl⟩) (fun _=>?_));refine ag (dm (l1 _ _ h)) (fun ρ2 l2 o o' ho=>?_);obtain ⟨ho,-,-⟩:=ho;cases ho with
 |dead _ hd=>cases o'<;>first|exact aa ⟨rfl,rfl⟩|simp [po] at hd
 |_=>exact aa ⟨rfl,rfl⟩
inductive Gy (ρ:Ren):Option (Ww×Bool)->Option (Ww×Bool)->Prop
 |none:Gy ρ none none
 |some {a a':Ww} (b:Bool) (h:RA ρ a a'):Gy ρ (some (a,b)) (some (a',b))
theorem mW {r r':Nat}(h:ρ r r'):RS P Gy ρ (numberAt r) (numberAt r'):=by
 unfold numberAt;refine ae (eB h) (fun ρ1 l1 s=>av (fun _=>aa .none) (fun _=>?_));refine ag (dm (l1 _ _ h)) (fun ρ2 l2 o o' ho=>?_);obtain ⟨ho,-,-⟩:=ho;cases ho with
 |number b h=>exact aa (.some b h)
 |dead _ hd=>cases o'<;>first|exact aa .none|simp [po] at hd
 |_=>exact aa .none
theorem mX {a a':Ww}(h:RA ρ a a'):RS P QU ρ (noView a) (noView a'):=by
 unfold noView;refine ag (qS h.1) (fun ρ1 l1 x y e=>?_);obtain ⟨rfl,rfl⟩:=e;exact aa trivial
theorem bZ (t:Wk):P.alt.underlying t=P.underlying t:=rfl
theorem dv (t:Wk):P.alt.cellsOf t=P.cellsOf t:=rfl
theorem gv (t:Wk):P.alt.bytesOf t=P.bytesOf t:=rfl
theorem ig:P.alt.depth=P.depth:=rfl
theorem iZ:∀ (d:Nat)(t:Wk)(o:Nat),byteOfCell P.alt d t o=byteOfCell P d t o:=by
 intro d;induction d with
 |zero=>intro t o;rfl
 |succ d ih=>
  intro t o;unfold byteOfCell;simp only [ih,bZ,dv,gv];rfl
theorem eU {a a':Ww}(h:RA ρ a a'):RS P QE ρ (byteOf a) (byteOf a'):=by
 unfold byteOf;rw [<-h.2.2];cases a.spot with
 |some s=>exact aa rfl
 |none=>
  refine aU ?_ ?_
  rotate_left
  .simp only [iZ,dv,ig,gv]
  refine ag (mX h) (fun ρ2 l2 _ _ _=>?_);refine ae (eB (l2 _ _ h.1)) (fun ρ3 l3 s=>?_);rcases s with - |⟨e,z⟩
  .exact ac _
  refine av (fun _=>aa rfl) (fun _=>?_);rw [<-h.2.1];cases byteOfCell P P.depth e (a.off % P.cellsOf e) with
  |none=>exact ac _
  |some b=>exact aa rfl
theorem zd {a a':Ww}(h:RA ρ a a')(c b:Nat):RS P QA ρ (partAt a c b) (partAt a' c b):=by
 unfold partAt;refine ae (eU h) (fun ρ1 l1 x=>?_);have hp:RA ρ1 {block:=a.block,off:=a.off+c} {block:=a'.block,off:=a'.off+c}:=⟨l1 _ _ h.1,by rw [h.2.1],rfl⟩;refine ae (eU hp) (fun ρ2 l2 y=>aa ?_);show RA ρ2 _ _;split
 .exact hp.mono l2
 .exact ⟨l2 _ _ hp.1,hp.2.1,rfl⟩
theorem pw {a a':Ww}(h:RA ρ a a')(f:Field):RS P QA ρ (fieldPlace a f) (fieldPlace a' f):=by
 unfold fieldPlace;refine ae (bf _) (fun ρ1 l1 x=>av (fun _=>zd (h.mono l1) _ _) (fun _=>aa ((h.mono l1).add _)))
theorem wW (s:Wk){v v':Wq}(hv:RV ρ v v')(f:Nat):RS P QV ρ (Instr.fieldAt s v f) (Instr.fieldAt s v' f):=by
 unfold Instr.fieldAt;refine ae (ao s) (fun ρ1 l1 d=>?_);cases d with
 |struct fields=>
  dsimp only;cases fields[f]? with
  |none=>exact ac _
  |some x=>
   refine ag (eT (hv.mono l1)) (fun ρ2 l2 a a' ha=>?_);exact ag (pw ha x) (fun ρ3 l3 b b' hb=>aa (.pointer (.some hb)))
 |_=>exact ac _
theorem wX (t:Wk){v v':Wq}(hv:RV ρ v v'){lo lo' hi hi' mx mx':Option Wq}(h1:∀v v',lo=some v->lo'=some v'->RV ρ v v')(h2:∀v v',hi=some v->hi'=some v'->RV ρ v v')(h3:∀v v',mx=some v->mx'=some v'->RV ρ v v')
  (e1:lo.isSome=lo'.isSome) (e2:hi.isSome=hi'.isSome) (e3:mx.isSome=mx'.isSome):RS P QV ρ (Instr.sliceAt t v lo hi mx) (Instr.sliceAt t v' lo' hi' mx'):=by
 unfold Instr.sliceAt;refine ae (ao t) (fun ρ1 l1 d=>?_);have hv1:=hv.mono l1;have g1:∀v v',lo=some v->lo'=some v'->RV ρ1 v v':=fun v v' a b=>(h1 v v' a b).mono l1
 have g2:∀v v',hi=some v->hi'=some v'->RV ρ1 v v':=fun v v' a b=>(h2 v v' a b).mono l1
 have g3:∀v v',mx=some v->mx'=some v'->RV ρ1 v v':=fun v v' a b=>(h3 v v' a b).mono l1
 cases d with
 |array n elem=>
  refine ag (eT hv1) (fun ρ2 l2 a a' ha=>?_);refine ae (dU false _ _ (fun v v' a b=>(g1 v v' a b).mono l2) (fun v v' a b=>(g2 v v' a b).mono l2) (fun v v' a b=>(g3 v v' a b).mono l2) e1 e2 e3) (fun ρ4 l4 x=>?_);obtain ⟨l,h,m⟩:=x;refine ae (bf elem) (fun ρ5 l5 z=>?_);refine aa (.slice _ _ (.some ?_));have ha5:=(ha.mono l4).mono l5;split
  .exact ha5
  .exact ha5.add _
 |_=>exact BL t hv1 g1 g2 g3 e1 e2 e3
theorem BR {a a' b b':Ww}(h:RA ρ a a')(k:RA ρ b b'):(a==b)=(a'==b'):=by
 have e:a=b↔a'=b':=by
  obtain ⟨r,o,s⟩:=a;obtain ⟨r',o',s'⟩:=a';obtain ⟨q,u,t⟩:=b;obtain ⟨q',u',t'⟩:=b';obtain ⟨h1,h2,h3⟩:=h;obtain ⟨k1,k2,k3⟩:=k;simp only at h1 h2 h3 k1 k2 k3;subst h2;subst h3;subst k2;subst k3;simp only [Addr.mk.injEq];constructor
  .rintro ⟨rfl,rfl,rfl⟩;exact ⟨ρ.fn _ _ _ h1 k1,rfl,rfl⟩
  .rintro ⟨rfl,rfl,rfl⟩;exact ⟨ρ.inj _ _ _ h1 k1,rfl,rfl⟩
 by_cases hab:a=b
 .exact (beq_iff_eq.2 hab).trans (beq_iff_eq.2 (e.1 hab)).symm
 .exact (beq_eq_false_iff_ne.2 hab).trans (beq_eq_false_iff_ne.2 (fun x=>hab (e.2 x))).symm
theorem mi {a a':Ww}(h:RA ρ a a')(hn:¬ρ.old a.block):RS P QU ρ (markStringish a) (markStringish a'):=by
 unfold markStringish;refine .shape h.1 (fun s=>?_);rcases s with - |⟨e,z⟩
 .exact .pure trivial
 .exact .freeze 1 ⟨h.1,rfl,rfl⟩ hn (.pure trivial)
def QAn:Ren->Ww->Ww->Prop:=fun ρ a a'=>RA ρ a a'/\¬ρ.old a.block
theorem wY (e:Wk){c c':Array Wq}(h:RVs ρ c c'):RS P QAn ρ (newRow e c) (newRow e c'):=by
 unfold newRow;exact .new (.cells e (.inl rfl) h) (fun r r' _ _ hn=>.pure ⟨⟨.inr ⟨rfl,rfl⟩,rfl,rfl⟩,hn⟩)
theorem RVs.self {c:Array Wq}(h:∀ (i:Nat) v,c[i]?=some v->RV ρ v v):RVs ρ c c:=⟨rfl,fun i v v' e e'=>by rw [e] at e';cases e';exact h i v e⟩
theorem mj (e:Wk)(s:ByteArray):RS P QV ρ (Conv.stringToBytes e s) (Conv.stringToBytes e s):=by
 unfold Conv.stringToBytes;refine ae (cM _) (fun ρ1 l1 cap=>?_);refine ag (wY e (RVs.append (RVs.self (fun i v h=>?_)) (RVs.self (fun i v h=>?_)))) (fun ρ2 l2 a a' ha=>?_)
 .simp only [Array.getElem?_map,Option.map_eq_some_iff] at h;obtain ⟨x,-,rfl⟩:=h;exact .int _ _
 .rw [Array.getElem?_replicate] at h;split at h
  .cases h;exact .int _ _
  .cases h
 exact ag (mi ha.1 ha.2) (fun ρ3 l3 _ _ _=>aa (.slice _ _ (.some (ha.1.mono l3))))
end
section
variable {P:Wx} [Two P]
theorem fp {α α' σ:Type}:∀ (l:List α)(l':List α')(s:σ){ρ:Ren}(R:Ren->α->α'->Prop)(_hm:∀ρ ρ' a a',Ren.le ρ ρ'->R ρ a a'->R ρ' a a')(f:α->σ->Sem (ForInStep σ))(f':α'->σ->Sem (ForInStep σ)),
  l.length=l'.length->(∀ (j:Nat) a a',l[j]?=some a->l'[j]?=some a'->R ρ a a')->(∀ρ',ρ.le ρ'->∀a a' s,R ρ' a a'->RS P QE ρ' (f a s) (f' a' s))->RS P QE ρ (forIn l s f) (forIn l' s f'):=by
 intro l;induction l with
 |nil=>
  intro l' s ρ R hm f f' hl _ _;cases l' with
  |nil=>simp only [List.forIn_nil];exact aa rfl
  |cons _ _=>simp at hl
 |cons x l ih=>
  intro l' s ρ R hm f f' hl hR hf;cases l' with
  |nil=>simp at hl
  |cons x' l'=>
   simp only [List.forIn_cons];refine ae (hf ρ (Ren.le_refl _) x x' s (hR 0 x x' rfl rfl)) (fun ρ1 l1 r=>?_);cases r with
   |done r=>exact aa rfl
   |yield r=>exact ih l' r R hm f f' (by simpa using hl) (fun j a a' h1 h2=>hm _ _ _ _ l1 (hR (j+1) a a' (by simpa using h1) (by simpa using h2))) (fun ρ' l'=>hf ρ' (Ren.le_trans l1 l'))
theorem lr {α σ:Type}{ρ:Ren}(l:List α)(s:σ)(f f':α->σ->Sem (ForInStep σ))(hf:∀ρ',ρ.le ρ'->∀a s,RS P QE ρ' (f a s) (f' a s)):RS P QE ρ (forIn l s f) (forIn l s f'):=
 fp l l s (fun _ a a'=>a=a') (fun _ _ _ _ _ h=>h) f f' rfl (fun j a a' h1 h2=>by rw [h1] at h2;exact oJ h2) (fun ρ' l a a' s h=>by subst h;exact hf ρ' l a s)
variable {ρ:Ren}
theorem ml {v v':Wq}(hv:RV ρ v v'):RS P QV ρ (Conv.bytesToString v) (Conv.bytesToString v'):=by
 unfold Conv.bytesToString;cases hv with
 |slice n c ha=>
  cases ha with
  |none=>exact aa (.string _)
  |some ha=>
   refine ag (fm ha n) (fun ρ1 l1 c c' hc=>?_);simp only [<-Array.forIn_toList];refine ae (fp c.toList c'.toList _ (fun ρ a a'=>RV ρ a a') (fun _ _ _ _ l h=>h.mono l) _ _ (by simpa using hc.size) (fun j a a' h1 h2=>hc.at_ j a a' (by simpa using h1) (by simpa using h2)) (fun ρ' l a a' s h=>?_)) (fun ρ2 l2 s=>aa (.string _));cases h with
   |int k n=>cases k<;>first|exact ac _|exact aa rfl
   |_=>exact ac _
 |_=>exact ac _
theorem mm {v v':Wq}(hv:RV ρ v v'):RS P QV ρ (Conv.runesToString v) (Conv.runesToString v'):=by
 unfold Conv.runesToString;cases hv with
 |slice n c ha=>
  cases ha with
  |none=>exact aa (.string _)
  |some ha=>
   refine ag (fm ha n) (fun ρ1 l1 c c' hc=>?_);simp only [<-Array.forIn_toList];refine ae (fp c.toList c'.toList _ (fun ρ a a'=>RV ρ a a') (fun _ _ _ _ l h=>h.mono l) _ _ (by simpa using hc.size) (fun j a a' h1 h2=>hc.at_ j a a' (by simpa using h1) (by simpa using h2)) (fun ρ' l a a' s h=>?_)) (fun ρ2 l2 s=>aa (.string _));cases h with
   |int k n=>cases k<;>first|exact ac _|exact aa rfl
   |_=>exact ac _
 |_=>exact ac _
end
def strip (fn:Func):Func:={fn with body:=fn.body.map (fun _=>.skip)}
structure GId (P:Wx) [Two P](ρ:Ren):Prop where
 glob:∀g,g<P.globals.size->ρ g g
 prog:ρ.prog=P
 code:∀ (f:FuncId) fn b,ρ.F f=true->P.funcs[f]?=some fn->fn.body=some b->aA P ρ.F b=true
 alt:∀f,ρ.F f=true->P.alt.funcs[f]?=P.funcs[f]?
 free:ρ.F lp=true->∀a,¬ρ.old a
 same:∀f:Nat,(P.alt.funcs[f]?).map strip=(P.funcs[f]?).map strip
 size:P.alt.funcs.size=P.funcs.size
 apart:∀f,Mk ρ.F f=true->∃a b,P.alt.funcs[f]?=some a/\P.funcs[f]?=some b/\a.body.isSome=true/\b.body.isSome=true/\a.name=b.name
theorem GId.mono {P:Wx} [Two P]{ρ ρ':Ren}(h:GId P ρ)(l:ρ.le ρ'):GId P ρ':=⟨fun g hg=>l _ _ (h.glob g hg),l.prog.trans h.prog,by rw [l.F];exact h.code,by rw [l.F];exact h.alt,by rw [l.F,l.old];exact h.free,h.same,h.size,by rw [l.F];exact h.apart⟩
theorem GId.lt {P:Wx} [Two P]{ρ:Ren}(h:GId P ρ){a b:Nat}(k:ρ a b):(a<P.globals.size)↔(b<P.globals.size):=by
 constructor
 .intro e;rw [<-ρ.fn _ _ _ (h.glob a e) k];exact e
 .intro e;rw [ρ.inj _ _ _ k (h.glob b e)];exact e
section
variable {P:Wx} [Two P]
theorem aQ {ρ:Ren}{a a':Ww}(h:RA ρ a a'):RS P (fun ρ x y=>RA ρ x.1 y.1/\x.2=y.2) ρ (behindNumber a) (behindNumber a'):=by
 unfold behindNumber;refine ag (mW h.1) (fun ρ1 l1 x y e=>?_);cases e with
 |none=>exact aa ⟨h.mono l1,rfl⟩
 |some b h=>exact aa ⟨h,rfl⟩
theorem DW {ρ:Ren}{r r' q q':Option Nat}(h:RNo ρ r r')(k:RNo ρ q q'):(r==q)=(r'==q'):=by
 cases h with
 |none=>cases k<;>rfl
 |some h=>
  cases k with
  |none=>rfl
  |some k=>exact fV h k
theorem iK (d:Nat){ρ:Ren}(hI:GId P ρ)(t:Wk){x x' y y':Wq}(hx:RV ρ x x')(hy:RV ρ y y')(hn:gO (P.underlying t)=true\/Bv x=true\/Bv y=true):RS P QE ρ (Op.equalIn d t x y) (Op.equalIn d t x' y'):=by
 cases d with
 |zero=>exact ah _
 |succ d=>
  unfold Op.equalIn;refine ag (aO t) (fun ρ1 l1 ty ty' hd=>?_);obtain ⟨rfl,hd⟩:=hd;have hI1:=hI.mono l1;have hx1:=hx.mono l1;have hy1:=hy.mono l1;clear hI hx hy l1;cases ty with
  |bool=>cases hx1<;>first|exact ac _|(cases hy1<;>first|exact ac _|exact aa rfl)
  |string=>cases hx1<;>first|exact ac _|(cases hy1<;>first|exact ac _|exact aa rfl)
  |chan u e=>
   cases hx1 with
   |chan h=>
    cases hy1 with
    |chan k=>exact aa (DW h k)
    |_=>exact ac _
   |_=>exact ac _
  |func a b c=>cases hx1<;>first|exact ac _|(cases hy1<;>first|exact ac _|exact aa rfl)
  |slice e=>
   cases hx1 with
   |slice n c h=>
    cases hy1 with
    |slice n' c' k=>cases h<;>cases k<;>first|exact ac _|exact aa rfl
    |_=>cases h<;>exact ac _
   |_=>exact ac _
  |map u e=>
   cases hx1 with
   |map h=>
    cases hy1 with
    |map k=>cases h<;>cases k<;>first|exact ac _|exact aa rfl
    |_=>cases h<;>exact ac _
   |_=>exact ac _
  |pointer elem=>
   cases hx1 with
   |pointer h=>
    cases hy1 with
    |pointer k=>
     cases h with
     |none=>cases k<;>exact aa rfl
     |some h=>
      cases k with
      |none=>exact aa rfl
      |some k=>simp [hd,gO,Bv] at hn
    |_=>cases h<;>exact ac _
   |_=>exact ac _
  |unsafePointer=>
   cases hx1 with
   |pointer h=>
    cases hy1 with
    |pointer k=>
     show RS P QE ρ1 (samePointer _ _) (samePointer _ _);unfold samePointer;cases h with
     |none=>cases k<;>exact aa rfl
     |some h=>
      cases k with
      |none=>exact aa rfl
      |some k=>simp [hd,gO,Bv] at hn
    |_=>exact ac _
   |_=>exact ac _
  |interface ms=>
   cases hx1 with
   |nilIface=>cases hy1<;>first|exact ac _|exact aa rfl
   |iface tx hv=>
    cases hy1 with
    |nilIface=>exact aa rfl
    |iface ty hw=>simp [hd,gO,Bv] at hn
    |_=>exact ac _
   |_=>exact ac _
  |int kk=>
   cases hx1 with
   |int k n=>
    cases hy1 with
    |int k' n'=>exact av (fun _=>aa rfl) (fun _=>ac _)
    |pointer h=>cases h<;>rcases n with (_|m)|m<;>first|exact aa rfl|exact ah _
    |_=>exact ac _
   |pointer h=>
    cases hy1 with
    |int k n=>cases h<;>rcases n with (_|m)|m<;>first|exact aa rfl|exact ah _
    |pointer k=>
     cases h with
     |none=>cases k<;>exact ah _
     |some h=>
      cases k with
      |none=>exact ah _
      |some k=>
       refine ag (aQ h) (fun ρ2 l2 a a' ha=>?_);refine ag (aQ (k.mono l2)) (fun ρ3 l3 b b' hb=>?_);have ha3:=ha.1.mono l3;have hb3:=hb.1;refine aU ?_;have hI3:=(hI1.mono l2).mono l3;have e1:(a.1.block==b.1.block)=(a'.1.block==b'.1.block):=fV ha3.1 hb3.1;have e2:decide (a.1.block<P.globals.size)=decide (a'.1.block<P.globals.size):=decide_eq_decide.2 (hI3.lt ha3.1);rw [e1,e2,BR ha3 hb3];refine av (fun _=>?_) (fun _=>?_)
       .refine ae (eU ha3) (fun ρ4 l4 x=>?_);exact ae (eU (hb3.mono l4)) (fun ρ5 l5 y=>aa rfl)
       .refine ag (aB t) (fun ρ4 l4 i i' hi=>?_);obtain ⟨rfl,-⟩:=hi;split
        .exact av (fun _=>aa rfl) (fun _=>ah _)
        .exact ah _
    |_=>cases h<;>exact ah _
   |_=>
    cases hy1<;>first|exact ac _|exact ah _
  |struct fs=>
   cases hx1 with
   |agg hc hR=>
    cases hy1 with
    |agg kc kR=>simp [hd,gO,Bv] at hn
    |_=>exact ac _
   |_=>exact ac _
  |array n e=>
   cases hx1 with
   |agg hc hR=>
    cases hy1 with
    |agg kc kR=>simp [hd,gO,Bv] at hn
    |_=>exact ac _
   |_=>exact ac _
  |float k=>cases hx1<;>exact ac _
  |complex k=>cases hx1<;>exact ac _
  |_=>exact ac _
end
section
variable {P:Wx} [Two P]
theorem mY:∀ (d:Nat)(t:Wk),P.alt.eqGuardType d t=P.eqGuardType d t:=by
 intro d;induction d with
 |zero=>intro t;rfl
 |succ d ih=>
  intro t;unfold Program.eqGuardType;simp only [ih,bZ]
theorem oa:∀ (d:Nat)(t:Wk)(o:Nat),cellOfByte P.alt d t o=cellOfByte P d t o:=by
 intro d;induction d with
 |zero=>intro t o;rfl
 |succ d ih=>
  intro t o;unfold cellOfByte;simp only [ih,bZ,dv,gv];rfl
theorem mZ (d:Nat)(e:Wk)(c o:Nat)(b:Int):cellAtBytes P.alt d e c o b=cellAtBytes P d e c o b:=by
 unfold cellAtBytes;simp only [oa,iZ,dv,gv];rfl
theorem lu (d:Nat):∀ {ρ:Ren}(t:Wk){x x' y y':Wq},RV ρ x x'->RV ρ y y'->RS P QE ρ (Op.eqGuardIn d t x y) (Op.eqGuardIn d t x' y'):=by
 induction d with
 |zero=>intro ρ t x x' y y' _ _;exact ah _
 |succ d ih=>
  intro ρ t x x' y y' hx hy;unfold Op.eqGuardIn;refine ae (ao t) (fun ρ1 l1 ty=>?_);have hx1:=hx.mono l1;have hy1:=hy.mono l1;clear hx hy l1;cases ty with
  |interface ms=>
   cases hx1 with
   |nilIface=>
    cases hy1 with
    |dead _ h=>cases y'<;>first|exact aa rfl|simp [gX] at h
    |_=>exact aa rfl
   |dead _ h=>cases x'<;>first|exact aa rfl|simp [gX] at h
   |_=>exact aa rfl
  |struct fs=>
   cases hx1 with
   |agg hc hR=>
    cases hy1 with
    |agg kc kR=>
     have hxs:RVs ρ1 _ _:=⟨hc,hR⟩;have hys:RVs ρ1 _ _:=⟨kc,kR⟩;dsimp only;simp only [<-Array.forIn_toList];refine ae (lr fs.toList _ _ _ (fun ρ' l f s=>?_)) (fun ρ2 l2 s=>?_)
     .refine av (fun _=>?_) (fun _=>aa rfl);refine ag (g9 f.type (hxs.mono l) _) (fun ρ3 l3 u u' hu=>?_);refine ag (g9 f.type ((hys.mono l).mono l3) _) (fun ρ4 l4 w w' hw=>?_);refine ae (ih f.type (hu.mono l4) hw) (fun ρ5 l5 b=>?_);exact av (fun _=>aa rfl) (fun _=>aa rfl)
     .obtain ⟨s,-⟩:=s;cases s<;>exact aa rfl
    |dead _ h=>cases y'<;>first|exact aa rfl|simp [gX] at h
    |_=>exact aa rfl
   |dead _ h=>cases x'<;>first|exact aa rfl|simp [gX] at h
   |_=>exact aa rfl
  |array n e=>
   cases hx1 with
   |agg hc hR=>
    cases hy1 with
    |agg kc kR=>
     have hxs:RVs ρ1 _ _:=⟨hc,hR⟩;have hys:RVs ρ1 _ _:=⟨kc,kR⟩;refine ae (bf e) (fun ρ0 l0 z=>?_);dsimp only;simp only [Std.Legacy.Range.forIn_eq_forIn_range'];refine ae (lr _ _ _ _ (fun ρ' l i s=>?_)) (fun ρ2 l2 s=>?_)
     .refine ag (g9 e ((hxs.mono l0).mono l) _) (fun ρ3 l3 u u' hu=>?_);refine ag (g9 e (((hys.mono l0).mono l).mono l3) _) (fun ρ4 l4 w w' hw=>?_);refine ae (ih e (hu.mono l4) hw) (fun ρ5 l5 b=>?_);exact av (fun _=>aa rfl) (fun _=>aa rfl)
     .obtain ⟨s,-⟩:=s;cases s<;>exact aa rfl
    |dead _ h=>cases y'<;>first|exact aa rfl|simp [gX] at h
    |_=>exact aa rfl
   |dead _ h=>cases x'<;>first|exact aa rfl|simp [gX] at h
   |_=>exact aa rfl
  |_=>exact aa rfl
variable {ρ:Ren}
theorem wZ (op:BinOp)(t:Wk)(x y:Operand){a a' b b':Wq}(ha:RV ρ a a')(hb:RV ρ b b'):RS P QU ρ (eqGuard op t x y a b) (eqGuard op t x y a' b'):=by
 unfold eqGuard;refine av (fun _=>aa trivial) (fun _=>?_);cases ha with
 |nilIface=>
  cases hb with
  |nilIface=>
   refine av (fun _=>aa trivial) (fun _=>?_);exact ae (lu _ t .nilIface .nilIface) (fun ρ1 l1 g=>av (fun _=>ah _) (fun _=>aa trivial))
  |dead _ h=>cases b'<;>first|exact aa trivial|simp [gX] at h
  |_=>exact aa trivial
 |agg hc hR=>
  cases hb with
  |agg kc kR=>
   refine aU (aU ?_) (by simp only [mY]);refine av (fun _=>aa trivial) (fun _=>?_);exact ae (lu _ t (.agg hc hR) (.agg kc kR)) (fun ρ1 l1 g=>av (fun _=>ah _) (fun _=>aa trivial))
  |dead _ h=>cases b'<;>first|exact aa trivial|simp [gX] at h
  |_=>exact aa trivial
 |dead _ h=>cases a'<;>first|exact aa trivial|simp [gX] at h
 |_=>exact aa trivial
theorem lw (hI:GId P ρ){a a' b b':Ww}(h:RA ρ a a')(k:RA ρ b b'):RS P QE ρ (Op.twoPlaces a b) (Op.twoPlaces a' b'):=by
 unfold Op.twoPlaces;have e1:(a.block != b.block)=(a'.block != b'.block):=congrArg (! ·) (fV h.1 k.1);have e2:decide (a.block ≥ P.globals.size)=decide (a'.block ≥ P.globals.size):=decide_eq_decide.2 (by have:=hI.lt h.1;omega);refine aU ?_;rw [e1,e2];refine av (fun _=>aP (ah _)) (fun _=>?_);refine ae (eU h) (fun ρ1 l1 x=>?_);exact ae (eU (k.mono l1)) (fun ρ2 l2 y=>aa rfl)
theorem xb (hI:GId P ρ)(kk:IntKind){a a' b b':Ww}(h:RA ρ a a')(k:RA ρ b b'):RS P QV ρ (Op.addrSub kk a b) (Op.addrSub kk a' b'):=by
 unfold Op.addrSub;exact ae (lw hI h k) (fun ρ1 l1 x=>aa (.int _ _))
theorem xc (hI:GId P ρ)(op:BinOp){a a' b b':Ww}(h:RA ρ a a')(k:RA ρ b b'):RS P QV ρ (Op.addrCmp op a b) (Op.addrCmp op a' b'):=by
 unfold Op.addrCmp;exact ae (lw hI h k) (fun ρ1 l1 x=>by cases op<;>first|exact ah _|exact aa (.bool _))
theorem kj (kk:IntKind){a a':Ww}(h:RA ρ a a')(n:Int):RS P QV ρ (Op.addrMod kk a n) (Op.addrMod kk a' n):=by
 unfold Op.addrMod;refine ae (eB h.1) (fun ρ1 l1 s=>?_);rcases s with - |⟨e,z⟩
 .exact ah _
 refine ag (aB e) (fun ρ2 l2 i i' hi=>?_);obtain ⟨rfl,-⟩:=hi;refine av (fun _=>aP (ah _)) (fun _=>?_);exact ae (eU ((h.mono l1).mono l2)) (fun ρ3 l3 x=>aa (.int _ _))
def QP:Ren->Wq->Wq->Prop:=fun ρ v v'=>∃a a',v=.pointer a/\v'=.pointer a'/\RAo ρ a a'
theorem QP.val {ρ:Ren}{v v':Wq}(h:QP ρ v v'):RV ρ v v':=by
 obtain ⟨a,a',rfl,rfl,h⟩:=h;exact .pointer h
theorem fq (at_:Array Wk)(t:Wk){b b':Option Ww}(h0:RAo ρ b b'){y y':Wq}(hy:RV ρ y y'):RS P QP ρ (Builtin.unsafeAdd_ at_ t #[.pointer b,y]) (Builtin.unsafeAdd_ at_ t #[.pointer b',y']):=by
 unfold Builtin.unsafeAdd_;refine ae (fo hy) (fun ρ1 l1 n=>?_);have h1:=h0.mono l1;refine av (fun _=>?_) (fun _=>?_)
 .cases h1 with
  |none=>exact ah _
  |some h=>
   refine ag (qS h.1) (fun ρ2 l2 x y e=>?_);obtain ⟨rfl,rfl⟩:=e;exact aa ⟨_,_,rfl,rfl,.some (h.mono l2)⟩
 .refine av (fun _=>aP (ah _)) (fun _=>?_);cases h1 with
  |none=>exact ah _
  |some h=>
   refine ae (eB h.1) (fun ρ2 l2 s=>?_);rcases s with - |⟨e,z⟩
   .exact ah _
   refine aU ?_ ?_
   rotate_left
   .simp only [mZ,dv,ig]
   rw [<-h.2.1];split
   .exact aa ⟨_,_,rfl,rfl,.some ⟨l2 _ _ h.1,rfl,h.2.2⟩⟩
   .exact ah _
theorem fG (t:Wk){x x' y y':Wq}(hx:RV ρ x x')(hy:RV ρ y y')(hp:∃a,x=.pointer a):RS P QV ρ (movedNumber t x y) (movedNumber t x' y'):=by
 obtain ⟨a,rfl⟩:=hp;unfold movedNumber;refine ae (ao t) (fun ρ1 l1 d=>av (fun _=>aP (ah _)) (fun _=>?_));cases hx with
 |pointer h=>
  cases h with
  |none=>exact (fq #[] t .none (hy.mono l1)).imp (fun _ _ _ h=>h.val)
  |some h=>
   refine ag (aQ (h.mono l1)) (fun ρ2 l2 a a' ha=>?_);obtain ⟨a,lost⟩:=a;obtain ⟨a',lost'⟩:=a';obtain ⟨ha,hl⟩:=ha;simp only at ha hl;subst hl;refine ag (fq #[] t (.some ha) ((hy.mono l1).mono l2)) (fun ρ3 l3 v v' hv=>?_);obtain ⟨b,b',rfl,rfl,k⟩:=hv;cases k with
   |none=>exact aa (.pointer .none)
   |some k=>
    unfold asNumber;exact ag (Q:=fun ρ r r'=>ρ r r') (.new (.number lost k) (fun r r' _ _ _=>.pure (.inr ⟨rfl,rfl⟩))) (fun ρ4 l4 r r' hr=>aa (.pointer (.some ⟨hr,rfl,rfl⟩)))
theorem m0 (t:Wk){x x' y y':Wq}(hx:RV ρ x x')(hy:RV ρ y y')(hp:∃a,x=.pointer a):RS P QV ρ (movedPointer t x y) (movedPointer t x' y'):=by
 obtain ⟨a,rfl⟩:=hp;unfold movedPointer;cases hx with
 |pointer h=>
  cases h with
  |none=>exact (fq #[] t .none hy).imp (fun _ _ _ h=>h.val)
  |some h=>
   refine ag (mW h.1) (fun ρ1 l1 u u' hu=>?_);cases hu with
   |none=>exact (fq #[] t (.some (h.mono l1)) (hy.mono l1)).imp (fun _ _ _ h=>h.val)
   |some b k=>exact aP (ah _)
theorem tN (d:Nat)(t:Wk)(y:Wq):cK P (Op.equalIn d t (.tuple #[]) y):=by
 cases d with
 |zero=>exact .halt rfl
 |succ d=>
  unfold Op.equalIn;refine .program (fun p _=>?_)
  show cK P (Sem.bind (match p.underlying t with | some i => Pure.pure i | none => stuck "no such type") _)
  cases p.underlying t with
  |none=>exact .halt rfl
  |some ty=>cases ty<;>cases y<;>exact .halt rfl
theorem m7 (d:Nat)(t:Wk)(x:Wq):cK P (Op.equalIn d t x (.tuple #[])):=by
 cases d with
 |zero=>exact .halt rfl
 |succ d=>
  unfold Op.equalIn;refine .program (fun p _=>?_)
  show cK P (Sem.bind (match p.underlying t with | some i => Pure.pure i | none => stuck "no such type") _)
  cases p.underlying t with
  |none=>exact .halt rfl
  |some ty=>
   cases x with
   |pointer a=>cases ty<;>cases a<;>exact .halt rfl
   |slice a n c=>cases ty<;>cases a<;>exact .halt rfl
   |map a=>cases ty<;>cases a<;>exact .halt rfl
   |int k n=>cases ty<;>rcases n with (_|m)|m<;>exact .halt rfl
   |_=>cases ty<;>exact .halt rfl
theorem tP (op:BinOp)(t:Wk)(y:Wq):cK P (binOp op t (.tuple #[]) y):=by
 unfold binOp;cases op<;>first
  |exact (tN _ t y).bind _
  |(cases y<;>exact .halt rfl)
theorem gw (op:BinOp)(t:Wk)(x:Wq):cK P (binOp op t x (.tuple #[])):=by
 unfold binOp;cases x with
 |pointer a=>cases a<;>cases op<;>first|exact (m7 _ t _).bind _|exact .halt rfl
 |_=>cases op<;>first|exact (m7 _ t _).bind _|exact .halt rfl
theorem BS (hI:GId P ρ)(op:BinOp)(t:Wk){x x' y y':Wq}(hx:RV ρ x x')(hy:RV ρ y y')(hn:(op=.eql\/op=.neq)->RS P QE ρ (Op.equal t x y) (Op.equal t x' y')):RS P QV ρ (binOp op t x y) (binOp op t x' y'):=by
 have eqq:RS P QE ρ (Op.equal t x y) (Op.equal t x' y')->∀b:Bool,RS P QV ρ (do let e <-Op.equal t x y;pure (Value.bool (if b then !e else e))) (do let e <-Op.equal t x' y';pure (Value.bool (if b then !e else e))):=fun h b=>ae h (fun ρ1 l1 e=>aa (.bool _))
 have hx0:=hx;have hy0:=hy;unfold binOp;cases hx with
 |dead _ _=>exact .lost (tP op t y) _
 |pointer h=>
  cases hy with
  |dead _ _=>exact .lost (gw op t _) _
  |pointer k=>
   cases h with
   |none=>cases k<;>cases op<;>first|exact ac _|exact ah _|exact eqq (hn (.inl rfl)) false|exact eqq (hn (.inr rfl)) true
   |some h=>
    cases k with
    |none=>cases op<;>first|exact ac _|exact ah _|exact eqq (hn (.inl rfl)) false|exact eqq (hn (.inr rfl)) true
    |some k=>
     cases op<;>first
      |exact ah _
      |exact eqq (hn (.inl rfl)) false
      |exact eqq (hn (.inr rfl)) true
      |exact ag (aQ h) (fun ρ1 l1 a a' ha=>ag (aQ (k.mono l1)) (fun ρ2 l2 b b' hb=>xb ((hI.mono l1).mono l2) _ (ha.1.mono l2) hb.1))
      |exact ag (aQ h) (fun ρ1 l1 a a' ha=>ag (aQ (k.mono l1)) (fun ρ2 l2 b b' hb=>xc ((hI.mono l1).mono l2) _ (ha.1.mono l2) hb.1))
  |int k n=>
   cases op with
   |add=>exact ae (ao t) (fun ρ1 l1 d=>av (fun _=>m0 t (hx0.mono l1) (hy0.mono l1) ⟨_,rfl⟩) (fun _=>fG t (hx0.mono l1) (hy0.mono l1) ⟨_,rfl⟩))
   |sub=>exact fG t hx0 (.int _ _) ⟨_,rfl⟩
   |rem=>
    cases h with
    |none=>exact ah _
    |some h=>exact ag (aQ h) (fun ρ1 l1 a a' ha=>kj _ ha.1 _)
   |and=>
    cases h with
    |none=>exact ah _
    |some h=>exact ag (aQ h) (fun ρ1 l1 a a' ha=>kj _ ha.1 _)
   |_=>cases h<;>first|exact ah _|exact eqq (hn (.inl rfl)) false|exact eqq (hn (.inr rfl)) true
  |_=>cases h<;>cases op<;>first|exact ah _|exact eqq (hn (.inl rfl)) false|exact eqq (hn (.inr rfl)) true
 |int k n=>
  cases hy with
  |dead _ _=>exact .lost (gw op t _) _
  |pointer h=>
   cases op with
   |add=>exact fG t hy0 hx0 ⟨_,rfl⟩
   |and=>
    cases h with
    |none=>exact ah _
    |some h=>exact ag (aQ h) (fun ρ1 l1 a a' ha=>kj _ ha.1 _)
   |_=>cases h<;>first|exact ah _|exact eqq (hn (.inl rfl)) false|exact eqq (hn (.inr rfl)) true
  |int k' n'=>
   cases op<;>first
    |exact BO _ _ _ _ _
    |exact av (fun _=>ac _) (fun _=>mU _ _ _ _)
    |exact av (fun _=>ac _) (fun _=>zb _ _ _ _)
    |exact av (fun _=>ac _) (fun _=>oq _ _ _ _)
    |exact av (fun _=>ac _) (fun _=>zc _ _ _)
  |_=>cases op<;>first|exact ac _|exact eqq (hn (.inl rfl)) false|exact eqq (hn (.inr rfl)) true
 |string s=>
  cases hy with
  |dead _ _=>exact .lost (gw op t _) _
  |pointer h=>cases op<;>first|exact ah _|exact eqq (hn (.inl rfl)) false|exact eqq (hn (.inr rfl)) true
  |string s'=>cases op<;>exact mV _ _ _
  |_=>cases op<;>first|exact ac _|exact eqq (hn (.inl rfl)) false|exact eqq (hn (.inr rfl)) true
 |_=>
  cases hy with
  |dead _ _=>exact .lost (gw op t _) _
  |pointer h=>cases op<;>first|exact ah _|exact eqq (hn (.inl rfl)) false|exact eqq (hn (.inr rfl)) true
  |_=>cases op<;>first|exact ac _|exact eqq (hn (.inl rfl)) false|exact eqq (hn (.inr rfl)) true
end
section
variable {P:Wx} [Two P] {ρ:Ren}
theorem DX {α β:Type}:∀ (l:List α){ρ:Ren}(f:α->Sem β),(∀ρ',ρ.le ρ'->∀a,RS P QE ρ' (f a) (f a))->RS P QE ρ (l.mapM f) (l.mapM f):=by
 intro l;induction l with
 |nil=>intro ρ f _;simp only [List.mapM_nil];exact aa rfl
 |cons x l ih=>
  intro ρ f hf;simp only [List.mapM_cons];refine ae (hf ρ (Ren.le_refl _) x) (fun ρ1 l1 b=>?_);exact ae (ih f (fun ρ' l'=>hf ρ' (Ren.le_trans l1 l'))) (fun ρ2 l2 bs=>aa rfl)
theorem BT (hZ:bu P)(t:Wk){a a':Array (Nat×Wq)}(h:RPs ρ a.toList a'.toList):RS P QV ρ (Instr.build t a) (Instr.build t a'):=by
 unfold Instr.build;refine ag (bi hZ t) (fun ρ1 l1 z z' hz=>?_);refine ae (ao t) (fun ρ2 l2 d=>?_);have hc:=RV.cellsRel (hz.mono l2);have h2:=(h.mono l1).mono l2;cases d with
 |struct fields=>
  dsimp only;rw [Array.mapM_eq_mapM_toList];refine ae (ae (DX _ _ (fun ρ' l f=>ae (bf f.type) (fun ρ3 l3 n=>aa rfl))) (fun ρ' l x=>aa rfl)) (fun ρ3 l3 places=>?_);rcases pq (fun i=>places[i]?) (h2.mono l3) (hc.mono l3) with ⟨h1,h2⟩|⟨c,c',h1,h2,hc⟩
  .rw [h1,h2];exact ac _
  .rw [h1,h2];exact aa (.agg hc.size hc.at_)
 |array n elem=>
  refine ae (bf elem) (fun ρ3 l3 size=>?_);rcases pq (fun i=>some (i * size,size)) (h2.mono l3) (hc.mono l3) with ⟨h1,h2⟩|⟨c,c',h1,h2,hc⟩
  .rw [h1,h2];exact ac _
  .rw [h1,h2];exact aa (.agg hc.size hc.at_)
 |_=>exact ac _
theorem km {α β:Type}{Q:Ren->α->β->Prop}{v v':Wq}(h:RV ρ v v'):RS P Q ρ (goPanic v) (goPanic v'):=.halt (.panic h)
theorem ot {f f':Wq}(hf:RV ρ f f'){a a':Array Wq}(ha:RVs ρ a a'):RS P (fun ρ d d'=>RD ρ d d') ρ (Deferred.ofValue f a) (Deferred.ofValue f' a'):=by
 unfold Deferred.ofValue;cases hf with
 |func hf h1 h2 k1 k2=>exact aa (.mk (.fn hf ⟨h2,k2⟩) (RVs.append ⟨h1,k1⟩ ha))
 |nilFunc=>exact aa (.mk .nil ha)
 |odd n s b c hn=>exact aa (.odd n _ a s c _ hn)
 |_=>exact ac _
def QL (l:Nat):Ren->Loop->Loop->Prop:=fun ρ r r'=>RL ρ r r'/\¬ρ.old l/\¬ρ.ch l
theorem eK {l l':Nat}(h:ρ l l'):RS P (QL l) ρ (Instr.getLoop l) (Instr.getLoop l'):=by
 unfold Instr.getLoop;refine ag (dm h) (fun ρ1 l1 o o' ho=>?_);obtain ⟨ho,h1,h2⟩:=ho;cases ho with
 |loop hl=>exact aa ⟨hl,(fun k=>by cases h1 k),(fun k=>by have:=h2 k;simp [Obj.isChan] at this)⟩
 |_=>exact ac _
theorem ii {r r':Nat}(h:ρ r r'){o o':Obj}(ho:RO ρ o o')(hn:¬ρ.old r)(hc:¬ρ.ch r)(hs:o.isChan=false:=by rfl):RS P QU ρ (setObj r o) (setObj r' o'):=.setObj h ho hn (fun e=>absurd e hc) (.pure trivial) (fun e=>by rw [hs] at e;cases e)
theorem px {l l':Nat}(h:ρ l l'):RS P QU ρ (Instr.beginRound l) (Instr.beginRound l'):=by
 unfold Instr.beginRound;refine ag (eK h) (fun ρ1 l1 r r' hr=>?_);obtain ⟨hr,h1,h2⟩:=hr;refine ag (ii (l1 _ _ h) (.loop ⟨rfl,hr.pending,hr.fn,hr.tmps,hr.params,hr.assign,hr.body,hr.defers,hr.okA,hr.okBo,hr.okP⟩) h1 h2) (fun ρ2 l2 _ _ _=>?_);rw [hr.state];cases r'.state<;>first|exact aa trivial|exact bh _
theorem tQ {l l':Nat}(h:ρ l l')(j:Option Code)(hj:∀c,j=some c->aA ρ.prog ρ.F c=true):RS P QV ρ (Instr.endRound l j) (Instr.endRound l' j):=by
 unfold Instr.endRound;refine ag (eK h) (fun ρ1 l1 r r' hr=>?_);obtain ⟨hr,h1,h2⟩:=hr;exact ag (ii (l1 _ _ h) (.loop ⟨rfl,rfl,hr.fn,hr.tmps,hr.params,hr.assign,hr.body,hr.defers,hr.okA,hr.okBo,by rw [l1.prog,l1.F];exact hj⟩) h1 h2) (fun ρ2 l2 _ _ _=>aa (.bool _))
theorem xd {l l':Nat}(h:ρ l l'):RS P (fun ρ a b=>a=b/\∀c,a=some c->aA ρ.prog ρ.F c=true) ρ (Instr.endLoop l) (Instr.endLoop l'):=by
 unfold Instr.endLoop;refine ag (eK h) (fun ρ1 l1 r r' hr=>?_);obtain ⟨hr,h1,h2⟩:=hr;rw [hr.state,<-hr.pending];refine av (fun _=>aP (bh _)) (fun _=>?_);exact ag (ii (l1 _ _ h) (.loop ⟨rfl,by simp only [hr.pending],hr.fn,hr.tmps,hr.params,hr.assign,hr.body,hr.defers,hr.okA,hr.okBo,hr.okP⟩) h1 h2) (fun ρ2 l2 _ _ _=>aa ⟨rfl,by rw [l2.prog,l2.F];exact hr.okP⟩)
def QEn:Ren->Nat×List Deferred->Nat×List Deferred->Prop:=fun ρ x y=>ρ x.1 y.1/\RDs ρ x.2 y.2
theorem qT (fn:FuncId){t t':Array Wq}(ht:RVs ρ t t')(ps:Array Tmp)(a b:Code)(ha:aA ρ.prog ρ.F a=true)(hb:aA ρ.prog ρ.F b=true){r r':Option Nat}(hr:RNo ρ r r'):RS P QEn ρ (Instr.enterLoop fn t ps a b r) (Instr.enterLoop fn t' ps a b r'):=by
 unfold Instr.enterLoop;have fin:∀ (ρ1:Ren),ρ.le ρ1->∀ (d d':Nat) (m m':List Deferred),ρ1 d d'->RDs ρ1 m m'->RS P QEn ρ1 (do let l <-newObj (.loop {state:=.ready,pending:=none,fn,tmps:=t,params:=ps,assign:=a,body:=b,defers:=d});pure (l,m)) (do let l <-newObj (.loop {state:=.ready,pending:=none,fn,tmps:=t',params:=ps,assign:=a,body:=b,defers:=d'});pure (l,m')):=fun ρ1 l1 d d' m m' hd hm=>
  .new (.loop ⟨rfl,rfl,rfl,ht.mono l1,rfl,rfl,rfl,hd,by rw [l1.prog,l1.F];exact ha,by rw [l1.prog,l1.F];exact hb,fun c e=>by cases e⟩) (fun x x' h1 h2 _=>.pure ⟨.inr ⟨rfl,rfl⟩,hm.mono (qI _ _ _ h1 h2)⟩)
 cases hr with
 |some h=>
  refine ag (eK h) (fun ρ1 l1 q q' hq=>?_);exact ag (Q:=fun ρ (x y:Nat×List Deferred)=>ρ x.1 y.1/\RDs ρ x.2 y.2) (aa ⟨hq.1.defers,.nil⟩) (fun ρ2 l2 x y h=>by
   obtain ⟨d,m⟩:=x;obtain ⟨d',m'⟩:=y;exact fin ρ2 (Ren.le_trans l1 l2) d d' m m' h.1 h.2)
 |none=>
  refine ag (Q:=fun ρ (x y:Nat)=>ρ x y) (.new (.deferred .nil) (fun x x' h1 h2 _=>.pure (.inr ⟨rfl,rfl⟩))) (fun ρ1 l1 q q' hq=>?_);exact ag (Q:=fun ρ (x y:Nat×List Deferred)=>ρ x.1 y.1/\RDs ρ x.2 y.2) (aa ⟨hq,.cons (.mk (.collected hq) RVs.nil) .nil (.inl ⟨_,rfl⟩)⟩) (fun ρ2 l2 x y h=>by
   obtain ⟨d,m⟩:=x;obtain ⟨d',m'⟩:=y;exact fin ρ2 (Ren.le_trans l1 l2) d d' m m' h.1 h.2)
theorem m8 {l l':Nat}(h:ρ l l'){d d':Deferred}(hS:(ρ.F fS||ρ.F lq)=true)(hd:RD ρ d d'):RS P QU ρ (Instr.deferInRound l d) (Instr.deferInRound l' d'):=by
 unfold Instr.deferInRound;refine ag (eK h) (fun ρ1 l1 r r' hr=>?_);refine ag (dm hr.1.defers) (fun ρ2 l2 o o' ho=>?_);obtain ⟨ho,h1,h2⟩:=ho;cases ho with
 |deferred hl=>exact ii (l2 _ _ hr.1.defers) (.deferred (.cons ((hd.mono l1).mono l2) hl (.inr (by rw [l2.F,l1.F];exact hS)))) (fun k=>by cases h1 k) (fun k=>by have:=h2 k;simp [Obj.isChan] at this)
 |taken=>exact .lost (.halt rfl) _
 |_=>exact ac _
theorem m9 {l l':Nat}(h:ρ l l'):RS P (fun ρ a b=>RDs ρ a b) ρ (Instr.takeDeferred l) (Instr.takeDeferred l'):=by
 unfold Instr.takeDeferred;refine ag (dm h) (fun ρ2 l2 o o' ho=>?_);obtain ⟨ho,h1,h2⟩:=ho;cases ho with
 |deferred hl=>exact ag (ii (l2 _ _ h) .taken (fun k=>by cases h1 k) (fun k=>by have:=h2 k;simp [Obj.isChan] at this)) (fun ρ3 l3 _ _ _=>aa (hl.mono l3))
 |_=>exact ac _
theorem RVs.zipSet (ps:List Tmp):∀ (a a':List Wq){c c':Array Wq},a.length=a'.length->(∀ (j:Nat) v v',a[j]?=some v->a'[j]?=some v'->RV ρ v v')->RVs ρ c c' ->
  RVs ρ ((ps.zip a).foldl (fun tmps (x:Tmp×Wq)=>tmps.setIfInBounds x.1 x.2) c) ((ps.zip a').foldl (fun tmps (x:Tmp×Wq)=>tmps.setIfInBounds x.1 x.2) c'):=by
 induction ps with
 |nil=>intro a a' c c' _ _ hc;exact hc
 |cons p ps ih=>
  intro a a' c c' hl hv hc;cases a with
  |nil=>cases a' with
   |nil=>exact hc
   |cons _ _=>simp at hl
  |cons x a=>
   cases a' with
   |nil=>simp at hl
   |cons x' a'=>
    simp only [List.zip_cons_cons,List.foldl_cons];exact ih a a' (by simpa using hl) (fun j v v' h1 h2=>hv (j+1) v v' h1 h2) (hc.set _ (hv 0 x x' rfl rfl))
end
section
variable {P:Wx} [Two P]
theorem qU {ρ:Ren}(t:Wk):RS P QE ρ (elemOf t) (elemOf t):=by
 unfold elemOf;refine ae (ao t) (fun ρ1 l1 d=>?_);cases d<;>first|exact aa rfl|exact ac _
variable {ρ:Ren}
structure RC (ρ:Ren)(c c':CommCase):Prop where
 chan:RV ρ c.chan c'.chan
 send:(c.send=none/\c'.send=none)\/∃v v',c.send=some v/\c'.send=some v'/\RV ρ v v'
 zero:RV ρ c.zero c'.zero
def Dw:Op->Bool
 | .send _ _| .recv _ _ _=>true
 |_=>false
inductive RX (ρ:Ren):Next->Next->Prop
 |value {v v':Wq} (h:RV ρ v v'):RX ρ (.value v) (.value v')
 |skip:RX ρ .skip .skip
 |enter (f:FuncId) (hf:ρ.F f=true) {a a':Array Wq} (h:RVs ρ a a'):RX ρ (.enter f a) (.enter f a')
 |round {l l':Nat} (hl:ρ l l') (f:FuncId) {t t':Array Wq} (ht:RVs ρ t t') (a b:Code) (ha:aA ρ.prog ρ.F a=true) (hb:aA ρ.prog ρ.F b=true):RX ρ (.round l f t a b) (.round l' f t' a b)
 |defer (hS:(ρ.F fS||ρ.F lq)=true) {d d':Deferred} (h:RD ρ d d'):RX ρ (.defer d) (.defer d')
 |spawn (hC:ρ.F lq=true) {d d':Deferred} (h:RD ρ d d'):RX ρ (.spawn d) (.spawn d')
inductive RX1 (ρ:Ren):Next->Next->Prop
 |of {a b:Next} (h:RX ρ a b):RX1 ρ a b
 |mk (f:FuncId) (hM:Mk ρ.F f=true) {a a':Array Wq} (h:RVs ρ a a') (hs:a.size=2):RX1 ρ (.enter f a) (.enter f a')
def fH (P:Wx) [Two P](F:FuncId->Bool):Prop:=∀f fn,F f=true->P.funcs[f]?=some fn->fn.body=none->∀ρ a a',ρ.F=F->GId P ρ->RVs ρ a a'->RS P RX ρ (callFunc f a) (callFunc f a')
theorem tR (hE : fH P ρ.F) (hI : GId P ρ) (f : FuncId) (hF : ρ.F f = true) (hn : ∀ fn, P.funcs[f]? = some fn → fn.name ≠ "runtime.NumGoroutine") {a a' : Array Wq} (h : RVs ρ a a') : RS P RX ρ (callFunc f a) (callFunc f a') := by
 cases hf:P.funcs[f]? with
 |none=>
  unfold callFunc;refine aU ?_ (by simp only [hI.alt f hF]);rw [hf];exact ac _
 |some fn=>
  cases hb:fn.body with
  |none=>exact hE f fn hF hf hb ρ a a' rfl hI h
  |some b=>
   unfold callFunc;refine aU ?_ (by simp only [hI.alt f hF]);have h1:=hn fn hf;simp only [hf,hb]
   have e : (fn.name == "runtime.NumGoroutine") = false := beq_eq_false_iff_ne.2 h1
   simp only [e];exact aa (.enter f hF h)
theorem ze (hI : GId P ρ) (f : FuncId) (hM : Mk ρ.F f = true) (hn : ∀ fn, P.funcs[f]? = some fn → fn.name ≠ "runtime.NumGoroutine") {a a' : Array Wq} (h : RVs ρ a a') (hs : a.size = 2) : RS P RX1 ρ (callFunc f a) (callFunc f a') := by
 obtain ⟨x,y,h1,h2,h3,h4,h5⟩:=hI.apart f hM
 have h6 : (y.name == "runtime.NumGoroutine") = false := beq_eq_false_iff_ne.2 (hn y h2)
 have h7 : (x.name == "runtime.NumGoroutine") = false := by rw [h5]; exact h6
 have h8:x.body.isNone=false:=by cases hx:x.body<;>simp [hx] at h3 ⊢
 have h9:y.body.isNone=false:=by cases hx:y.body<;>simp [hx] at h4 ⊢
 unfold callFunc;refine aU ?_ (by simp only [h1,h2,h6,h7,h8,h9,Bool.false_eq_true,if_false]);simp only [h2,h6,h9];exact aa (.mk f hM h hs)
theorem BU {l l':Nat}(h:ρ l l'){a a':Array Wq}(ha:RVs ρ a a'):RS P RX ρ (Instr.yield l a) (Instr.yield l' a'):=by
 unfold Instr.yield;refine ag (eK h) (fun ρ1 l1 r r' hr=>?_);obtain ⟨hr,-,-⟩:=hr;rw [<-ha.size,<-hr.params,<-hr.fn,<-hr.assign,<-hr.body];refine av (fun _=>aP (ac _)) (fun _=>aa (.round (l1 _ _ h) _ ?_ _ _ hr.okA hr.okBo));have ha1:=ha.mono l1;have:=RVs.zipSet r.params.toList a.toList a'.toList (by simpa using ha1.size) (fun j v v' h1 h2=>ha1.at_ j v v' (by simpa using h1) (by simpa using h2)) hr.tmps;rw [<-Array.toList_zip,<-Array.toList_zip,Array.foldl_toList,Array.foldl_toList] at this;exact this
end
theorem FJ {a b:ByteArray}(h:(a==b)=true):a=b:=by
 obtain ⟨x⟩:=a;obtain ⟨y⟩:=b;have h2:(x==y)=true:=h;rw [eq_of_beq h2]
theorem DY (a:ByteArray):(a==a)=true:=by
 obtain ⟨x⟩:=a;exact (beq_self_eq_true x:(x==x)=true)
theorem vA {P:Wx}{t:Wk}(h:wO P t=true):∃k e,P.underlying t=some (.map k e)/\P.underlying k=some .string:=by
 unfold wO at h;split at h
 .rename_i k e h1;split at h
  .rename_i h2;exact ⟨k,e,h1,h2⟩
  .cases h
 .cases h
section
variable {P:Wx} [Two P]
theorem zf:∀ (n:Nat)(t u:Wk),P.alt.alikeButTags n t u=P.alikeButTags n t u:=by
 intro n;induction n with
 |zero=>intro t u;rfl
 |succ n ih=>
  intro t u;unfold Program.alikeButTags;simp only [ih];rfl
theorem gQ (t:Wk):P.alt.underlyingId t=P.underlyingId t:=rfl
theorem py (t:Wk):P.alt.stoodInAs t=P.stoodInAs t:=by
 unfold Program.stoodInAs;simp only [zf,ig,bZ,gQ];rfl
theorem eX (t:Wk):P.alt.stoodInHeld t=P.stoodInHeld t:=by
 unfold Program.stoodInHeld;simp only [py];rfl
theorem oc:∀ (n:Nat)(t u:Wk),sameLayout P.alt n t u=sameLayout P n t u:=by
 intro n;induction n with
 |zero=>intro t u;rfl
 |succ n ih=>
  intro t u;unfold sameLayout;simp only [ih,eX,gQ,bZ]
theorem zg (f:Wk->Bool):∀ (d:Nat)(e:Wk)(c o n:Nat),rowAt P.alt f d e c o n=rowAt P f d e c o n:=by
 intro d;induction d with
 |zero=>intro e c o n;rfl
 |succ d ih=>
  intro e c o n;unfold rowAt;simp only [ih,eX,bZ,dv];rfl
theorem xe:∀ (d:Nat)(e:Wk)(c o:Nat)(u:Wk)(n:Nat),liesAt P.alt d e c o u n=liesAt P d e c o u n:=by
 intro d;induction d with
 |zero=>intro e c o u n;rfl
 |succ d ih=>
  intro e c o u n;unfold liesAt;simp only [ih,zg,oc,ig,bZ]
theorem tT {α σ:Type}{ρ:Ren}(l:List α)(s:σ)(f f':α->σ->Sem (ForInStep σ))(hf:∀ρ',ρ.le ρ'->∀a∈l,∀s,RS P QE ρ' (f a s) (f' a s)):RS P QE ρ (forIn l s f) (forIn l s f'):=
 fp l l s (fun _ a a'=>a=a'/\a∈l) (fun _ _ _ _ _ h=>h) f f' rfl (fun j a a' h1 h2=>by rw [h1] at h2;exact ⟨oJ h2,List.mem_of_getElem? h1⟩) (fun ρ' l a a' s h=>by obtain ⟨rfl,hm⟩:=h;exact hf ρ' l a hm s)
theorem zh (d:Nat):∀ (n:Nat){ρ:Ren},GId P ρ->∀ (t:Wk){x x' y y':Wq},RV ρ x x'->RV ρ y y'->tF P n t=true->RS P QE ρ (Op.equalIn d t x y) (Op.equalIn d t x' y'):=by
 induction d with
 |zero=>intro n ρ _ t x x' y y' _ _ _;exact ah _
 |succ d ih=>
  intro n ρ hI t x x' y y' hx hy hD;cases n with
  |zero=>simp [tF] at hD
  |succ n=>
   unfold tF at hD;by_cases hp:gO (P.underlying t)=true
   .exact iK (d+1) hI t hx hy (.inl hp)
   unfold Op.equalIn;refine ag (aO t) (fun ρ1 l1 ty ty' hd=>?_);obtain ⟨rfl,hd⟩:=hd;rw [hd] at hD hp;have hI1:=hI.mono l1;have hx1:=hx.mono l1;have hy1:=hy.mono l1;clear hx hy hI;cases ty with
   |struct fs=>
    simp only at hD;cases hx1 with
    |agg hc hR=>
     cases hy1 with
     |agg kc kR=>
      have hxs:RVs ρ1 _ _:=⟨hc,hR⟩;have hys:RVs ρ1 _ _:=⟨kc,kR⟩;refine aU ?_ (by simp only [eX]);refine av (fun _=>aP (ah _)) (fun _=>?_);dsimp only;simp only [<-Array.forIn_toList];refine ae (tT fs.toList _ _ _ (fun ρ' l f hf s=>?_)) (fun ρ2 l2 s=>?_)
      .have hDf:tF P n f.type=true:=by
        obtain ⟨i,hi,rfl⟩:=List.mem_iff_getElem.1 hf;have:=Array.all_eq_true.1 hD i (by simpa using hi);simpa using this
       refine av (fun _=>?_) (fun _=>aa rfl);refine ag (g9 f.type (hxs.mono l) _) (fun ρ3 l3 u u' hu=>?_);refine ag (g9 f.type ((hys.mono l).mono l3) _) (fun ρ4 l4 w w' hw=>?_);refine ae (ih n (((hI1.mono l).mono l3).mono l4) f.type (hu.mono l4) hw hDf) (fun ρ5 l5 b=>?_);exact av (fun _=>aa rfl) (fun _=>aa rfl)
      .obtain ⟨s,-⟩:=s;cases s<;>exact aa rfl
     |_=>exact ac _
    |_=>exact ac _
   |bool=>simp [gO] at hp
   |string=>simp [gO] at hp
   |int k=>simp [gO] at hp
   |_=>simp at hD
theorem tU (d:Nat){ρ:Ren}(t:Wk)(ht:P.underlying t=some .string){x x' y y':Wq}(hx:RV ρ x x')(hy:RV ρ y y'):RS P (fun _ a b=>a=b/\(a=true->∃s,x=.string s/\y=.string s)) ρ (Op.equalIn d t x y) (Op.equalIn d t x' y'):=by
 cases d with
 |zero=>exact ah _
 |succ d=>
  unfold Op.equalIn;refine ag (aO t) (fun ρ1 l1 ty ty' hd=>?_);obtain ⟨rfl,hd⟩:=hd;rw [ht] at hd;cases hd;cases hx with
  |string s=>
   cases hy with
   |string s'=>exact aa ⟨rfl,fun h=>⟨s,rfl,by rw [FJ h]⟩⟩
   |_=>exact ac _
  |_=>exact ac _
def QF (k:Wq)(l:List MapEntry)(i0:Nat):Ren->Option (Nat×Wq)->Option (Nat×Wq)->Prop:=fun ρ a b=>
 (a=none/\b=none)\/∃i v v' s,a=some (i,v)/\b=some (i,v')/\RV ρ v v'/\k=.string s/\i0<=i/\∃e,l[i-i0]?=some e/\e.key=.string s
theorem QF.tail {k:Wq}{e:MapEntry}{l:List MapEntry}{i0:Nat}{ρ:Ren}{a b:Option (Nat×Wq)}(h:QF k l (i0+1) ρ a b):QF k (e::l) i0 ρ a b:=by
 rcases h with h|⟨i,v,v',s,h1,h2,h3,h4,h5,x,h6,h7⟩
 .exact .inl h
 .refine .inr ⟨i,v,v',s,h1,h2,h3,h4,by omega,x,?_,h7⟩;rw [show i-i0=(i-(i0+1))+1 by omega];exact h6
theorem pz (t:Wk)(ht:P.underlying t=some .string){k k':Wq}:∀ {l l':List MapEntry}{ρ:Ren}(i:Nat),RV ρ k k'->RMs ρ l l'->RS P (QF k l i) ρ (Instr.findAsking t k l i) (Instr.findAsking t k' l' i):=by
 intro l;induction l with
 |nil=>intro l' ρ i _ h;cases h;exact aa (.inl ⟨rfl,rfl⟩)
 |cons e l ih=>
  intro l' ρ i hk h;cases h with
  | @cons b q q' v v' _ l' hq hv hl=>
   unfold Instr.findAsking;refine ag (tU _ t ht hk hq) (fun ρ1 l1 a a' ha=>?_);obtain ⟨rfl,ha⟩:=ha;cases a with
   |true=>
    obtain ⟨s,h1,h2⟩:=ha rfl;exact aa (.inr ⟨i,v,v',s,rfl,rfl,hv.mono l1,h1,lR _,⟨q,v,b⟩,by simp,h2⟩)
   |false=>exact (ih (i+1) (hk.mono l1) (hl.mono l1)).imp (fun _ _ _ h=>h.tail)
theorem tV {ρ:Ren}{k k' q q':Wq}(hk:RV ρ k k')(hq:RV ρ q q'):Instr.sameNow .string k q=Instr.sameNow .string k' q':=by
 cases hk with
 |string s=>cases hq with
  |string s'=>rfl
  |dead _ h=>cases q'<;>first|rfl|simp [gX] at h
  |_=>rfl
 |dead _ h=>cases k'<;>first|rfl|simp [gX] at h
 |_=>rfl
theorem tW {k k':Wq}:∀ {l l':List MapEntry}{ρ:Ren}(i:Nat),RV ρ k k'->RMs ρ l l'->(Instr.findNow .string k l i=none/\Instr.findNow .string k' l' i=none)\/∃a b,Instr.findNow .string k l i=some a/\Instr.findNow .string k' l' i=some b/\QF k l i ρ a b:=by
 intro l;induction l with
 |nil=>intro l' ρ i _ h;cases h;exact .inr ⟨none,none,rfl,rfl,.inl ⟨rfl,rfl⟩⟩
 |cons e l ih=>
  intro l' ρ i hk h;cases h with
  | @cons b q q' v v' _ l' hq hv hl=>
   have hs:=tV hk hq;unfold Instr.findNow;simp only [<-hs];cases hx:Instr.sameNow .string k q with
   |none=>exact .inl ⟨rfl,rfl⟩
   |some c=>
    cases c with
    |true=>
     refine .inr ⟨_,_,rfl,rfl,.inr ?_⟩;have:∃s,k=.string s/\q=.string s:=by
      cases k<;>cases q<;>simp [Instr.sameNow] at hx
      .exact ⟨_,rfl,by rw [FJ hx]⟩
     obtain ⟨s,h1,h2⟩:=this;exact ⟨i,v,v',s,rfl,rfl,hv,h1,lR _,⟨q,v,b⟩,by simp,h2⟩
    |false=>
     rcases ih (i+1) hk hl with h|⟨a,b,h1,h2,h3⟩
     .exact .inl h
     .exact .inr ⟨a,b,h1,h2,h3.tail⟩
theorem ou {ρ:Ren}(t:Wk)(ht:P.underlying t=some .string){k k':Wq}(hk:RV ρ k k'){l l':List MapEntry}(h:RMs ρ l l'):RS P (QF k l 0) ρ (Instr.findKey t k l) (Instr.findKey t k' l'):=by
 unfold Instr.findKey;refine ag (aO t) (fun ρ1 l1 ty ty' hd=>?_);obtain ⟨rfl,hd⟩:=hd;rw [ht] at hd;cases hd;rcases tW 0 (hk.mono l1) (h.mono l1) with ⟨h1,h2⟩|⟨a,b,h1,h2,h3⟩
 .rw [h1,h2];exact pz t ht 0 (hk.mono l1) (h.mono l1)
 .rw [h1,h2];exact aa h3
theorem na {ρ:Ren}(e e':Bool)(n:Nat)(t:Wk)(ht:P.underlying t=some .string)(k k':Wq):RS P QU ρ (Instr.checkKey e (n+1) t k) (Instr.checkKey e' (n+1) t k'):=by
 unfold Instr.checkKey;refine ag (aO t) (fun ρ1 l1 ty ty' hd=>?_);obtain ⟨rfl,hd⟩:=hd;rw [ht] at hd;cases hd;exact aa trivial
variable {ρ:Ren}
theorem zi (hZ:bu P)(t:Wk)(ht:wO P t=true){x x' i i':Wq}(hx:RV ρ x x')(hi:RV ρ i i')(ok:Bool):RS P QV ρ (Instr.lookup t x i ok) (Instr.lookup t x' i' ok):=by
 obtain ⟨k,e,h1,h2⟩:=vA ht;unfold Instr.lookup;refine ag (aO t) (fun ρ1 l1 ty ty' hd=>?_);obtain ⟨rfl,hd⟩:=hd;rw [h1] at hd;cases hd;have hx1:=hx.mono l1;have hi1:=hi.mono l1;have fin:∀ (ρ2:Ren),ρ1.le ρ2->∀ (es es':Array MapEntry),RMs ρ2 es.toList es'.toList->RS P QV ρ2 (do
   Instr.checkKey es.isEmpty 10000 k i
   let (v,o) <-match <-Instr.findKey k i es.toList with
    |some (_,v)=>pure (v,true)
    |none=>pure (<-zeroValue e,false)
   pure (if ok then .tuple #[v,.bool o] else v)) (do
   Instr.checkKey es'.isEmpty 10000 k i'
   let (v,o) <-match <-Instr.findKey k i' es'.toList with
    |some (_,v)=>pure (v,true)
    |none=>pure (<-zeroValue e,false)
   pure (if ok then .tuple #[v,.bool o] else v)):=by
  intro ρ2 l2 es es' hes;refine ag (na _ _ 9999 k h2 _ _) (fun ρ3 l3 _ _ _=>?_);refine ag (ou k h2 ((hi1.mono l2).mono l3) (hes.mono l3)) (fun ρ4 l4 a b hab=>?_);have last:∀ (ρ5:Ren) (v v':Wq) (o:Bool),RV ρ5 v v'->RS P QV ρ5 (pure (if ok then .tuple #[v,.bool o] else v):Sem Wq) (pure (if ok then .tuple #[v',.bool o] else v')):=by
   intro ρ5 v v' o hv;cases ok with
   |false=>exact aa hv
   |true=>
    have:=(RVs.nil.push hv).push (.bool o);exact aa (.tuple this.size this.at_)
  rcases hab with ⟨rfl,rfl⟩|⟨j,v,v',s,rfl,rfl,hv,-⟩
  .refine ag (bi hZ e) (fun ρ6 l6 z z' hz=>?_);refine ag (Q:=fun ρ (x y:Wq×Bool)=>RV ρ x.1 y.1/\x.2=y.2) (aa ⟨hz,rfl⟩) (fun ρ5 l5 a b h=>?_);obtain ⟨a1,a2⟩:=a;obtain ⟨b1,b2⟩:=b;obtain ⟨h3,h4⟩:=h;simp only at h3 h4;subst h4;exact last ρ5 a1 b1 a2 h3
  .refine ag (Q:=fun ρ (x y:Wq×Bool)=>RV ρ x.1 y.1/\x.2=y.2) (aa ⟨hv,rfl⟩) (fun ρ5 l5 a b h=>?_);obtain ⟨a1,a2⟩:=a;obtain ⟨b1,b2⟩:=b;obtain ⟨h3,h4⟩:=h;simp only at h3 h4;subst h4;exact last ρ5 a1 b1 a2 h3
 cases hx1 with
 |map hr=>
  cases hr with
  |none=>exact ag (Q:=fun ρ (x y:Array MapEntry)=>RMs ρ x.toList y.toList) (aa .nil) (fun ρ2 l2 a b h=>fin ρ2 l2 a b h)
  |some hr=>
   refine ag (dm hr) (fun ρ2 l2 o o' ho=>?_);obtain ⟨ho,-,-⟩:=ho;cases ho with
   |map c hm=>exact ag (Q:=fun ρ (x y:Array MapEntry)=>RMs ρ x.toList y.toList) (aa hm) (fun ρ3 l3 a b h=>fin ρ3 (Ren.le_trans l2 l3) a b h)
   |_=>exact .lost (cK.bind (.halt rfl) _) _
 |_=>exact .lost (cK.bind (.halt rfl) _) _
theorem RMs.push {l l':List MapEntry}(h:RMs ρ l l')(b:Nat){k k' v v':Wq}(hk:RV ρ k k')(hv:RV ρ v v'):RMs ρ (l++[⟨k,v,b⟩]) (l'++[⟨k',v',b⟩]):=by
 induction h with
 |nil=>exact .cons b hk hv .nil
 |cons c hq h _ ih=>exact .cons c hq h ih
theorem RMs.modify {l l':List MapEntry}(h:RMs ρ l l'){k k' v v':Wq}(hk:RV ρ k k')(hv:RV ρ v v'):∀i,RMs ρ (l.modify i (fun e=>{e with key:=k,val:=v})) (l'.modify i (fun e=>{e with key:=k',val:=v'})):=by
 induction h with
 |nil=>intro i;cases i<;>exact .nil
 |cons c hq h hl ih=>
  intro i;cases i with
  |zero=>exact .cons c hk hv hl
  |succ i=>exact .cons c hq h (ih i)
theorem RMs.at_ {l l':List MapEntry}(h:RMs ρ l l'):∀ (i:Nat) e,l[i]?=some e->∃e',l'[i]?=some e'/\RV ρ e.key e'.key:=by
 induction h with
 |nil=>intro i e h;simp at h
 |cons c hq h hl ih=>
  intro i e he;cases i with
  |zero=>simp at he;subst he;exact ⟨_,rfl,hq⟩
  |succ i=>exact ih i e he
theorem qW (t:Wk)(ht:wO P t=true){m m' k k' v v':Wq}(hm:RV ρ m m')(hk:RV ρ k k')(hv:RV ρ v v'):RS P QU ρ (Instr.mapUpdate t m k v) (Instr.mapUpdate t m' k' v'):=by
 obtain ⟨kt,e,h1,h2⟩:=vA ht;unfold Instr.mapUpdate;refine ag (aO t) (fun ρ1 l1 ty ty' hd=>?_);obtain ⟨rfl,hd⟩:=hd;rw [h1] at hd;cases hd;have hm1:=hm.mono l1;cases hm1 with
 |map hr=>
  cases hr with
  |none=>exact mw _
  | @some r r' hr=>
   refine ag (dm hr) (fun ρ2 l2 o o' ho=>?_);obtain ⟨ho,k1,k2⟩:=ho;cases ho with
   | @map es es' c hm=>
    have n1:¬ρ2.old r:=fun k=>by cases k1 k
    have n2:ρ2.ch r->False:=fun k=>by have:=k2 k;simp [Obj.isChan] at this
    refine ag (na _ _ 9999 kt h2 _ _) (fun ρ3 l3 _ _ _=>?_);have hk3:=((hk.mono l1).mono l2).mono l3;refine ag (ou kt h2 hk3 (hm.mono l3)) (fun ρ4 l4 a b hab=>?_);have hk4:=hk3.mono l4;have hv4:=(((hv.mono l1).mono l2).mono l3).mono l4;have hm4:=(hm.mono l3).mono l4;have hr4:ρ4 r r':=l4 _ _ (l3 _ _ (l2 _ _ hr));have n3:¬ρ4.old r:=by rw [l4.old,l3.old];exact n1
    have n4:ρ4.ch r->False:=by rw [l4.ch,l3.ch];exact n2
    rcases hab with ⟨rfl,rfl⟩|⟨i,x,x',s,rfl,rfl,-,rfl,-,en,hen,hkey⟩
    .refine .setObj hr4 (.map (c+1) ?_) n3 (fun h=>(n4 h).elim) (.pure trivial);simp only [Array.toList_push];exact hm4.push c hk4 hv4
    .cases hk4;rw [Nat.sub_zero] at hen;obtain ⟨en',hen',hke⟩:=hm4.at_ i en hen;rw [hkey] at hke;have hkey':en'.key=.string s:=by
      generalize en'.key=z at hke;cases hke;rfl
     have e1:((es[i]?).map (·.key)).getD (.string s)=.string s:=by
      rw [<-gT,hen];exact hkey
     have e2:((es'[i]?).map (·.key)).getD (.string s)=.string s:=by
      rw [<-gT,hen'];exact hkey'
     dsimp only;rw [e1,e2];have e3:Instr.keyThatStays (.string s) (.string s)=pure (.string s):=by
      unfold Instr.keyThatStays;have:Instr.sameBits 10000 (.string s) (.string s)=true:=by simp only [Instr.sameBits];exact DY s
      rw [this];rfl
     rw [e3];refine ag (aa (Q:=QV) (.string s)) (fun ρ5 l5 z z' hz=>?_);refine .setObj (l5 _ _ hr4) (.map c ?_) (by rw [l5.old];exact n3) (by rw [l5.ch];exact fun h=>(n4 h).elim) (.pure trivial);simp only [Array.toList_modify];exact (hm4.mono l5).modify hz (hv4.mono l5) i
   |_=>exact ac _
 |_=>exact ac _
theorem xh (t:Wk):RS P QV ρ (Instr.makeMap t none) (Instr.makeMap t none):=by
 unfold Instr.makeMap;exact .new (.map 0 .nil) (fun r r' _ _ _=>.pure (.map (.some (.inr ⟨rfl,rfl⟩))))
theorem qX:∀ (n:Nat){ρ:Ren}{a a':Ww}(acc:ByteArray),RA ρ a a'->RS P QE ρ (loadBytes a acc n) (loadBytes a' acc n):=by
 intro n;induction n with
 |zero=>intro ρ a a' acc _;exact aa rfl
 |succ n ih=>
  intro ρ a a' acc h;unfold loadBytes;refine ag (mS h _) (fun ρ1 l1 v v' hv=>?_);cases hv with
  |int k b=>cases k<;>first|exact ac _|exact ih _ ((h.mono l1).add 1)
  |_=>exact ac _
theorem od {a a':Ww}(h:RA ρ a a')(u:Wk)(n:Nat):RS P QE ρ (variablesAt a u n) (variablesAt a' u n):=by
 unfold variablesAt;refine aU ?_ (by simp only [xe,ig,dv]);refine ae (eB h.1) (fun ρ1 l1 s=>?_);rw [<-h.2.1];rcases s with - |⟨e,z⟩<;>exact aa rfl
theorem nb (hno:∀a,¬ρ.old a)(at_:Array Wk)(t:Wk){a a':Array Wq}(h:RVs ρ a a'):RS P QV ρ (Builtin.unsafeString_ at_ t a) (Builtin.unsafeString_ at_ t a'):=by
 obtain ⟨l⟩:=a;obtain ⟨l'⟩:=a';have hl:l.length=l'.length:=by simpa using h.size
 unfold Builtin.unsafeString_;rcases l with - |⟨x,- |⟨y,- |⟨z,l⟩⟩⟩<;>rcases l' with - |⟨x',- |⟨y',- |⟨z',l'⟩⟩⟩<;>(try (simp at hl;done))
 .exact ac _
 .exact ac _
 .have hx:=h.at_ 0 x x' rfl rfl;have hy:=h.at_ 1 y y' rfl rfl;cases hx with
  |pointer hp=>
   refine ae (fo hy) (fun ρ1 l1 n=>?_);cases at_[0]? with
   |none=>exact ac _
   |some pt=>
    refine av (fun _=>aP (bh _)) (fun _=>?_);refine av (fun _=>aP (ah _)) (fun _=>?_);have hp1:=hp.mono l1;cases hp1 with
    |none=>exact av (fun _=>aa (.string _)) (fun _=>bh _)
    | @some b b' hb=>
     refine av (fun _=>aa (.string _)) (fun _=>?_);refine ae (qU pt) (fun ρ2 l2 el=>?_);refine ae (od (hb.mono l2) el n.toNat) (fun ρ3 l3 c=>?_);refine av (fun _=>?_) (fun _=>ah _);refine ae (qX n.toNat _ ((hb.mono l2).mono l3)) (fun ρ4 l4 s=>?_);refine .freeze _ (((hb.mono l2).mono l3).mono l4) (by rw [l4.old,l3.old,l2.old,l1.old];exact hno _) (.pure (.string _))
  |_=>exact ac _
 .exact ac _
theorem DZ {x x' y y':Wq}(hx:RV ρ x x')(hy:RV ρ y y'):RS P QV ρ (Builtin.min2 x y) (Builtin.min2 x' y'):=by
 cases hx with
 |int k n=>
  cases hy with
  |int k' n'=>exact aa (.int _ _)
  |pointer h=>cases h<;>first|exact ac _|exact ah _
  |_=>exact ac _
 |string s=>
  cases hy with
  |string s'=>
   unfold Builtin.min2;refine ag (mV _ _ _) (fun ρ1 l1 v v' hv=>?_);exact ae (qQ hv) (fun ρ2 l2 b=>aa (.string _))
  |pointer h=>cases h<;>first|exact ac _|exact ah _
  |_=>exact ac _
 |pointer h=>
  cases h with
  |none=>
   cases hy with
   |pointer k=>cases k<;>first|exact ac _|exact ah _
   |_=>exact ac _
  |some h=>exact ah _
 |_=>
  cases hy with
  |pointer k=>cases k<;>first|exact ac _|exact ah _
  |_=>exact ac _
theorem xi:∀ (l l':List Wq){ρ:Ren}{x x':Wq},RV ρ x x'->l.length=l'.length->(∀ (j:Nat) v v',l[j]?=some v->l'[j]?=some v'->RV ρ v v')->RS P QV ρ (l.foldlM Builtin.min2 x) (l'.foldlM Builtin.min2 x'):=by
 intro l;induction l with
 |nil=>intro l' ρ x x' hx hl _;cases l' with
  |nil=>exact aa hx
  |cons _ _=>simp at hl
 |cons y l ih=>
  intro l' ρ x x' hx hl hR;cases l' with
  |nil=>simp at hl
  |cons y' l'=>
   simp only [List.foldlM_cons];exact ag (DZ hx (hR 0 y y' rfl rfl)) (fun ρ1 l1 v v' hv=>ih l' hv (by simpa using hl) (fun j a a' h1 h2=>(hR (j+1) a a' h1 h2).mono l1))
theorem FK (at_:Array Wk)(t:Wk){a a':Array Wq}(h:RVs ρ a a'):RS P QV ρ (Builtin.min_ at_ t a) (Builtin.min_ at_ t a'):=by
 obtain ⟨l⟩:=a;obtain ⟨l'⟩:=a';have hl:l.length=l'.length:=by simpa using h.size
 unfold Builtin.min_;cases l with
 |nil=>cases l' with
  |nil=>exact ac _
  |cons _ _=>simp at hl
 |cons x l=>cases l' with
  |nil=>simp at hl
  |cons x' l'=>exact xi l l' (h.at_ 0 x x' rfl rfl) (by simpa using hl) (fun j v v' h1 h2=>h.at_ (j+1) v v' (by simpa using h1) (by simpa using h2))
theorem BV {x x':Wq}(hx:RV ρ x x'):RS P QV ρ (Instr.panic x) (Instr.panic x'):=by
 unfold Instr.panic;cases hx with
 |iface t h=>exact km (.iface t h)
 |nilIface=>
  unfold Instr.panicnil;refine ae (ae (.env (fun r=>.pure rfl)) (fun ρ1 l1 r=>?_)) (fun ρ1 l1 n=>?_)
  .cases r with
   |strings env=>exact aU (aa rfl)
   |_=>exact ac _
  .refine av (fun _=>km .nilIface) (fun _=>?_);unfold runtimePanic;refine aU ?_;refine ae (qU _) (fun ρ2 l2 t=>?_);refine ag (mT t (.agg rfl (fun i v v' h=>by simp at h))) (fun ρ3 l3 r r' hr=>?_);exact km (.iface _ (.pointer (.some hr)))
 |_=>exact ac _
end
end
