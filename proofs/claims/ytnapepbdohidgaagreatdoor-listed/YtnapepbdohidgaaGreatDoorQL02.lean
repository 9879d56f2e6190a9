/- A part. -/
import Derived.Test.YtnapepbdohidgaaGreatDoorQL01
import Derived.Laws.Sem
set_option maxHeartbeats 4000000
set_option maxRecDepth 100000
open Go renaming Value->Wx,Program->Wv,TypeId->Ww,Addr->Wu
namespace Go.Proofs.Qw
section
variable {P:Wv} [Two P] {ρ:Ren}
inductive RPs (ρ:Ren):List (Nat×Wx)->List (Nat×Wx)->Prop
 |nil:RPs ρ [] []
 |cons (i:Nat) {v v':Wx} {l l':List (Nat×Wx)} (h:RV ρ v v') (hl:RPs ρ l l'):RPs ρ ((i,v)::l) ((i,v')::l')
theorem RPs.mono {ρ':Ren}(hle:ρ.le ρ'){l l':List (Nat×Wx)}(h:RPs ρ l l'):RPs ρ' l l':=by
 induction h with
 |nil=>exact .nil
 |cons i h _ ih=>exact .cons i (h.mono hle) ih
theorem Eu (off:Nat):∀ (l l':List Wx)(k:Nat)(c c':Array Wx),l.length=l'.length->(∀ (j:Nat) v v',l[j]?=some v->l'[j]?=some v'->RV ρ v v')->RVs ρ c c' ->
  RVs ρ ((l.zipIdx k).foldl (fun cs (x:Wx×Nat)=>cs.setIfInBounds (off+x.2) x.1) c) ((l'.zipIdx k).foldl (fun cs (x:Wx×Nat)=>cs.setIfInBounds (off+x.2) x.1) c'):=by
 intro l;induction l with
 |nil=>intro l' k c c' hl _ hc;cases l' with
  |nil=>exact hc
  |cons=>simp at hl
 |cons v l ih=>
  intro l' k c c' hl hv hc;cases l' with
  |nil=>simp at hl
  |cons v' l'=>
   simp only [List.zipIdx_cons,List.foldl_cons];exact ih l' (k+1) _ _ (by simpa using hl) (fun j x x' h1 h2=>hv (j+1) x x' h1 h2) (hc.set _ (hv 0 v v' rfl rfl))
theorem pB (a:Nat->Option (Nat×Nat)){l l':List (Nat×Wx)}(h:RPs ρ l l'):∀ {c c':Array Wx},RVs ρ c c' ->
  (Instr.fill a c l=none/\Instr.fill a c' l'=none)\/∃d d',Instr.fill a c l=some d/\Instr.fill a c' l'=some d'/\RVs ρ d d':=by
 induction h with
 |nil=>intro c c' hc;exact .inr ⟨c,c',rfl,rfl,hc⟩
 | @cons i v v' l l' hv _ ih=>
  intro c c' hc;unfold Instr.fill;cases a i with
  |none=>exact .inl ⟨rfl,rfl⟩
  |some x=>
   obtain ⟨off,size⟩:=x;have hcs:=hv.cellsRel;simp only [<-hcs.size,<-hc.size];split
   .exact .inl ⟨rfl,rfl⟩
   .refine ih ?_;have:=Eu (ρ:=ρ) off v.cells.toList v'.cells.toList 0 c c' (by simpa using hcs.size) (fun j x x' h1 h2=>hcs.at_ j x x' (by simpa using h1) (by simpa using h2)) hc;rw [<-Array.toList_zipIdx,<-Array.toList_zipIdx,Array.foldl_toList,Array.foldl_toList] at this;exact this
theorem RVs.cyc {z a:Array Wx}(h:RVs ρ z a)(n:Nat):RVs ρ ((Array.range n).map (fun i=>z[i % z.size]!)) ((Array.range n).map (fun i=>a[i % a.size]!)):=by
 refine ⟨by simp,fun i v v' h1 h2=>?_⟩;simp only [Array.getElem?_map,Array.getElem?_range] at h1 h2;split at h1
 .rename_i b;simp only [b,if_true,Option.map_some,oI] at h1 h2;by_cases hp:0<z.size
  rotate_left
  .have e1:z=#[]:=Array.eq_empty_of_size_eq_zero (by omega);have e2:a=#[]:=Array.eq_empty_of_size_eq_zero (by rw [<-h.size];omega);subst e1;subst e2;subst h1;subst h2;exact .bool _
  have hm:i % z.size<z.size:=Nat.mod_lt _ hp;have hm':i % a.size<a.size:=by rw [<-h.size];exact hm
  rw [getElem!_pos z _ hm] at h1;rw [getElem!_pos a _ hm'] at h2;subst h1;subst h2;refine h.at_ (i % z.size) _ _ (eG hm) ?_;rw [eG (by rw [<-h.size];exact hm)];simp only [h.size]
 .cases h1
theorem pC (hZ:bM P)(t:Ww)(len:Nat){a a':Array (Nat×Wx)}(h:RPs ρ a.toList a'.toList):RS P QV ρ (Instr.buildSlice t len a) (Instr.buildSlice t len a'):=by
 unfold Instr.buildSlice;refine ag (ao t) (fun ρ1 l1 d=>?_);cases d with
 |slice elem=>
  refine ag (bm elem) (fun ρ2 l2 size=>?_);have fin:∀ (ρ3:Ren),ρ2.le ρ3->∀z z',RVs ρ3 z z'->RS P QV ρ3 (match Instr.fill (fun i=>some (i * size,size)) ((Array.range (len * size)).map (fun x=>z[x % z.size]!)) a.toList with
    |some cells=>do let r <-newRow elem cells;pure (.slice (some r) len len)
    | _ => stuck "buildSlice: a part of the wrong size") (match Instr.fill (fun i => some (i * size, size)) ((Array.range (len * size)).map (fun x => z'[x % z'.size]!)) a'.toList with
    |some cells=>do let r <-newRow elem cells;pure (.slice (some r) len len)
    | _ => stuck "buildSlice: a part of the wrong size") := by
   intro ρ3 l3 z z' hz;rcases pB (fun i=>some (i * size,size)) (((h.mono l1).mono l2).mono l3) (hz.cyc (len * size)) with ⟨h1,h2⟩|⟨c,c',h1,h2,hc⟩
   .rw [h1,h2];exact ae _
   .rw [h1,h2];exact ah (dO elem hc) (fun ρ4 _ r r' hr=>aa (.slice _ _ (.some hr)))
  simp only;split
  .exact aj _
  .split
   .exact fin ρ2 (Ren.le_refl _) _ _ RVs.nil
   .exact ah (bz hZ elem) (fun ρ3 l3 z z' hz=>fin ρ3 l3 _ _ (RV.cellsRel hz))
 |_=>exact ae _
theorem bu {α β:Type}{Q:Ren->α->β->Prop}(m:String):RS P Q ρ (runtimePanic (.error m)) (runtimePanic (.error m)):=.program rfl (.halt (.panic (.iface _ (.string _))))
theorem mC {α β:Type}{Q:Ren->α->β->Prop}(m:String):RS P Q ρ (runtimePanic (.plain m)) (runtimePanic (.plain m)):=.program rfl (.halt (.panic (.iface _ (.string _))))
theorem fM (n:Nat):RS P QU ρ (askRoom n) (askRoom n):=by
 unfold askRoom;split
 .exact .mark .noRoom (.pure trivial)
 .exact aa trivial
theorem fm {v v':Wx}(hv:RV ρ v v'):RS P QE ρ (asInt v) (asInt v'):=by
 unfold asInt;exact ag (iG hv) (fun ρ1 _ x=>aa rfl)
theorem pD {v v':Wx}(hv:RV ρ v v'):RS P QE ρ (Builtin.lenOf v) (Builtin.lenOf v'):=by
 cases hv<;>first|exact aa rfl|exact ae _
theorem dm (a n:Nat){v v':Wx}(hv:RV ρ v v'):RS P QVs ρ (Builtin.firstCells a n v) (Builtin.firstCells a n v'):=by
 cases hv with
 |slice m c h=>
  cases h with
  |none=>exact aa RVs.nil
  |some h=>exact fk h _
 |string s=>
  refine aa ⟨rfl,fun i v v' h1 h2=>?_⟩;rw [h1] at h2;cases h2;simp only [Array.getElem?_map] at h1;obtain ⟨b,-,rfl⟩:=Option.map_eq_some_iff.1 h1;exact .int _ _
 |_=>exact ae _
theorem RVs.append {a a' b b':Array Wx}(h:RVs ρ a a')(k:RVs ρ b b'):RVs ρ (a++b) (a'++b'):=by
 refine ⟨by simp [h.size,k.size],fun i v v' h1 h2=>?_⟩;rw [Array.getElem?_append] at h1 h2;rw [<-h.size] at h2;split at h1
 .rename_i c;rw [if_pos c] at h2;exact h.at_ i v v' h1 h2
 .rename_i c;rw [if_neg c] at h2;exact k.at_ _ v v' h1 h2
theorem RVs.zeros {z a:Array Wx}(h:RVs ρ z a)(n:Nat):RVs ρ (Builtin.zeroCells z n) (Builtin.zeroCells a n):=by
 unfold Builtin.zeroCells;rw [<-h.size];have:=h.cyc (n * z.size);rw [<-h.size] at this;exact this
theorem Cc {a a':Wu}(h:RA ρ a a')(n:Nat):RS P QE ρ (Builtin.holdsCells a n) (Builtin.holdsCells a' n):=by
 unfold Builtin.holdsCells;refine .shape h.1 (fun s=>?_);show RS P QE ρ (match s with|some (_,m)=>pure (a.spot.isNone&&a.off+n<=m)|none=>pure false) (match s with|some (_,m)=>pure (a'.spot.isNone&&a'.off+n<=m)|none=>pure false);rw [h.2.1,h.2.2];split<;>exact aa rfl
theorem Ev (at_:Array Ww)(t:Ww){a a':Array Wx}(h:RVs ρ a a'):RS P QV ρ (Builtin.copy_ at_ t a) (Builtin.copy_ at_ t a'):=by
 unfold Builtin.copy_;rcases h.get 0 with ⟨h1,h2⟩|⟨d,d',h1,h2,hd⟩
 .rw [h1,h2];cases at_[0]?<;>exact ae _
 rcases h.get 1 with ⟨k1,k2⟩|⟨s,s',k1,k2,hs⟩
 .rw [h1,h2,k1,k2];cases at_[0]?<;>exact ae _
 rw [h1,h2,k1,k2];cases at_[0]? with
 |none=>exact ae _
 |some e=>
  refine ag (ao e) (fun ρ1 l1 f=>?_);cases f with
  |slice b=>
   have hd1:=hd.mono l1;cases hd1 with
   |slice n c hb=>
    refine ag (pD (hs.mono l1)) (fun ρ2 l2 m=>?_);refine ag (bm b) (fun ρ3 l3 z=>?_);refine ah (dm z _ (((hs.mono l1).mono l2).mono l3)) (fun ρ4 l4 c c' hc=>?_);have hb4:=((hb.mono l2).mono l3).mono l4;cases hb4 with
    |none=>exact aa (.int _ _)
    |some ha=>exact ah (cj c.toList c'.toList 0 ha (by simpa using hc.size) (fun j x x' e1 e2=>hc.at_ j x x' (by simpa using e1) (by simpa using e2))) (fun ρ5 _ _ _ _=>aa (.int _ _))
   |_=>exact ae _
  |_=>exact ae _
theorem tI (hS:ρ.F lp=true)(t:Ww){v v':Wx}(hv:RV ρ v v'):RS P QV ρ (Instr.makeChan t v) (Instr.makeChan t v'):=by
 unfold Instr.makeChan;refine ag (fm hv) (fun ρ1 l1 n=>?_);refine ag (ao t) (fun ρ2 l2 d=>?_);cases d with
 |chan a b=>
  refine ah (aH b) (fun ρ3 l3 i i' c=>?_);obtain ⟨rfl,-⟩:=c;simp only;split
  .exact mC _
  .exact .new (.chan _ _ _ _ _ _ _ _ _ (.inr RVs.nil) (.inr rfl)) (fun r r' _ _ _=>.pure (.chan (.some (.inr ⟨rfl,rfl⟩)))) (fun _=>by rw [l3.F,l2.F,l1.F];exact hS)
 |_=>exact ae _
def QO (r:Nat):Ren->Obj->Obj->Prop:=fun ρ o o'=>RO ρ o o'/\(ρ.old r->F1 o)/\(ρ.ch r->o.isChan=true)
theorem dx {r r':Nat}(h:ρ r r'):RS P (QO r) ρ (getObj r) (getObj r'):=.getObj h (fun _o _o' ho h1 h2=>.pure ⟨ho,h1,h2⟩)
theorem Cd (hS:ρ.F fK=true)(at_:Array Ww)(t:Ww){r r':Option Nat}(h:RNo ρ r r'):RS P QV ρ (Builtin.close_ at_ t #[.chan r]) (Builtin.close_ at_ t #[.chan r']):=by
 unfold Builtin.close_;cases h with
 |none=>exact mC _
 |some h=>
  refine ah (dx h) (fun f l1 o o' ho=>?_);obtain ⟨ho,b,hch⟩:=ho;cases ho with
  |chan cap c cl d s q s' q' tm hb hcl=>
   have a:f.F fK=true:=by rw [l1.F];exact hS
   have hcl:cl=d:=hcl.resolve_left (by rw [f.tight a];exact fun h=>by cases h);subst hcl;cases cl with
   |true=>exact mC _
   |false=>exact ah (Q:=QU) (.setObj (l1 _ _ h) (.chan cap c true true s q s' q' tm hb (.inr rfl)) (fun k=>by cases b k) (fun _=>⟨a,_,_,_,_,_,rfl⟩) (.pure trivial) (fun _=>⟨a,_,_,_,_,_,rfl⟩)) (fun ρ2 _ _ _ _=>aa (.tuple rfl (fun i v v' e=>by simp at e)))
  |_=>exact ae _
def QN {α β:Type}:Ren->α->β->Prop:=fun _ _ _=>False
theorem aV {α β γ δ:Type}{Q':Ren->γ->δ->Prop}{x:Sem α}{x':Sem β}{f:α->Sem γ}{f':β->Sem δ}(h:RS P QN ρ x x'):RS P Q' ρ (x >>= f) (x' >>= f'):=ah h (fun _ _ _ _ hf=>hf.elim)
theorem fN {ρ:Ren}{a c d e:Nat}(h1:ρ a c)(h2:ρ d e):(a==d)=(c==e):=by
 by_cases h:a=d
 .subst h;have:=ρ.fn _ _ _ h1 h2;subst this;exact (beq_self_eq_true a).trans (beq_self_eq_true c).symm
 .have h':¬c=e:=fun e'=>h (ρ.inj _ _ _ h1 (e'▸h2))
  exact (beq_eq_false_iff_ne.2 h).trans (beq_eq_false_iff_ne.2 h').symm
theorem gX (a:Wu)(n:Nat):Calm (Builtin.holdsCells a n):=by
 unfold Builtin.holdsCells;refine .shape _ (fun s=>?_);show Calm (match s with|some (_,m)=>pure (a.spot.isNone&&a.off+n<=m)|none=>pure false);split<;>exact .pure _
theorem eD (e n m:Nat)(b:Option Wu)(x:Wx):Calm (Builtin.mayShare e n m b x):=by
 have f:∀d:Bool,Calm
   (if (!d)=true then pure true else match (generalizing:=false) x with
    | .slice (some c) _ _=>do
     let u <-Builtin.holdsCells c (m * e)
     pure (!u||b.any (fun y=>y.block==c.block))
    |_=>pure false):=fun d=>by
  split
  .exact .pure _
  cases x with
  |slice a k c=>
   cases a with
   |none=>exact .pure _
   |some a=>exact (gX a _).bind (fun u=>.pure _)
  |_=>exact .pure _
 unfold Builtin.mayShare;cases b with
 |none=>exact Calm.bind (.pure true) (fun t=>f t)
 |some a=>exact (gX a _).bind (fun t=>Calm.bind (.frozen _ (fun u=>.pure u)) (fun u=>Calm.bind (.pure _) (fun t=>f t)))
theorem aC {γ δ:Type}{Q:Ren->γ->δ->Prop}{c:Prop} [Decidable c]{x y:Sem γ}{x' a:Sem δ}(h1:c->RS P Q ρ x x')(h2:¬c->RS P Q ρ y a):RS P Q ρ (if c then x else y) (if c then x' else a):=by
 split
 .exact h1 (by assumption)
 .exact h2 (by assumption)
theorem db (q:Question):RS P QE ρ (choose q) (choose q):=.choose _ (fun _=>.pure rfl)
theorem zf (S:bM P)(at_:Array Ww)(t:Ww){a a':Array Wx}(h:RVs ρ a a'):RS P QV ρ (Builtin.append_ at_ t a) (Builtin.append_ at_ t a'):=by
 unfold Builtin.append_;rcases h.get 0 with ⟨h1,h2⟩|⟨s,s',h1,h2,hs⟩
 .rw [h1,h2];cases at_[0]?<;>exact ae _
 rcases h.get 1 with ⟨k1,k2⟩|⟨x,x',k1,k2,hx⟩
 .rw [h1,h2,k1,k2];cases at_[0]?<;>exact ae _
 rw [h1,h2,k1,k2];cases at_[0]? with
 |none=>exact ae _
 |some st=>
  refine ag (ao st) (fun ρ1 l1 ty=>?_);cases ty with
  |slice d=>
   have hs1:=hs.mono l1;cases hs1 with
   | @slice b b' n c hb=>
    refine ag (bm d) (fun ρ2 l2 i=>?_);have hx2:=(hx.mono l1).mono l2;have hb2:=hb.mono l2;clear hb hs hx l1 l2 h h1 h2 k1 k2;have l:∀ (ρz:Ren) (f:Bool) (m:Nat),ρ2.le ρz->RS P QVs ρz
      (if (!f)=true then Builtin.firstCells i m x else if m * i=0 then pure #[] else do let z <-zeroValue d;pure (Builtin.zeroCells z.cells m))
      (if (!f)=true then Builtin.firstCells i m x' else if m * i=0 then pure #[] else do let z <-zeroValue d;pure (Builtin.zeroCells z.cells m)):=by
     intro ρz f m lz;refine aC (fun _=>dm i m (hx2.mono lz)) (fun _=>aC (fun _=>aa RVs.nil) (fun _=>?_));exact ah (bz S d) (fun ρy _ z T hz=>aa ((RV.cellsRel hz).zeros m))
    cases at_[1]? with
    |none=>
     refine ag (aa rfl) (fun ρ3 l3 f=>?_);refine aC (fun _=>?_) (fun _=>?_)
     .refine ag (fm (hx2.mono l3)) (fun ρ4 l4 li=>?_);refine aC (fun _=>aV (bu _)) (fun _=>?_);refine ah (aH d) (fun ρ5 l5 i0 U N=>?_);obtain ⟨rfl,-⟩:=N;refine aC (fun _=>ag (db _) (fun ρ6 R Q=>aV (bu _))) (fun _=>?_);refine ag (aa rfl) (fun I R m=>?_);have lk:=Ren.le_trans l3 (Ren.le_trans l4 (Ren.le_trans l5 R));refine aC (fun _=>?_) (fun _=>?_)
      .refine ah (l I f m lk) (fun M la o k e=>?_);have hba:=(hb2.mono lk).mono la;cases hba with
       |none=>exact aa (.slice _ _ .none)
       |some ha=>exact ah (cj o.toList k.toList 0 (ha.add _) (by simpa using e.size) (fun j x x' e1 e2=>e.at_ j x x' (by simpa using e1) (by simpa using e2))) (fun K lb _ _ _=>aa (.slice _ _ (.some (ha.mono lb))))
      .refine ah (aH d) (fun M la V D v=>?_);obtain ⟨rfl,-⟩:=v;have lka:=Ren.le_trans lk la;refine aC (fun _=>aV (bu _)) (fun _=>?_);refine ah (aH d) (fun K lb Z E y=>?_);obtain ⟨rfl,-⟩:=y;have lkb:=Ren.le_trans lka lb;refine aC (fun _=>aV (aC (fun _=>bu _) (fun _=>?_))) (fun _=>?_)
       .exact .lost ((eD i n m _ _).lost (fun sh=>by cases sh<;>first|exact .mark _ (.halt rfl)|exact .halt rfl)) _
       .refine ag (db _) (fun ρ9 L q=>?_);refine ah (aH d) (fun Y H ic J u=>?_);obtain ⟨rfl,-⟩:=u;refine ah (fM _) (fun X O _ _ _=>?_);have lkd:=Ren.le_trans lkb (Ren.le_trans L (Ren.le_trans H O));refine ah (dm i n (.slice n c (hb2.mono lkd))) (fun C F old A p=>?_);refine ah (l C f m (Ren.le_trans lkd F)) (fun ρf G o k e=>?_);refine ah (bz S d) (fun ρg B z T hz=>?_);exact ah (dO d ((((p.mono G).mono B).append (e.mono B)).append ((RV.cellsRel hz).zeros _))) (fun ρh _ r r' hr=>aa (.slice _ _ (.some hr)))
     .refine ag (pD (hx2.mono l3)) (fun I l4 m=>?_);have lk:=Ren.le_trans l3 l4;refine aC (fun _=>?_) (fun _=>?_)
      .refine ah (l I f m lk) (fun M la o k e=>?_);have hba:=(hb2.mono lk).mono la;cases hba with
       |none=>exact aa (.slice _ _ .none)
       |some ha=>exact ah (cj o.toList k.toList 0 (ha.add _) (by simpa using e.size) (fun j x x' e1 e2=>e.at_ j x x' (by simpa using e1) (by simpa using e2))) (fun K lb _ _ _=>aa (.slice _ _ (.some (ha.mono lb))))
      .refine ah (aH d) (fun M la V D v=>?_);obtain ⟨rfl,-⟩:=v;have lka:=Ren.le_trans lk la;refine aC (fun _=>aV (bu _)) (fun _=>?_);refine ah (aH d) (fun K lb Z E y=>?_);obtain ⟨rfl,-⟩:=y;have lkb:=Ren.le_trans lka lb;refine aC (fun _=>aV (aC (fun _=>bu _) (fun _=>?_))) (fun _=>?_)
       .exact .lost ((eD i n m _ _).lost (fun sh=>by cases sh<;>first|exact .mark _ (.halt rfl)|exact .halt rfl)) _
       .refine ag (db _) (fun ρ9 L q=>?_);refine ah (aH d) (fun Y H ic J u=>?_);obtain ⟨rfl,-⟩:=u;refine ah (fM _) (fun X O _ _ _=>?_);have lkd:=Ren.le_trans lkb (Ren.le_trans L (Ren.le_trans H O));refine ah (dm i n (.slice n c (hb2.mono lkd))) (fun C F old A p=>?_);refine ah (l C f m (Ren.le_trans lkd F)) (fun ρf G o k e=>?_);refine ah (bz S d) (fun ρg B z T hz=>?_);exact ah (dO d ((((p.mono G).mono B).append (e.mono B)).append ((RV.cellsRel hz).zeros _))) (fun ρh _ r r' hr=>aa (.slice _ _ (.some hr)))
    |some xt=>
     refine ag (ao xt) (fun ρ30 ac ty=>?_);refine ag (aa rfl) (fun ρ3 ab f=>?_);have l3:=Ren.le_trans ac ab;refine aC (fun _=>?_) (fun _=>?_)
     .refine ag (fm (hx2.mono l3)) (fun ρ4 l4 li=>?_);refine aC (fun _=>aV (bu _)) (fun _=>?_);refine ah (aH d) (fun ρ5 l5 i0 U N=>?_);obtain ⟨rfl,-⟩:=N;refine aC (fun _=>ag (db _) (fun ρ6 R Q=>aV (bu _))) (fun _=>?_);refine ag (aa rfl) (fun I R m=>?_);have lk:=Ren.le_trans l3 (Ren.le_trans l4 (Ren.le_trans l5 R));refine aC (fun _=>?_) (fun _=>?_)
      .refine ah (l I f m lk) (fun M la o k e=>?_);have hba:=(hb2.mono lk).mono la;cases hba with
       |none=>exact aa (.slice _ _ .none)
       |some ha=>exact ah (cj o.toList k.toList 0 (ha.add _) (by simpa using e.size) (fun j x x' e1 e2=>e.at_ j x x' (by simpa using e1) (by simpa using e2))) (fun K lb _ _ _=>aa (.slice _ _ (.some (ha.mono lb))))
      .refine ah (aH d) (fun M la V D v=>?_);obtain ⟨rfl,-⟩:=v;have lka:=Ren.le_trans lk la;refine aC (fun _=>aV (bu _)) (fun _=>?_);refine ah (aH d) (fun K lb Z E y=>?_);obtain ⟨rfl,-⟩:=y;have lkb:=Ren.le_trans lka lb;refine aC (fun _=>aV (aC (fun _=>bu _) (fun _=>?_))) (fun _=>?_)
       .exact .lost ((eD i n m _ _).lost (fun sh=>by cases sh<;>first|exact .mark _ (.halt rfl)|exact .halt rfl)) _
       .refine ag (db _) (fun ρ9 L q=>?_);refine ah (aH d) (fun Y H ic J u=>?_);obtain ⟨rfl,-⟩:=u;refine ah (fM _) (fun X O _ _ _=>?_);have lkd:=Ren.le_trans lkb (Ren.le_trans L (Ren.le_trans H O));refine ah (dm i n (.slice n c (hb2.mono lkd))) (fun C F old A p=>?_);refine ah (l C f m (Ren.le_trans lkd F)) (fun ρf G o k e=>?_);refine ah (bz S d) (fun ρg B z T hz=>?_);exact ah (dO d ((((p.mono G).mono B).append (e.mono B)).append ((RV.cellsRel hz).zeros _))) (fun ρh _ r r' hr=>aa (.slice _ _ (.some hr)))
     .refine ag (pD (hx2.mono l3)) (fun I l4 m=>?_);have lk:=Ren.le_trans l3 l4;refine aC (fun _=>?_) (fun _=>?_)
      .refine ah (l I f m lk) (fun M la o k e=>?_);have hba:=(hb2.mono lk).mono la;cases hba with
       |none=>exact aa (.slice _ _ .none)
       |some ha=>exact ah (cj o.toList k.toList 0 (ha.add _) (by simpa using e.size) (fun j x x' e1 e2=>e.at_ j x x' (by simpa using e1) (by simpa using e2))) (fun K lb _ _ _=>aa (.slice _ _ (.some (ha.mono lb))))
      .refine ah (aH d) (fun M la V D v=>?_);obtain ⟨rfl,-⟩:=v;have lka:=Ren.le_trans lk la;refine aC (fun _=>aV (bu _)) (fun _=>?_);refine ah (aH d) (fun K lb Z E y=>?_);obtain ⟨rfl,-⟩:=y;have lkb:=Ren.le_trans lka lb;refine aC (fun _=>aV (aC (fun _=>bu _) (fun _=>?_))) (fun _=>?_)
       .exact .lost ((eD i n m _ _).lost (fun sh=>by cases sh<;>first|exact .mark _ (.halt rfl)|exact .halt rfl)) _
       .refine ag (db _) (fun ρ9 L q=>?_);refine ah (aH d) (fun Y H ic J u=>?_);obtain ⟨rfl,-⟩:=u;refine ah (fM _) (fun X O _ _ _=>?_);have lkd:=Ren.le_trans lkb (Ren.le_trans L (Ren.le_trans H O));refine ah (dm i n (.slice n c (hb2.mono lkd))) (fun C F old A p=>?_);refine ah (l C f m (Ren.le_trans lkd F)) (fun ρf G o k e=>?_);refine ah (bz S d) (fun ρg B z T hz=>?_);exact ah (dO d ((((p.mono G).mono B).append (e.mono B)).append ((RV.cellsRel hz).zeros _))) (fun ρh _ r r' hr=>aa (.slice _ _ (.some hr)))
   |_=>exact ae _
  |_=>exact ae _
theorem mg (t:Ww){v v':Wx}(hv:RV ρ v v'):RS P QV ρ (Instr.makeInterface t v) (Instr.makeInterface t v'):=by
 unfold Instr.makeInterface;refine ag (ao t) (fun ρ1 l1 d=>?_);cases d with
 |interface _=>exact ae _
 |_=>exact aa (.iface t (hv.mono l1))
theorem qS (m:bM P)(t:Ww){n f c c':Wx}(hn:RV ρ n f)(hc:RV ρ c c'):RS P QV ρ (Instr.makeSlice t n c) (Instr.makeSlice t f c'):=by
 unfold Instr.makeSlice;refine ag (ao t) (fun ρ1 l1 d=>?_);cases d with
 |slice a=>
  refine ag (fm (hn.mono l1)) (fun ρ2 l2 len=>?_);refine ag (fm ((hc.mono l1).mono l2)) (fun ρ3 l3 cap=>?_);refine ah (aH a) (fun ρ4 l4 i i' j=>?_);obtain ⟨rfl,-⟩:=j;refine aC (fun _=>?_) (fun _=>?_)
  .refine aC (fun _=>aV (bu _)) (fun _=>aC (fun _=>aV (bu _)) (fun _=>?_));exact ag (db _) (fun k l5 x=>aV (bu _))
  .refine ah (fM _) (fun k l5 _ _ _=>?_);refine ag (bm a) (fun ρ6 l6 z=>?_);refine aC (fun _=>?_) (fun _=>?_)
   .refine ah (Q:=QVs) (aa RVs.nil) (fun h e z b hz=>?_);exact ah (dO a (hz.cyc _)) (fun l _ r r' hr=>aa (.slice _ _ (.some hr)))
   .refine ah (bz m a) (fun h e z b hz=>?_);refine ah (Q:=QVs) (aa (RV.cellsRel hz)) (fun h e z b hz=>?_);exact ah (dO a (hz.cyc _)) (fun l _ r r' hr=>aa (.slice _ _ (.some hr)))
 |_=>exact ae _
theorem F3 (at_:Array Ww)(m:Er P .len at_=true)(t:Ww){a a':Array Wx}(h:RVs ρ a a'):RS P QV ρ (Builtin.len_ at_ t a) (Builtin.len_ at_ t a'):=by
 unfold Builtin.len_;rcases h.get 0 with ⟨h1,h2⟩|⟨x,x',h1,h2,hx⟩
 .rw [h1,h2];cases at_[0]?<;>exact ae _
 rw [h1,h2];cases i:at_[0]? with
 |none=>exact ae _
 |some u=>
  refine ah (aT u) (fun ρ1 l1 d d' hd=>?_);obtain ⟨rfl,hd⟩:=hd;have hx1:=hx.mono l1;cases d with
  |pointer f=>
   refine ag (ao f) (fun j l2 d=>?_);cases d with
   |array n e=>exact aa (.int _ _)
   |_=>exact ae _
  |chan d e=>simp [Er,i,hd] at m
  |map k e=>
   cases hx1 with
   |map hr=>
    cases hr with
    |none=>exact aa (.int _ _)
    |some hr=>
     refine ah (dx hr) (fun j l2 o o' ho=>?_);obtain ⟨ho,-,-⟩:=ho;cases ho with
     |map c hm=>
      have:∀ (l l':List MapEntry),RMs j l l'->l.length=l'.length:=fun l l' h=>by
       induction h with
       |nil=>rfl
       |cons b hk h _ ih=>simp [ih]
      have hs:=this _ _ hm;simp only [lY] at hs;simp only [hs];exact aa (.int _ _)
     |_=>exact ae _
   |_=>exact ae _
  |_=>cases hx1<;>first|exact ae _|exact aa (.int _ _)
theorem F4 (at_:Array Ww)(f:Er P .cap at_=true)(t:Ww){a a':Array Wx}(h:RVs ρ a a'):RS P QV ρ (Builtin.cap_ at_ t a) (Builtin.cap_ at_ t a'):=by
 unfold Builtin.cap_;rcases h.get 0 with ⟨h1,h2⟩|⟨x,x',h1,h2,hx⟩
 .rw [h1,h2];cases at_[0]?<;>exact ae _
 rw [h1,h2];cases c:at_[0]? with
 |none=>exact ae _
 |some u=>
  refine ah (aT u) (fun ρ1 l1 d d' hd=>?_);obtain ⟨rfl,hd⟩:=hd;have hx1:=hx.mono l1;cases d with
  |pointer b=>
   refine ag (ao b) (fun ρ2 l2 d=>?_);cases d with
   |array n e=>exact aa (.int _ _)
   |_=>exact ae _
  |chan d e=>simp [Er,c,hd] at f
  |_=>cases hx1<;>first|exact ae _|exact aa (.int _ _)
theorem mX (a:BinOp)(k:IntKind)(x y:Int):RS P QV ρ (Op.intArith a k x y) (Op.intArith a k x y):=by
 unfold Op.intArith;split<;>first|exact ae _|exact aa (.int _ _)
theorem zg (a:BinOp)(k:IntKind)(x y:Int):RS P QV ρ (Op.intDiv a k x y) (Op.intDiv a k x y):=by
 unfold Op.intDiv;refine aC (fun _=>bu _) (fun _=>?_);split<;>first|exact ae _|exact aa (.int _ _)
theorem oh (a:BinOp)(k:IntKind)(x y:Int):RS P QV ρ (Op.intBits a k x y) (Op.intBits a k x y):=by
 unfold Op.intBits;cases a<;>first|exact ae _|exact aa (.int _ _)
theorem Cf (a:BinOp)(k:IntKind)(x:Int)(yk:IntKind)(y:Int):RS P QV ρ (Op.shift a k x yk y) (Op.shift a k x yk y):=by
 unfold Op.shift;refine aC (fun _=>bu _) (fun _=>?_);cases a<;>first|exact ae _|exact aa (.int _ _)
theorem zh (a:BinOp)(x y:Int):RS P QV ρ (Op.intCmp a x y) (Op.intCmp a x y):=by
 unfold Op.intCmp;cases a<;>first|exact ae _|exact aa (.bool _)
theorem mY (a:BinOp)(x y:ByteArray):RS P QV ρ (Op.stringOp a x y) (Op.stringOp a x y):=by
 unfold Op.stringOp;cases a with
 |add=>exact aC (fun _=>aj _) (fun _=>aa (.string _))
 |_=>first|exact ae _|exact aa (.bool _)
theorem Cg (a:UnOp){v v':Wx}(hv:RV ρ v v'):RS P QV ρ (Op.unary a v) (Op.unary a v'):=by
 unfold Op.unary;cases hv with
 |bool b=>cases a<;>first|exact ae _|exact aa (.bool _)
 |int k n=>cases a<;>first|exact ae _|exact mX _ _ _ _|exact oh _ _ _ _
 |pointer ha=>cases a<;>cases ha<;>first|exact ae _|exact aj _
 |_=>cases a<;>exact ae _
theorem Ch (p:bM P)(at_:Array Ww)(t:Ww){a a':Array Wx}(h:RVs ρ a a'):RS P QV ρ (Builtin.clear_ at_ t a) (Builtin.clear_ at_ t a'):=by
 unfold Builtin.clear_;have b:∀f:Ren,RS P QV f (pure (.tuple #[]):Sem Wx) (pure (.tuple #[])):=fun f=>aa (.tuple rfl (fun i v v' e=>by simp at e))
 rcases h.get 0 with ⟨h1,h2⟩|⟨x,x',h1,h2,hx⟩
 .rw [h1,h2];cases at_[0]?<;>exact ae _
 rw [h1,h2];cases at_[0]? with
 |none=>exact ae _
 |some u=>
  refine ag (ao u) (fun f l1 d=>?_);have hx1:=hx.mono l1;cases hx1 with
  |map hr=>
   cases hr with
   |none=>cases d<;>exact b f
   |some hr=>
    cases d<;>exact ah (dx hr) (fun q l2 o o' ho=>by
     obtain ⟨ho,k1,k2⟩:=ho;cases ho with
     |map c hm=>exact ah (Q:=QU) (.setObj (l2 _ _ hr) (.map c .nil) (fun k=>by cases k1 k) (fun k=>by have:=k2 k;simp [Obj.isChan] at this) (.pure trivial)) (fun m l3 _ _ _=>b m)
     |_=>exact ae _)
  |slice n c ha=>
   cases ha with
   |none=>cases d<;>exact b f
   |some ha=>
    cases n with
    |zero=>cases d<;>exact b f
    |succ n=>
     cases d with
     |slice l=>
      refine ah (bz p l) (fun q l2 z z' hz=>?_);have hzz:=(RV.cellsRel hz).zeros (n+1);exact ah (cj _ _ 0 (ha.mono l2) (by simpa using hzz.size) (fun j x x' e1 e2=>hzz.at_ j x x' (by simpa using e1) (by simpa using e2))) (fun m _ _ _ _=>b m)
     |_=>exact ae _
  |_=>cases d<;>exact ae _
theorem eE {r r':Nat}(h:ρ r r'):RS P QE ρ (shape r) (shape r'):=.shape h (fun _=>.pure rfl)
theorem qT {r r':Nat}(h:ρ r r'):RS P (fun _ a b=>a=none/\b=none) ρ (viewAt r) (viewAt r'):=by
 unfold viewAt;refine ag (eE h) (fun ρ1 l1 s=>aC (fun _=>aa ⟨rfl,rfl⟩) (fun _=>?_));refine ah (dx (l1 _ _ h)) (fun ρ2 l2 o o' ho=>?_);obtain ⟨ho,-,-⟩:=ho;cases ho with
 |dead _ hd=>cases o'<;>first|exact aa ⟨rfl,rfl⟩|simp [py] at hd
 |_=>exact aa ⟨rfl,rfl⟩
inductive GT (ρ:Ren):Option (Wu×Bool)->Option (Wu×Bool)->Prop
 |none:GT ρ none none
 |some {a a':Wu} (b:Bool) (h:RA ρ a a'):GT ρ (some (a,b)) (some (a',b))
theorem mZ {r r':Nat}(h:ρ r r'):RS P GT ρ (numberAt r) (numberAt r'):=by
 unfold numberAt;refine ag (eE h) (fun ρ1 l1 s=>aC (fun _=>aa .none) (fun _=>?_));refine ah (dx (l1 _ _ h)) (fun ρ2 l2 o o' ho=>?_);obtain ⟨ho,-,-⟩:=ho;cases ho with
 |number b h=>exact aa (.some b h)
 |dead _ hd=>cases o'<;>first|exact aa .none|simp [py] at hd
 |_=>exact aa .none
theorem m0 {a a':Wu}(h:RA ρ a a'):RS P QU ρ (noView a) (noView a'):=by
 unfold noView;refine ah (qT h.1) (fun ρ1 l1 x y e=>?_);obtain ⟨rfl,rfl⟩:=e;exact aa trivial
theorem cC (t:Ww):P.alt.underlying t=P.underlying t:=rfl
theorem dE (t:Ww):P.alt.cellsOf t=P.cellsOf t:=rfl
theorem gl (t:Ww):P.alt.bytesOf t=P.bytesOf t:=rfl
theorem gY:P.alt.depth=P.depth:=rfl
theorem iS:∀ (d:Nat)(t:Ww)(o:Nat),byteOfCell P.alt d t o=byteOfCell P d t o:=by
 intro d;induction d with
 |zero=>intro t o;rfl
 |succ d ih=>
  intro t o;unfold byteOfCell;simp only [ih,cC,dE,gl];rfl
theorem eU {a a':Wu}(h:RA ρ a a'):RS P QE ρ (byteOf a) (byteOf a'):=by
 unfold byteOf;rw [<-h.2.2];cases a.spot with
 |some s=>exact aa rfl
 |none=>
  refine aY ?_ ?_
  rotate_left
  .simp only [iS,dE,gY,gl]
  refine ah (m0 h) (fun ρ2 l2 _ _ _=>?_);refine ag (eE (l2 _ _ h.1)) (fun ρ3 l3 s=>?_);rcases s with - |⟨e,z⟩
  .exact ae _
  refine aC (fun _=>aa rfl) (fun _=>?_);rw [<-h.2.1];cases byteOfCell P P.depth e (a.off % P.cellsOf e) with
  |none=>exact ae _
  |some b=>exact aa rfl
theorem zi {a a':Wu}(h:RA ρ a a')(c b:Nat):RS P QA ρ (partAt a c b) (partAt a' c b):=by
 unfold partAt;refine ag (eU h) (fun d l1 x=>?_);have hp:RA d {block:=a.block,off:=a.off+c} {block:=a'.block,off:=a'.off+c}:=⟨l1 _ _ h.1,by rw [h.2.1],rfl⟩;refine ag (eU hp) (fun e l2 y=>aa ?_);show RA e _ _;split
 .exact hp.mono l2
 .exact ⟨l2 _ _ hp.1,hp.2.1,rfl⟩
theorem pE {a a':Wu}(h:RA ρ a a')(f:Field):RS P QA ρ (fieldPlace a f) (fieldPlace a' f):=by
 unfold fieldPlace;refine ag (bm _) (fun ρ1 l1 x=>aC (fun _=>zi (h.mono l1) _ _) (fun _=>aa ((h.mono l1).add _)))
theorem wR (s:Ww){v v':Wx}(hv:RV ρ v v')(f:Nat):RS P QV ρ (Instr.fieldAt s v f) (Instr.fieldAt s v' f):=by
 unfold Instr.fieldAt;refine ag (ao s) (fun ρ1 l1 d=>?_);cases d with
 |struct c=>
  dsimp only;cases c[f]? with
  |none=>exact ae _
  |some x=>
   refine ah (eT (hv.mono l1)) (fun ρ2 l2 a a' ha=>?_);exact ah (pE ha x) (fun ρ3 l3 b b' hb=>aa (.pointer (.some hb)))
 |_=>exact ae _
theorem wS (t:Ww){v v':Wx}(hv:RV ρ v v'){k e j f o c:Option Wx}(h1:∀v v',k=some v->e=some v'->RV ρ v v')(h2:∀v v',j=some v->f=some v'->RV ρ v v')(h3:∀v v',o=some v->c=some v'->RV ρ v v')
  (e1:k.isSome=e.isSome) (e2:j.isSome=f.isSome) (e3:o.isSome=c.isSome):RS P QV ρ (Instr.sliceAt t v k j o) (Instr.sliceAt t v' e f c):=by
 unfold Instr.sliceAt;refine ag (ao t) (fun p l1 d=>?_);have hv1:=hv.mono l1;have g1:∀v v',k=some v->e=some v'->RV p v v':=fun v v' a b=>(h1 v v' a b).mono l1
 have g2:∀v v',j=some v->f=some v'->RV p v v':=fun v v' a b=>(h2 v v' a b).mono l1
 have g3:∀v v',o=some v->c=some v'->RV p v v':=fun v v' a b=>(h3 v v' a b).mono l1
 cases d with
 |array n i=>
  refine ah (eT hv1) (fun ρ2 l2 a a' ha=>?_);refine ag (eh false _ _ (fun v v' a b=>(g1 v v' a b).mono l2) (fun v v' a b=>(g2 v v' a b).mono l2) (fun v v' a b=>(g3 v v' a b).mono l2) e1 e2 e3) (fun ρ4 l4 x=>?_);obtain ⟨l,h,m⟩:=x;refine ag (bm i) (fun ρ5 l5 z=>?_);refine aa (.slice _ _ (.some ?_));have ha5:=(ha.mono l4).mono l5;split
  .exact ha5
  .exact ha5.add _
 |_=>exact Cb t hv1 g1 g2 g3 e1 e2 e3
theorem Ci {a a' b b':Wu}(h:RA ρ a a')(k:RA ρ b b'):(a==b)=(a'==b'):=by
 have e:a=b↔a'=b':=by
  obtain ⟨r,o,s⟩:=a;obtain ⟨r',o',s'⟩:=a';obtain ⟨q,u,t⟩:=b;obtain ⟨q',u',t'⟩:=b';obtain ⟨h1,h2,h3⟩:=h;obtain ⟨k1,k2,k3⟩:=k;simp only at h1 h2 h3 k1 k2 k3;subst h2;subst h3;subst k2;subst k3;simp only [Addr.mk.injEq];constructor
  .rintro ⟨rfl,rfl,rfl⟩;exact ⟨ρ.fn _ _ _ h1 k1,rfl,rfl⟩
  .rintro ⟨rfl,rfl,rfl⟩;exact ⟨ρ.inj _ _ _ h1 k1,rfl,rfl⟩
 by_cases c:a=b
 .exact (beq_iff_eq.2 c).trans (beq_iff_eq.2 (e.1 c)).symm
 .exact (beq_eq_false_iff_ne.2 c).trans (beq_eq_false_iff_ne.2 (fun x=>c (e.2 x))).symm
theorem mh {a a':Wu}(h:RA ρ a a')(hn:¬ρ.old a.block):RS P QU ρ (markStringish a) (markStringish a'):=by
 unfold markStringish;refine .shape h.1 (fun s=>?_);rcases s with - |⟨e,z⟩
 .exact .pure trivial
 .exact .freeze 1 ⟨h.1,rfl,rfl⟩ hn (.pure trivial)
def QAn:Ren->Wu->Wu->Prop:=fun ρ a a'=>RA ρ a a'/\¬ρ.old a.block
theorem wT (e:Ww){c c':Array Wx}(h:RVs ρ c c'):RS P QAn ρ (newRow e c) (newRow e c'):=by
 unfold newRow;exact .new (.cells e (.inl rfl) h) (fun r r' _ _ hn=>.pure ⟨⟨.inr ⟨rfl,rfl⟩,rfl,rfl⟩,hn⟩)
theorem RVs.self {c:Array Wx}(h:∀ (i:Nat) v,c[i]?=some v->RV ρ v v):RVs ρ c c:=⟨rfl,fun i v v' e e'=>by rw [e] at e';cases e';exact h i v e⟩
theorem mi (e:Ww)(s:ByteArray):RS P QV ρ (Conv.stringToBytes e s) (Conv.stringToBytes e s):=by
 unfold Conv.stringToBytes;refine ag (db _) (fun ρ1 l1 cap=>?_);refine ah (wT e (RVs.append (RVs.self (fun i v h=>?_)) (RVs.self (fun i v h=>?_)))) (fun ρ2 l2 a a' ha=>?_)
 .simp only [Array.getElem?_map,Option.map_eq_some_iff] at h;obtain ⟨x,-,rfl⟩:=h;exact .int _ _
 .rw [Array.getElem?_replicate] at h;split at h
  .cases h;exact .int _ _
  .cases h
 exact ah (mh ha.1 ha.2) (fun ρ3 l3 _ _ _=>aa (.slice _ _ (.some (ha.1.mono l3))))
end
section
variable {P:Wv} [Two P]
theorem fo {α b σ:Type}:∀ (l:List α)(l':List b)(s:σ){ρ:Ren}(R:Ren->α->b->Prop)(_hm:∀ρ ρ' a a',Ren.le ρ ρ'->R ρ a a'->R ρ' a a')(f:α->σ->Sem (ForInStep σ))(f':b->σ->Sem (ForInStep σ)),
  l.length=l'.length->(∀ (j:Nat) a a',l[j]?=some a->l'[j]?=some a'->R ρ a a')->(∀ρ',ρ.le ρ'->∀a a' s,R ρ' a a'->RS P QE ρ' (f a s) (f' a' s))->RS P QE ρ (forIn l s f) (forIn l' s f'):=by
 intro l;induction l with
 |nil=>
  intro l' s ρ R hm f f' hl _ _;cases l' with
  |nil=>simp only [List.forIn_nil];exact aa rfl
  |cons _ _=>simp at hl
 |cons x l ih=>
  intro l' s ρ R hm f f' hl c hf;cases l' with
  |nil=>simp at hl
  |cons x' l'=>
   simp only [List.forIn_cons];refine ag (hf ρ (Ren.le_refl _) x x' s (c 0 x x' rfl rfl)) (fun ρ1 l1 r=>?_);cases r with
   |done r=>exact aa rfl
   |yield r=>exact ih l' r R hm f f' (by simpa using hl) (fun j a a' h1 h2=>hm _ _ _ _ l1 (c (j+1) a a' (by simpa using h1) (by simpa using h2))) (fun ρ' l'=>hf ρ' (Ren.le_trans l1 l'))
theorem lq {α σ:Type}{ρ:Ren}(l:List α)(s:σ)(f f':α->σ->Sem (ForInStep σ))(hf:∀ρ',ρ.le ρ'->∀a s,RS P QE ρ' (f a s) (f' a s)):RS P QE ρ (forIn l s f) (forIn l s f'):=
 fo l l s (fun _ a a'=>a=a') (fun _ _ _ _ _ h=>h) f f' rfl (fun j a a' h1 h2=>by rw [h1] at h2;exact oJ h2) (fun ρ' l a a' s h=>by subst h;exact hf ρ' l a s)
variable {ρ:Ren}
theorem mj {v v':Wx}(hv:RV ρ v v'):RS P QV ρ (Conv.bytesToString v) (Conv.bytesToString v'):=by
 unfold Conv.bytesToString;cases hv with
 |slice n c ha=>
  cases ha with
  |none=>exact aa (.string _)
  |some ha=>
   refine ah (fk ha n) (fun ρ1 l1 c c' hc=>?_);simp only [<-Array.forIn_toList];refine ag (fo c.toList c'.toList _ (fun ρ a a'=>RV ρ a a') (fun _ _ _ _ l h=>h.mono l) _ _ (by simpa using hc.size) (fun j a a' h1 h2=>hc.at_ j a a' (by simpa using h1) (by simpa using h2)) (fun ρ' l a a' s h=>?_)) (fun ρ2 l2 s=>aa (.string _));cases h with
   |int k n=>cases k<;>first|exact ae _|exact aa rfl
   |_=>exact ae _
 |_=>exact ae _
theorem ml {v v':Wx}(hv:RV ρ v v'):RS P QV ρ (Conv.runesToString v) (Conv.runesToString v'):=by
 unfold Conv.runesToString;cases hv with
 |slice n c ha=>
  cases ha with
  |none=>exact aa (.string _)
  |some ha=>
   refine ah (fk ha n) (fun ρ1 l1 c c' hc=>?_);simp only [<-Array.forIn_toList];refine ag (fo c.toList c'.toList _ (fun ρ a a'=>RV ρ a a') (fun _ _ _ _ l h=>h.mono l) _ _ (by simpa using hc.size) (fun j a a' h1 h2=>hc.at_ j a a' (by simpa using h1) (by simpa using h2)) (fun ρ' l a a' s h=>?_)) (fun ρ2 l2 s=>aa (.string _));cases h with
   |int k n=>cases k<;>first|exact ae _|exact aa rfl
   |_=>exact ae _
 |_=>exact ae _
end
def strip (fn:Func):Func:={fn with body:=fn.body.map (fun _=>.skip)}
structure GId (P:Wv) [Two P](ρ:Ren):Prop where
 glob:∀g,g<P.globals.size->ρ g g
 prog:ρ.prog=P
 code:∀ (f:FuncId) fn b,ρ.F f=true->P.funcs[f]?=some fn->fn.body=some b->aG P ρ.F b=true
 alt:∀f,ρ.F f=true->P.alt.funcs[f]?=P.funcs[f]?
 free:ρ.F lm=true->∀a,¬ρ.old a
 same:∀f:Nat,(P.alt.funcs[f]?).map strip=(P.funcs[f]?).map strip
 size:P.alt.funcs.size=P.funcs.size
 apart:∀f,Mk ρ.F f=true->∃a b,P.alt.funcs[f]?=some a/\P.funcs[f]?=some b/\a.body.isSome=true/\b.body.isSome=true/\a.name=b.name
theorem GId.mono {P:Wv} [Two P]{ρ ρ':Ren}(h:GId P ρ)(l:ρ.le ρ'):GId P ρ':=⟨fun g hg=>l _ _ (h.glob g hg),l.prog.trans h.prog,by rw [l.F];exact h.code,by rw [l.F];exact h.alt,by rw [l.F,l.old];exact h.free,h.same,h.size,by rw [l.F];exact h.apart⟩
theorem GId.lt {P:Wv} [Two P]{ρ:Ren}(h:GId P ρ){a b:Nat}(k:ρ a b):(a<P.globals.size)↔(b<P.globals.size):=by
 constructor
 .intro e;rw [<-ρ.fn _ _ _ (h.glob a e) k];exact e
 .intro e;rw [ρ.inj _ _ _ k (h.glob b e)];exact e
section
variable {P:Wv} [Two P]
theorem aW {ρ:Ren}{a a':Wu}(h:RA ρ a a'):RS P (fun ρ x y=>RA ρ x.1 y.1/\x.2=y.2) ρ (behindNumber a) (behindNumber a'):=by
 unfold behindNumber;refine ah (mZ h.1) (fun ρ1 l1 x y e=>?_);cases e with
 |none=>exact aa ⟨h.mono l1,rfl⟩
 |some b h=>exact aa ⟨h,rfl⟩
theorem Ew {ρ:Ren}{r r' q q':Option Nat}(h:RNo ρ r r')(k:RNo ρ q q'):(r==q)=(r'==q'):=by
 cases h with
 |none=>cases k<;>rfl
 |some h=>
  cases k with
  |none=>rfl
  |some k=>exact fN h k
theorem iH (d:Nat){ρ:Ren}(j:GId P ρ)(t:Ww){x x' y l:Wx}(hx:RV ρ x x')(hy:RV ρ y l)(hn:gG (P.underlying t)=true\/BR x=true\/BR y=true):RS P QE ρ (Op.equalIn d t x y) (Op.equalIn d t x' l):=by
 cases d with
 |zero=>exact aj _
 |succ d=>
  unfold Op.equalIn;refine ah (aT t) (fun s l1 f ty' hd=>?_);obtain ⟨rfl,hd⟩:=hd;have hI1:=j.mono l1;have hx1:=hx.mono l1;have hy1:=hy.mono l1;clear j hx hy l1;cases f with
  |bool=>cases hx1<;>first|exact ae _|(cases hy1<;>first|exact ae _|exact aa rfl)
  |string=>cases hx1<;>first|exact ae _|(cases hy1<;>first|exact ae _|exact aa rfl)
  |chan u e=>
   cases hx1 with
   |chan h=>
    cases hy1 with
    |chan k=>exact aa (Ew h k)
    |_=>exact ae _
   |_=>exact ae _
  |func a b c=>cases hx1<;>first|exact ae _|(cases hy1<;>first|exact ae _|exact aa rfl)
  |slice e=>
   cases hx1 with
   |slice n c h=>
    cases hy1 with
    |slice r c' k=>cases h<;>cases k<;>first|exact ae _|exact aa rfl
    |_=>cases h<;>exact ae _
   |_=>exact ae _
  |map u e=>
   cases hx1 with
   |map h=>
    cases hy1 with
    |map k=>cases h<;>cases k<;>first|exact ae _|exact aa rfl
    |_=>cases h<;>exact ae _
   |_=>exact ae _
  |pointer elem=>
   cases hx1 with
   |pointer h=>
    cases hy1 with
    |pointer k=>
     cases h with
     |none=>cases k<;>exact aa rfl
     |some h=>
      cases k with
      |none=>exact aa rfl
      |some k=>simp [hd,gG,BR] at hn
    |_=>cases h<;>exact ae _
   |_=>exact ae _
  |unsafePointer=>
   cases hx1 with
   |pointer h=>
    cases hy1 with
    |pointer k=>
     show RS P QE s (samePointer _ _) (samePointer _ _);unfold samePointer;cases h with
     |none=>cases k<;>exact aa rfl
     |some h=>
      cases k with
      |none=>exact aa rfl
      |some k=>simp [hd,gG,BR] at hn
    |_=>exact ae _
   |_=>exact ae _
  |interface ms=>
   cases hx1 with
   |nilIface=>cases hy1<;>first|exact ae _|exact aa rfl
   |iface tx hv=>
    cases hy1 with
    |nilIface=>exact aa rfl
    |iface f hw=>simp [hd,gG,BR] at hn
    |_=>exact ae _
   |_=>exact ae _
  |int kk=>
   cases hx1 with
   |int k n=>
    cases hy1 with
    |int k' r=>exact aC (fun _=>aa rfl) (fun _=>ae _)
    |pointer h=>cases h<;>rcases n with (_|m)|m<;>first|exact aa rfl|exact aj _
    |_=>exact ae _
   |pointer h=>
    cases hy1 with
    |int k n=>cases h<;>rcases n with (_|m)|m<;>first|exact aa rfl|exact aj _
    |pointer k=>
     cases h with
     |none=>cases k<;>exact aj _
     |some h=>
      cases k with
      |none=>exact aj _
      |some k=>
       refine ah (aW h) (fun ρ2 l2 a a' ha=>?_);refine ah (aW (k.mono l2)) (fun ρ3 l3 b b' hb=>?_);have ha3:=ha.1.mono l3;have hb3:=hb.1;refine aY ?_;have hI3:=(hI1.mono l2).mono l3;have e1:(a.1.block==b.1.block)=(a'.1.block==b'.1.block):=fN ha3.1 hb3.1;have e2:decide (a.1.block<P.globals.size)=decide (a'.1.block<P.globals.size):=decide_eq_decide.2 (hI3.lt ha3.1);rw [e1,e2,Ci ha3 hb3];refine aC (fun _=>?_) (fun _=>?_)
       .refine ag (eU ha3) (fun o l4 x=>?_);exact ag (eU (hb3.mono l4)) (fun ρ5 l5 y=>aa rfl)
       .refine ah (aH t) (fun o l4 i i' p=>?_);obtain ⟨rfl,-⟩:=p;split
        .exact aC (fun _=>aa rfl) (fun _=>aj _)
        .exact aj _
    |_=>cases h<;>exact aj _
   |_=>
    cases hy1<;>first|exact ae _|exact aj _
  |struct fs=>
   cases hx1 with
   |agg hc q=>
    cases hy1 with
    |agg kc v=>simp [hd,gG,BR] at hn
    |_=>exact ae _
   |_=>exact ae _
  |array n e=>
   cases hx1 with
   |agg hc q=>
    cases hy1 with
    |agg kc v=>simp [hd,gG,BR] at hn
    |_=>exact ae _
   |_=>exact ae _
  |float k=>cases hx1<;>exact ae _
  |complex k=>cases hx1<;>exact ae _
  |_=>exact ae _
theorem m7:∀ (d:Nat)(t:Ww),P.alt.eqGuardType d t=P.eqGuardType d t:=by
 intro d;induction d with
 |zero=>intro t;rfl
 |succ d ih=>
  intro t;unfold Program.eqGuardType;simp only [ih,cC]
theorem nY:∀ (d:Nat)(t:Ww)(o:Nat),cellOfByte P.alt d t o=cellOfByte P d t o:=by
 intro d;induction d with
 |zero=>intro t o;rfl
 |succ d ih=>
  intro t o;unfold cellOfByte;simp only [ih,cC,dE,gl];rfl
theorem m8 (d:Nat)(e:Ww)(c o:Nat)(b:Int):cellAtBytes P.alt d e c o b=cellAtBytes P d e c o b:=by
 unfold cellAtBytes;simp only [nY,iS,dE,gl];rfl
theorem lr (d:Nat):∀ {ρ:Ren}(t:Ww){x x' y j:Wx},RV ρ x x'->RV ρ y j->RS P QE ρ (Op.eqGuardIn d t x y) (Op.eqGuardIn d t x' j):=by
 induction d with
 |zero=>intro ρ t x x' y j _ _;exact aj _
 |succ d ih=>
  intro ρ t x x' y j hx hy;unfold Op.eqGuardIn;refine ag (ao t) (fun k l1 q=>?_);have hx1:=hx.mono l1;have hy1:=hy.mono l1;clear hx hy l1;cases q with
  |interface ms=>
   cases hx1 with
   |nilIface=>
    cases hy1 with
    |dead _ h=>cases j<;>first|exact aa rfl|simp [gQ] at h
    |_=>exact aa rfl
   |dead _ h=>cases x'<;>first|exact aa rfl|simp [gQ] at h
   |_=>exact aa rfl
  |struct fs=>
   cases hx1 with
   |agg hc m=>
    cases hy1 with
    |agg kc p=>
     have a:RVs k _ _:=⟨hc,m⟩;have c:RVs k _ _:=⟨kc,p⟩;dsimp only;simp only [<-Array.forIn_toList];refine ag (lq fs.toList _ _ _ (fun ρ' l f s=>?_)) (fun A l2 s=>?_)
     .refine aC (fun _=>?_) (fun _=>aa rfl);refine ah (gW f.type (a.mono l) _) (fun B l3 u u' o=>?_);refine ah (gW f.type ((c.mono l).mono l3) _) (fun r l4 w w' hw=>?_);refine ag (ih f.type (o.mono l4) hw) (fun v l5 b=>?_);exact aC (fun _=>aa rfl) (fun _=>aa rfl)
     .obtain ⟨s,-⟩:=s;cases s<;>exact aa rfl
    |dead _ h=>cases j<;>first|exact aa rfl|simp [gQ] at h
    |_=>exact aa rfl
   |dead _ h=>cases x'<;>first|exact aa rfl|simp [gQ] at h
   |_=>exact aa rfl
  |array n e=>
   cases hx1 with
   |agg hc m=>
    cases hy1 with
    |agg kc p=>
     have a:RVs k _ _:=⟨hc,m⟩;have c:RVs k _ _:=⟨kc,p⟩;refine ag (bm e) (fun ρ0 l0 z=>?_);dsimp only;simp only [Std.Legacy.Range.forIn_eq_forIn_range'];refine ag (lq _ _ _ _ (fun ρ' l i s=>?_)) (fun A l2 s=>?_)
     .refine ah (gW e ((a.mono l0).mono l) _) (fun B l3 u u' o=>?_);refine ah (gW e (((c.mono l0).mono l).mono l3) _) (fun r l4 w w' hw=>?_);refine ag (ih e (o.mono l4) hw) (fun v l5 b=>?_);exact aC (fun _=>aa rfl) (fun _=>aa rfl)
     .obtain ⟨s,-⟩:=s;cases s<;>exact aa rfl
    |dead _ h=>cases j<;>first|exact aa rfl|simp [gQ] at h
    |_=>exact aa rfl
   |dead _ h=>cases x'<;>first|exact aa rfl|simp [gQ] at h
   |_=>exact aa rfl
  |_=>exact aa rfl
variable {ρ:Ren}
theorem wU (c:BinOp)(t:Ww)(x y:Operand){a a' b b':Wx}(ha:RV ρ a a')(hb:RV ρ b b'):RS P QU ρ (eqGuard c t x y a b) (eqGuard c t x y a' b'):=by
 unfold eqGuard;refine aC (fun _=>aa trivial) (fun _=>?_);cases ha with
 |nilIface=>
  cases hb with
  |nilIface=>
   refine aC (fun _=>aa trivial) (fun _=>?_);exact ag (lr _ t .nilIface .nilIface) (fun d l1 g=>aC (fun _=>aj _) (fun _=>aa trivial))
  |dead _ h=>cases b'<;>first|exact aa trivial|simp [gQ] at h
  |_=>exact aa trivial
 |agg hc f=>
  cases hb with
  |agg kc e=>
   refine aY (aY ?_) (by simp only [m7]);refine aC (fun _=>aa trivial) (fun _=>?_);exact ag (lr _ t (.agg hc f) (.agg kc e)) (fun d l1 g=>aC (fun _=>aj _) (fun _=>aa trivial))
  |dead _ h=>cases b'<;>first|exact aa trivial|simp [gQ] at h
  |_=>exact aa trivial
 |dead _ h=>cases a'<;>first|exact aa trivial|simp [gQ] at h
 |_=>exact aa trivial
theorem lu (c:GId P ρ){a a' b b':Wu}(h:RA ρ a a')(k:RA ρ b b'):RS P QE ρ (Op.twoPlaces a b) (Op.twoPlaces a' b'):=by
 unfold Op.twoPlaces;have e1:(a.block != b.block)=(a'.block != b'.block):=congrArg (! ·) (fN h.1 k.1);have e2:decide (a.block ≥ P.globals.size)=decide (a'.block ≥ P.globals.size):=decide_eq_decide.2 (by have:=c.lt h.1;omega);refine aY ?_;rw [e1,e2];refine aC (fun _=>aV (aj _)) (fun _=>?_);refine ag (eU h) (fun ρ1 l1 x=>?_);exact ag (eU (k.mono l1)) (fun ρ2 l2 y=>aa rfl)
theorem wV (d:GId P ρ)(c:IntKind){a a' b b':Wu}(h:RA ρ a a')(k:RA ρ b b'):RS P QV ρ (Op.addrSub c a b) (Op.addrSub c a' b'):=by
 unfold Op.addrSub;exact ag (lu d h k) (fun ρ1 l1 x=>aa (.int _ _))
theorem wW (d:GId P ρ)(c:BinOp){a a' b b':Wu}(h:RA ρ a a')(k:RA ρ b b'):RS P QV ρ (Op.addrCmp c a b) (Op.addrCmp c a' b'):=by
 unfold Op.addrCmp;exact ag (lu d h k) (fun ρ1 l1 x=>by cases c<;>first|exact aj _|exact aa (.bool _))
theorem kg (b:IntKind){a a':Wu}(h:RA ρ a a')(n:Int):RS P QV ρ (Op.addrMod b a n) (Op.addrMod b a' n):=by
 unfold Op.addrMod;refine ag (eE h.1) (fun ρ1 l1 s=>?_);rcases s with - |⟨e,z⟩
 .exact aj _
 refine ah (aH e) (fun ρ2 l2 i i' c=>?_);obtain ⟨rfl,-⟩:=c;refine aC (fun _=>aV (aj _)) (fun _=>?_);exact ag (eU ((h.mono l1).mono l2)) (fun ρ3 l3 x=>aa (.int _ _))
def QP:Ren->Wx->Wx->Prop:=fun ρ v v'=>∃a a',v=.pointer a/\v'=.pointer a'/\RAo ρ a a'
theorem QP.val {ρ:Ren}{v v':Wx}(h:QP ρ v v'):RV ρ v v':=by
 obtain ⟨a,a',rfl,rfl,h⟩:=h;exact .pointer h
theorem fp (at_:Array Ww)(t:Ww){b b':Option Wu}(h0:RAo ρ b b'){y a:Wx}(hy:RV ρ y a):RS P QP ρ (Builtin.unsafeAdd_ at_ t #[.pointer b,y]) (Builtin.unsafeAdd_ at_ t #[.pointer b',a]):=by
 unfold Builtin.unsafeAdd_;refine ag (fm hy) (fun ρ1 l1 n=>?_);have h1:=h0.mono l1;refine aC (fun _=>?_) (fun _=>?_)
 .cases h1 with
  |none=>exact aj _
  |some h=>
   refine ah (qT h.1) (fun c l2 x y e=>?_);obtain ⟨rfl,rfl⟩:=e;exact aa ⟨_,_,rfl,rfl,.some (h.mono l2)⟩
 .refine aC (fun _=>aV (aj _)) (fun _=>?_);cases h1 with
  |none=>exact aj _
  |some h=>
   refine ag (eE h.1) (fun c l2 s=>?_);rcases s with - |⟨e,z⟩
   .exact aj _
   refine aY ?_ ?_
   rotate_left
   .simp only [m8,dE,gY]
   rw [<-h.2.1];split
   .exact aa ⟨_,_,rfl,rfl,.some ⟨l2 _ _ h.1,rfl,h.2.2⟩⟩
   .exact aj _
theorem fC (t:Ww){x x' y e:Wx}(hx:RV ρ x x')(hy:RV ρ y e)(hp:∃a,x=.pointer a):RS P QV ρ (movedNumber t x y) (movedNumber t x' e):=by
 obtain ⟨a,rfl⟩:=hp;unfold movedNumber;refine ag (ao t) (fun ρ1 l1 d=>aC (fun _=>aV (aj _)) (fun _=>?_));cases hx with
 |pointer h=>
  cases h with
  |none=>exact (fp #[] t .none (hy.mono l1)).imp (fun _ _ _ h=>h.val)
  |some h=>
   refine ah (aW (h.mono l1)) (fun ρ2 l2 a a' ha=>?_);obtain ⟨a,c⟩:=a;obtain ⟨a',lost'⟩:=a';obtain ⟨ha,hl⟩:=ha;simp only at ha hl;subst hl;refine ah (fp #[] t (.some ha) ((hy.mono l1).mono l2)) (fun ρ3 l3 v v' hv=>?_);obtain ⟨b,b',rfl,rfl,k⟩:=hv;cases k with
   |none=>exact aa (.pointer .none)
   |some k=>
    unfold asNumber;exact ah (Q:=fun ρ r r'=>ρ r r') (.new (.number c k) (fun r r' _ _ _=>.pure (.inr ⟨rfl,rfl⟩))) (fun ρ4 l4 r r' hr=>aa (.pointer (.some ⟨hr,rfl,rfl⟩)))
theorem m9 (t:Ww){x x' y c:Wx}(hx:RV ρ x x')(hy:RV ρ y c)(hp:∃a,x=.pointer a):RS P QV ρ (movedPointer t x y) (movedPointer t x' c):=by
 obtain ⟨a,rfl⟩:=hp;unfold movedPointer;cases hx with
 |pointer h=>
  cases h with
  |none=>exact (fp #[] t .none hy).imp (fun _ _ _ h=>h.val)
  |some h=>
   refine ah (mZ h.1) (fun ρ1 l1 u u' d=>?_);cases d with
   |none=>exact (fp #[] t (.some (h.mono l1)) (hy.mono l1)).imp (fun _ _ _ h=>h.val)
   |some b k=>exact aV (aj _)
theorem tJ (d:Nat)(t:Ww)(y:Wx):cZ P (Op.equalIn d t (.tuple #[]) y):=by
 cases d with
 |zero=>exact .halt rfl
 |succ d=>
  unfold Op.equalIn;refine .program (fun p _=>?_)
  show cZ P (Sem.bind (match p.underlying t with | some i => Pure.pure i | none => stuck "no such type") _)
  cases p.underlying t with
  |none=>exact .halt rfl
  |some ty=>cases ty<;>cases y<;>exact .halt rfl
theorem na (d:Nat)(t:Ww)(x:Wx):cZ P (Op.equalIn d t x (.tuple #[])):=by
 cases d with
 |zero=>exact .halt rfl
 |succ d=>
  unfold Op.equalIn;refine .program (fun p _=>?_)
  show cZ P (Sem.bind (match p.underlying t with | some i => Pure.pure i | none => stuck "no such type") _)
  cases p.underlying t with
  |none=>exact .halt rfl
  |some ty=>
   cases x with
   |pointer a=>cases ty<;>cases a<;>exact .halt rfl
   |slice a n c=>cases ty<;>cases a<;>exact .halt rfl
   |map a=>cases ty<;>cases a<;>exact .halt rfl
   |int k n=>cases ty<;>rcases n with (_|m)|m<;>exact .halt rfl
   |_=>cases ty<;>exact .halt rfl
theorem tK (a:BinOp)(t:Ww)(y:Wx):cZ P (binOp a t (.tuple #[]) y):=by
 unfold binOp;cases a<;>first
  |exact (tJ _ t y).bind _
  |(cases y<;>exact .halt rfl)
theorem gm (b:BinOp)(t:Ww)(x:Wx):cZ P (binOp b t x (.tuple #[])):=by
 unfold binOp;cases x with
 |pointer a=>cases a<;>cases b<;>first|exact (na _ t _).bind _|exact .halt rfl
 |_=>cases b<;>first|exact (na _ t _).bind _|exact .halt rfl
theorem Cj (l:GId P ρ)(f:BinOp)(t:Ww){x x' y j:Wx}(hx:RV ρ x x')(hy:RV ρ y j)(hn:(f=.eql\/f=.neq)->RS P QE ρ (Op.equal t x y) (Op.equal t x' j)):RS P QV ρ (binOp f t x y) (binOp f t x' j):=by
 have c:RS P QE ρ (Op.equal t x y) (Op.equal t x' j)->∀b:Bool,RS P QV ρ (do let e <-Op.equal t x y;pure (Value.bool (if b then !e else e))) (do let e <-Op.equal t x' j;pure (Value.bool (if b then !e else e))):=fun h b=>ag h (fun i l1 e=>aa (.bool _))
 have hx0:=hx;have hy0:=hy;unfold binOp;cases hx with
 |dead _ _=>exact .lost (tK f t y) _
 |pointer h=>
  cases hy with
  |dead _ _=>exact .lost (gm f t _) _
  |pointer k=>
   cases h with
   |none=>cases k<;>cases f<;>first|exact ae _|exact aj _|exact c (hn (.inl rfl)) false|exact c (hn (.inr rfl)) true
   |some h=>
    cases k with
    |none=>cases f<;>first|exact ae _|exact aj _|exact c (hn (.inl rfl)) false|exact c (hn (.inr rfl)) true
    |some k=>
     cases f<;>first
      |exact aj _
      |exact c (hn (.inl rfl)) false
      |exact c (hn (.inr rfl)) true
      |exact ah (aW h) (fun i l1 a a' ha=>ah (aW (k.mono l1)) (fun m l2 b b' hb=>wV ((l.mono l1).mono l2) _ (ha.1.mono l2) hb.1))
      |exact ah (aW h) (fun i l1 a a' ha=>ah (aW (k.mono l1)) (fun m l2 b b' hb=>wW ((l.mono l1).mono l2) _ (ha.1.mono l2) hb.1))
  |int k n=>
   cases f with
   |add=>exact ag (ao t) (fun i l1 d=>aC (fun _=>m9 t (hx0.mono l1) (hy0.mono l1) ⟨_,rfl⟩) (fun _=>fC t (hx0.mono l1) (hy0.mono l1) ⟨_,rfl⟩))
   |sub=>exact fC t hx0 (.int _ _) ⟨_,rfl⟩
   |rem=>
    cases h with
    |none=>exact aj _
    |some h=>exact ah (aW h) (fun i l1 a a' ha=>kg _ ha.1 _)
   |and=>
    cases h with
    |none=>exact aj _
    |some h=>exact ah (aW h) (fun i l1 a a' ha=>kg _ ha.1 _)
   |_=>cases h<;>first|exact aj _|exact c (hn (.inl rfl)) false|exact c (hn (.inr rfl)) true
  |_=>cases h<;>cases f<;>first|exact aj _|exact c (hn (.inl rfl)) false|exact c (hn (.inr rfl)) true
 |int k n=>
  cases hy with
  |dead _ _=>exact .lost (gm f t _) _
  |pointer h=>
   cases f with
   |add=>exact fC t hy0 hx0 ⟨_,rfl⟩
   |and=>
    cases h with
    |none=>exact aj _
    |some h=>exact ah (aW h) (fun i l1 a a' ha=>kg _ ha.1 _)
   |_=>cases h<;>first|exact aj _|exact c (hn (.inl rfl)) false|exact c (hn (.inr rfl)) true
  |int k' n'=>
   cases f<;>first
    |exact Cf _ _ _ _ _
    |exact aC (fun _=>ae _) (fun _=>mX _ _ _ _)
    |exact aC (fun _=>ae _) (fun _=>zg _ _ _ _)
    |exact aC (fun _=>ae _) (fun _=>oh _ _ _ _)
    |exact aC (fun _=>ae _) (fun _=>zh _ _ _)
  |_=>cases f<;>first|exact ae _|exact c (hn (.inl rfl)) false|exact c (hn (.inr rfl)) true
 |string s=>
  cases hy with
  |dead _ _=>exact .lost (gm f t _) _
  |pointer h=>cases f<;>first|exact aj _|exact c (hn (.inl rfl)) false|exact c (hn (.inr rfl)) true
  |string s'=>cases f<;>exact mY _ _ _
  |_=>cases f<;>first|exact ae _|exact c (hn (.inl rfl)) false|exact c (hn (.inr rfl)) true
 |_=>
  cases hy with
  |dead _ _=>exact .lost (gm f t _) _
  |pointer h=>cases f<;>first|exact aj _|exact c (hn (.inl rfl)) false|exact c (hn (.inr rfl)) true
  |_=>cases f<;>first|exact ae _|exact c (hn (.inl rfl)) false|exact c (hn (.inr rfl)) true
end
section
variable {P:Wv} [Two P] {ρ:Ren}
theorem Ex {α β:Type}:∀ (l:List α){ρ:Ren}(f:α->Sem β),(∀ρ',ρ.le ρ'->∀a,RS P QE ρ' (f a) (f a))->RS P QE ρ (l.mapM f) (l.mapM f):=by
 intro l;induction l with
 |nil=>intro ρ f _;simp only [List.mapM_nil];exact aa rfl
 |cons x l ih=>
  intro ρ f hf;simp only [List.mapM_cons];refine ag (hf ρ (Ren.le_refl _) x) (fun ρ1 l1 b=>?_);exact ag (ih f (fun ρ' l'=>hf ρ' (Ren.le_trans l1 l'))) (fun ρ2 l2 bs=>aa rfl)
theorem Ck (m:bM P)(t:Ww){a a':Array (Nat×Wx)}(h:RPs ρ a.toList a'.toList):RS P QV ρ (Instr.build t a) (Instr.build t a'):=by
 unfold Instr.build;refine ah (bz m t) (fun ρ1 l1 z z' hz=>?_);refine ag (ao t) (fun ρ2 l2 d=>?_);have hc:=RV.cellsRel (hz.mono l2);have h2:=(h.mono l1).mono l2;cases d with
 |struct fields=>
  dsimp only;rw [Array.mapM_eq_mapM_toList];refine ag (ag (Ex _ _ (fun ρ' l f=>ag (bm f.type) (fun k l3 n=>aa rfl))) (fun ρ' l x=>aa rfl)) (fun k l3 b=>?_);rcases pB (fun i=>b[i]?) (h2.mono l3) (hc.mono l3) with ⟨h1,h2⟩|⟨c,c',h1,h2,hc⟩
  .rw [h1,h2];exact ae _
  .rw [h1,h2];exact aa (.agg hc.size hc.at_)
 |array n j=>
  refine ag (bm j) (fun k l3 e=>?_);rcases pB (fun i=>some (i * e,e)) (h2.mono l3) (hc.mono l3) with ⟨h1,h2⟩|⟨c,c',h1,h2,hc⟩
  .rw [h1,h2];exact ae _
  .rw [h1,h2];exact aa (.agg hc.size hc.at_)
 |_=>exact ae _
theorem kj {α β:Type}{Q:Ren->α->β->Prop}{v v':Wx}(h:RV ρ v v'):RS P Q ρ (goPanic v) (goPanic v'):=.halt (.panic h)
theorem oi {f f':Wx}(hf:RV ρ f f'){a a':Array Wx}(ha:RVs ρ a a'):RS P (fun ρ d d'=>RD ρ d d') ρ (Deferred.ofValue f a) (Deferred.ofValue f' a'):=by
 unfold Deferred.ofValue;cases hf with
 |func hf h1 h2 k1 k2=>exact aa (.mk (.fn hf ⟨h2,k2⟩) (RVs.append ⟨h1,k1⟩ ha))
 |nilFunc=>exact aa (.mk .nil ha)
 |odd n s b c hn=>exact aa (.odd n _ a s c _ hn)
 |_=>exact ae _
def QL (l:Nat):Ren->Loop->Loop->Prop:=fun ρ r r'=>RL ρ r r'/\¬ρ.old l/\¬ρ.ch l
theorem eM {l l':Nat}(h:ρ l l'):RS P (QL l) ρ (Instr.getLoop l) (Instr.getLoop l'):=by
 unfold Instr.getLoop;refine ah (dx h) (fun ρ1 l1 o o' ho=>?_);obtain ⟨ho,h1,h2⟩:=ho;cases ho with
 |loop hl=>exact aa ⟨hl,(fun k=>by cases h1 k),(fun k=>by have:=h2 k;simp [Obj.isChan] at this)⟩
 |_=>exact ae _
theorem g6 {r r':Nat}(h:ρ r r'){o o':Obj}(ho:RO ρ o o')(hn:¬ρ.old r)(hc:¬ρ.ch r)(hs:o.isChan=false:=by rfl):RS P QU ρ (setObj r o) (setObj r' o'):=.setObj h ho hn (fun e=>absurd e hc) (.pure trivial) (fun e=>by rw [hs] at e;cases e)
theorem pG {l l':Nat}(h:ρ l l'):RS P QU ρ (Instr.beginRound l) (Instr.beginRound l'):=by
 unfold Instr.beginRound;refine ah (eM h) (fun ρ1 l1 r r' hr=>?_);obtain ⟨hr,h1,h2⟩:=hr;refine ah (g6 (l1 _ _ h) (.loop ⟨rfl,hr.pending,hr.fn,hr.tmps,hr.params,hr.assign,hr.body,hr.defers,hr.okA,hr.okBo,hr.okP⟩) h1 h2) (fun ρ2 l2 _ _ _=>?_);rw [hr.state];cases r'.state<;>first|exact aa trivial|exact bu _
theorem tM {l l':Nat}(h:ρ l l')(j:Option Code)(a:∀c,j=some c->aG ρ.prog ρ.F c=true):RS P QV ρ (Instr.endRound l j) (Instr.endRound l' j):=by
 unfold Instr.endRound;refine ah (eM h) (fun ρ1 l1 r r' hr=>?_);obtain ⟨hr,h1,h2⟩:=hr;exact ah (g6 (l1 _ _ h) (.loop ⟨rfl,rfl,hr.fn,hr.tmps,hr.params,hr.assign,hr.body,hr.defers,hr.okA,hr.okBo,by rw [l1.prog,l1.F];exact a⟩) h1 h2) (fun ρ2 l2 _ _ _=>aa (.bool _))
theorem wX {l l':Nat}(h:ρ l l'):RS P (fun ρ a b=>a=b/\∀c,a=some c->aG ρ.prog ρ.F c=true) ρ (Instr.endLoop l) (Instr.endLoop l'):=by
 unfold Instr.endLoop;refine ah (eM h) (fun ρ1 l1 r r' hr=>?_);obtain ⟨hr,h1,h2⟩:=hr;rw [hr.state,<-hr.pending];refine aC (fun _=>aV (bu _)) (fun _=>?_);exact ah (g6 (l1 _ _ h) (.loop ⟨rfl,by simp only [hr.pending],hr.fn,hr.tmps,hr.params,hr.assign,hr.body,hr.defers,hr.okA,hr.okBo,hr.okP⟩) h1 h2) (fun ρ2 l2 _ _ _=>aa ⟨rfl,by rw [l2.prog,l2.F];exact hr.okP⟩)
def QEn:Ren->Nat×List Deferred->Nat×List Deferred->Prop:=fun ρ x y=>ρ x.1 y.1/\RDs ρ x.2 y.2
theorem qU (fn:FuncId){t t':Array Wx}(ht:RVs ρ t t')(ps:Array Tmp)(a b:Code)(ha:aG ρ.prog ρ.F a=true)(hb:aG ρ.prog ρ.F b=true){r r':Option Nat}(hr:RNo ρ r r'):RS P QEn ρ (Instr.enterLoop fn t ps a b r) (Instr.enterLoop fn t' ps a b r'):=by
 unfold Instr.enterLoop;have fin:∀ (f:Ren),ρ.le f->∀ (d d':Nat) (m m':List Deferred),f d d'->RDs f m m'->RS P QEn f (do let l <-newObj (.loop {state:=.ready,pending:=none,fn,tmps:=t,params:=ps,assign:=a,body:=b,defers:=d});pure (l,m)) (do let l <-newObj (.loop {state:=.ready,pending:=none,fn,tmps:=t',params:=ps,assign:=a,body:=b,defers:=d'});pure (l,m')):=fun f l1 d d' m m' hd hm=>
  .new (.loop ⟨rfl,rfl,rfl,ht.mono l1,rfl,rfl,rfl,hd,by rw [l1.prog,l1.F];exact ha,by rw [l1.prog,l1.F];exact hb,fun c e=>by cases e⟩) (fun x x' h1 h2 _=>.pure ⟨.inr ⟨rfl,rfl⟩,hm.mono (qJ _ _ _ h1 h2)⟩)
 cases hr with
 |some h=>
  refine ah (eM h) (fun f l1 q q' hq=>?_);exact ah (Q:=fun ρ (x y:Nat×List Deferred)=>ρ x.1 y.1/\RDs ρ x.2 y.2) (aa ⟨hq.1.defers,.nil⟩) (fun i l2 x y h=>by
   obtain ⟨d,m⟩:=x;obtain ⟨d',m'⟩:=y;exact fin i (Ren.le_trans l1 l2) d d' m m' h.1 h.2)
 |none=>
  refine ah (Q:=fun ρ (x y:Nat)=>ρ x y) (.new (.deferred .nil) (fun x x' h1 h2 _=>.pure (.inr ⟨rfl,rfl⟩))) (fun f l1 q q' hq=>?_);exact ah (Q:=fun ρ (x y:Nat×List Deferred)=>ρ x.1 y.1/\RDs ρ x.2 y.2) (aa ⟨hq,.cons (.mk (.collected hq) RVs.nil) .nil (.inl ⟨_,rfl⟩)⟩) (fun i l2 x y h=>by
   obtain ⟨d,m⟩:=x;obtain ⟨d',m'⟩:=y;exact fin i (Ren.le_trans l1 l2) d d' m m' h.1 h.2)
theorem nb {l l':Nat}(h:ρ l l'){d d':Deferred}(hS:(ρ.F fK||ρ.F lp)=true)(hd:RD ρ d d'):RS P QU ρ (Instr.deferInRound l d) (Instr.deferInRound l' d'):=by
 unfold Instr.deferInRound;refine ah (eM h) (fun ρ1 l1 r r' hr=>?_);refine ah (dx hr.1.defers) (fun ρ2 l2 o o' ho=>?_);obtain ⟨ho,h1,h2⟩:=ho;cases ho with
 |deferred hl=>exact g6 (l2 _ _ hr.1.defers) (.deferred (.cons ((hd.mono l1).mono l2) hl (.inr (by rw [l2.F,l1.F];exact hS)))) (fun k=>by cases h1 k) (fun k=>by have:=h2 k;simp [Obj.isChan] at this)
 |taken=>exact .lost (.halt rfl) _
 |_=>exact ae _
theorem nc {l l':Nat}(h:ρ l l'):RS P (fun ρ a b=>RDs ρ a b) ρ (Instr.takeDeferred l) (Instr.takeDeferred l'):=by
 unfold Instr.takeDeferred;refine ah (dx h) (fun ρ2 l2 o o' ho=>?_);obtain ⟨ho,h1,h2⟩:=ho;cases ho with
 |deferred hl=>exact ah (g6 (l2 _ _ h) .taken (fun k=>by cases h1 k) (fun k=>by have:=h2 k;simp [Obj.isChan] at this)) (fun ρ3 l3 _ _ _=>aa (hl.mono l3))
 |_=>exact ae _
theorem RVs.zipSet (ps:List Tmp):∀ (a a':List Wx){c c':Array Wx},a.length=a'.length->(∀ (j:Nat) v v',a[j]?=some v->a'[j]?=some v'->RV ρ v v')->RVs ρ c c' ->
  RVs ρ ((ps.zip a).foldl (fun tmps (x:Tmp×Wx)=>tmps.setIfInBounds x.1 x.2) c) ((ps.zip a').foldl (fun tmps (x:Tmp×Wx)=>tmps.setIfInBounds x.1 x.2) c'):=by
 induction ps with
 |nil=>intro a a' c c' _ _ hc;exact hc
 |cons p ps ih=>
  intro a a' c c' hl hv hc;cases a with
  |nil=>cases a' with
   |nil=>exact hc
   |cons _ _=>simp at hl
  |cons x a=>
   cases a' with
   |nil=>simp at hl
   |cons x' a'=>
    simp only [List.zip_cons_cons,List.foldl_cons];exact ih a a' (by simpa using hl) (fun j v v' h1 h2=>hv (j+1) v v' h1 h2) (hc.set _ (hv 0 x x' rfl rfl))
end
section
variable {P:Wv} [Two P]
theorem qW {ρ:Ren}(t:Ww):RS P QE ρ (elemOf t) (elemOf t):=by
 unfold elemOf;refine ag (ao t) (fun ρ1 l1 d=>?_);cases d<;>first|exact aa rfl|exact ae _
variable {ρ:Ren}
structure RC (ρ:Ren)(c c':CommCase):Prop where
 chan:RV ρ c.chan c'.chan
 send:(c.send=none/\c'.send=none)\/∃v v',c.send=some v/\c'.send=some v'/\RV ρ v v'
 zero:RV ρ c.zero c'.zero
def D1:Op->Bool
 | .send _ _| .recv _ _ _=>true
 |_=>false
inductive RX (ρ:Ren):Next->Next->Prop
 |value {v v':Wx} (h:RV ρ v v'):RX ρ (.value v) (.value v')
 |skip:RX ρ .skip .skip
 |enter (f:FuncId) (hf:ρ.F f=true) {a a':Array Wx} (h:RVs ρ a a'):RX ρ (.enter f a) (.enter f a')
 |round {l l':Nat} (hl:ρ l l') (f:FuncId) {t t':Array Wx} (ht:RVs ρ t t') (a b:Code) (ha:aG ρ.prog ρ.F a=true) (hb:aG ρ.prog ρ.F b=true):RX ρ (.round l f t a b) (.round l' f t' a b)
 |defer (hS:(ρ.F fK||ρ.F lp)=true) {d d':Deferred} (h:RD ρ d d'):RX ρ (.defer d) (.defer d')
 |spawn (hC:ρ.F lp=true) {d d':Deferred} (h:RD ρ d d'):RX ρ (.spawn d) (.spawn d')
inductive RX1 (ρ:Ren):Next->Next->Prop
 |of {a b:Next} (h:RX ρ a b):RX1 ρ a b
 |mk (f:FuncId) (hM:Mk ρ.F f=true) {a a':Array Wx} (h:RVs ρ a a') (hs:a.size=2):RX1 ρ (.enter f a) (.enter f a')
def fD (P:Wv) [Two P](F:FuncId->Bool):Prop:=∀f fn,F f=true->P.funcs[f]?=some fn->fn.body=none->∀ρ a a',ρ.F=F->GId P ρ->RVs ρ a a'->RS P RX ρ (callFunc f a) (callFunc f a')
theorem tN (hE : fD P ρ.F) (hI : GId P ρ) (f : FuncId) (hF : ρ.F f = true) (hn : ∀ fn, P.funcs[f]? = some fn → fn.name ≠ "runtime.NumGoroutine") {a a' : Array Wx} (h : RVs ρ a a') : RS P RX ρ (callFunc f a) (callFunc f a') := by
 cases hf:P.funcs[f]? with
 |none=>
  unfold callFunc;refine aY ?_ (by simp only [hI.alt f hF]);rw [hf];exact ae _
 |some fn=>
  cases hb:fn.body with
  |none=>exact hE f fn hF hf hb ρ a a' rfl hI h
  |some b=>
   unfold callFunc;refine aY ?_ (by simp only [hI.alt f hF]);have h1:=hn fn hf;simp only [hf,hb]
   have e : (fn.name == "runtime.NumGoroutine") = false := beq_eq_false_iff_ne.2 h1
   simp only [e];exact aa (.enter f hF h)
theorem zk (hI : GId P ρ) (f : FuncId) (hM : Mk ρ.F f = true) (hn : ∀ fn, P.funcs[f]? = some fn → fn.name ≠ "runtime.NumGoroutine") {a a' : Array Wx} (h : RVs ρ a a') (hs : a.size = 2) : RS P RX1 ρ (callFunc f a) (callFunc f a') := by
 obtain ⟨x,y,h1,h2,h3,h4,h5⟩:=hI.apart f hM
 have h6 : (y.name == "runtime.NumGoroutine") = false := beq_eq_false_iff_ne.2 (hn y h2)
 have h7 : (x.name == "runtime.NumGoroutine") = false := by rw [h5]; exact h6
 have h8:x.body.isNone=false:=by cases hx:x.body<;>simp [hx] at h3 ⊢
 have h9:y.body.isNone=false:=by cases hx:y.body<;>simp [hx] at h4 ⊢
 unfold callFunc;refine aY ?_ (by simp only [h1,h2,h6,h7,h8,h9,Bool.false_eq_true,if_false]);simp only [h2,h6,h9];exact aa (.mk f hM h hs)
theorem Cl {l l':Nat}(h:ρ l l'){a a':Array Wx}(ha:RVs ρ a a'):RS P RX ρ (Instr.yield l a) (Instr.yield l' a'):=by
 unfold Instr.yield;refine ah (eM h) (fun ρ1 l1 r r' hr=>?_);obtain ⟨hr,-,-⟩:=hr;rw [<-ha.size,<-hr.params,<-hr.fn,<-hr.assign,<-hr.body];refine aC (fun _=>aV (ae _)) (fun _=>aa (.round (l1 _ _ h) _ ?_ _ _ hr.okA hr.okBo));have ha1:=ha.mono l1;have:=RVs.zipSet r.params.toList a.toList a'.toList (by simpa using ha1.size) (fun j v v' h1 h2=>ha1.at_ j v v' (by simpa using h1) (by simpa using h2)) hr.tmps;rw [<-Array.toList_zip,<-Array.toList_zip,Array.foldl_toList,Array.foldl_toList] at this;exact this
end
theorem F5 {a b:ByteArray}(h:(a==b)=true):a=b:=by
 obtain ⟨x⟩:=a;obtain ⟨y⟩:=b;have h2:(x==y)=true:=h;rw [eq_of_beq h2]
theorem Ey (a:ByteArray):(a==a)=true:=by
 obtain ⟨x⟩:=a;exact (beq_self_eq_true x:(x==x)=true)
theorem vq {P:Wv}{t:Ww}(h:wJ P t=true):∃k e,P.underlying t=some (.map k e)/\P.underlying k=some .string:=by
 unfold wJ at h;split at h
 .rename_i k e h1;split at h
  .rename_i h2;exact ⟨k,e,h1,h2⟩
  .cases h
 .cases h
section
variable {P:Wv} [Two P]
theorem zl:∀ (n:Nat)(t u:Ww),P.alt.alikeButTags n t u=P.alikeButTags n t u:=by
 intro n;induction n with
 |zero=>intro t u;rfl
 |succ n ih=>
  intro t u;unfold Program.alikeButTags;simp only [ih];rfl
theorem gH (t:Ww):P.alt.underlyingId t=P.underlyingId t:=rfl
theorem pH (t:Ww):P.alt.stoodInAs t=P.stoodInAs t:=by
 unfold Program.stoodInAs;simp only [zl,gY,cC,gH];rfl
theorem eX (t:Ww):P.alt.stoodInHeld t=P.stoodInHeld t:=by
 unfold Program.stoodInHeld;simp only [pH];rfl
theorem nZ:∀ (n:Nat)(t u:Ww),sameLayout P.alt n t u=sameLayout P n t u:=by
 intro n;induction n with
 |zero=>intro t u;rfl
 |succ n ih=>
  intro t u;unfold sameLayout;simp only [ih,eX,gH,cC]
theorem zm (f:Ww->Bool):∀ (d:Nat)(e:Ww)(c o n:Nat),rowAt P.alt f d e c o n=rowAt P f d e c o n:=by
 intro d;induction d with
 |zero=>intro e c o n;rfl
 |succ d ih=>
  intro e c o n;unfold rowAt;simp only [ih,eX,cC,dE];rfl
theorem wY:∀ (d:Nat)(e:Ww)(c o:Nat)(u:Ww)(n:Nat),liesAt P.alt d e c o u n=liesAt P d e c o u n:=by
 intro d;induction d with
 |zero=>intro e c o u n;rfl
 |succ d ih=>
  intro e c o u n;unfold liesAt;simp only [ih,zm,nZ,gY,cC]
theorem tP {α σ:Type}{ρ:Ren}(l:List α)(s:σ)(f f':α->σ->Sem (ForInStep σ))(hf:∀ρ',ρ.le ρ'->∀a∈l,∀s,RS P QE ρ' (f a s) (f' a s)):RS P QE ρ (forIn l s f) (forIn l s f'):=
 fo l l s (fun _ a a'=>a=a'/\a∈l) (fun _ _ _ _ _ h=>h) f f' rfl (fun j a a' h1 h2=>by rw [h1] at h2;exact ⟨oJ h2,List.mem_of_getElem? h1⟩) (fun ρ' l a a' s h=>by obtain ⟨rfl,hm⟩:=h;exact hf ρ' l a hm s)
theorem zo (d:Nat):∀ (n:Nat){ρ:Ren},GId P ρ->∀ (t:Ww){x x' y a:Wx},RV ρ x x'->RV ρ y a->tC P n t=true->RS P QE ρ (Op.equalIn d t x y) (Op.equalIn d t x' a):=by
 induction d with
 |zero=>intro n ρ _ t x x' y a _ _ _;exact aj _
 |succ d ih=>
  intro n ρ h t x x' y a hx hy hD;cases n with
  |zero=>simp [tC] at hD
  |succ n=>
   unfold tC at hD;by_cases hp:gG (P.underlying t)=true
   .exact iH (d+1) h t hx hy (.inl hp)
   unfold Op.equalIn;refine ah (aT t) (fun m l1 o ty' hd=>?_);obtain ⟨rfl,hd⟩:=hd;rw [hd] at hD hp;have hI1:=h.mono l1;have hx1:=hx.mono l1;have hy1:=hy.mono l1;clear hx hy h;cases o with
   |struct fs=>
    simp only at hD;cases hx1 with
    |agg hc q=>
     cases hy1 with
     |agg kc v=>
      have c:RVs m _ _:=⟨hc,q⟩;have e:RVs m _ _:=⟨kc,v⟩;refine aY ?_ (by simp only [eX]);refine aC (fun _=>aV (aj _)) (fun _=>?_);dsimp only;simp only [<-Array.forIn_toList];refine ag (tP fs.toList _ _ _ (fun ρ' l f hf s=>?_)) (fun ρ2 l2 s=>?_)
      .have j:tC P n f.type=true:=by
        obtain ⟨i,p,rfl⟩:=List.mem_iff_getElem.1 hf;have:=Array.all_eq_true.1 hD i (by simpa using p);simpa using this
       refine aC (fun _=>?_) (fun _=>aa rfl);refine ah (gW f.type (c.mono l) _) (fun ρ3 l3 u u' r=>?_);refine ah (gW f.type ((e.mono l).mono l3) _) (fun ρ4 l4 w w' hw=>?_);refine ag (ih n (((hI1.mono l).mono l3).mono l4) f.type (r.mono l4) hw j) (fun ρ5 l5 b=>?_);exact aC (fun _=>aa rfl) (fun _=>aa rfl)
      .obtain ⟨s,-⟩:=s;cases s<;>exact aa rfl
     |_=>exact ae _
    |_=>exact ae _
   |bool=>simp [gG] at hp
   |string=>simp [gG] at hp
   |int k=>simp [gG] at hp
   |_=>simp at hD
theorem tQ (d:Nat){ρ:Ren}(t:Ww)(ht:P.underlying t=some .string){x x' y c:Wx}(hx:RV ρ x x')(hy:RV ρ y c):RS P (fun _ a b=>a=b/\(a=true->∃s,x=.string s/\y=.string s)) ρ (Op.equalIn d t x y) (Op.equalIn d t x' c):=by
 cases d with
 |zero=>exact aj _
 |succ d=>
  unfold Op.equalIn;refine ah (aT t) (fun ρ1 l1 ty ty' hd=>?_);obtain ⟨rfl,hd⟩:=hd;rw [ht] at hd;cases hd;cases hx with
  |string s=>
   cases hy with
   |string s'=>exact aa ⟨rfl,fun h=>⟨s,rfl,by rw [F5 h]⟩⟩
   |_=>exact ae _
  |_=>exact ae _
def QF (k:Wx)(l:List MapEntry)(i0:Nat):Ren->Option (Nat×Wx)->Option (Nat×Wx)->Prop:=fun ρ a b=>
 (a=none/\b=none)\/∃i v v' s,a=some (i,v)/\b=some (i,v')/\RV ρ v v'/\k=.string s/\i0<=i/\∃e,l[i-i0]?=some e/\e.key=.string s
theorem QF.tail {k:Wx}{e:MapEntry}{l:List MapEntry}{i0:Nat}{ρ:Ren}{a b:Option (Nat×Wx)}(h:QF k l (i0+1) ρ a b):QF k (e::l) i0 ρ a b:=by
 rcases h with h|⟨i,v,v',s,h1,h2,h3,h4,h5,x,h6,h7⟩
 .exact .inl h
 .refine .inr ⟨i,v,v',s,h1,h2,h3,h4,by omega,x,?_,h7⟩;rw [show i-i0=(i-(i0+1))+1 by omega];exact h6
theorem pI (t:Ww)(ht:P.underlying t=some .string){k k':Wx}:∀ {l l':List MapEntry}{ρ:Ren}(i:Nat),RV ρ k k'->RMs ρ l l'->RS P (QF k l i) ρ (Instr.findAsking t k l i) (Instr.findAsking t k' l' i):=by
 intro l;induction l with
 |nil=>intro l' ρ i _ h;cases h;exact aa (.inl ⟨rfl,rfl⟩)
 |cons e l ih=>
  intro l' ρ i hk h;cases h with
  | @cons b q q' v v' _ l' hq hv hl=>
   unfold Instr.findAsking;refine ah (tQ _ t ht hk hq) (fun ρ1 l1 a a' ha=>?_);obtain ⟨rfl,ha⟩:=ha;cases a with
   |true=>
    obtain ⟨s,h1,h2⟩:=ha rfl;exact aa (.inr ⟨i,v,v',s,rfl,rfl,hv.mono l1,h1,lR _,⟨q,v,b⟩,by simp,h2⟩)
   |false=>exact (ih (i+1) (hk.mono l1) (hl.mono l1)).imp (fun _ _ _ h=>h.tail)
theorem tR {ρ:Ren}{k k' q q':Wx}(hk:RV ρ k k')(hq:RV ρ q q'):Instr.sameNow .string k q=Instr.sameNow .string k' q':=by
 cases hk with
 |string s=>cases hq with
  |string s'=>rfl
  |dead _ h=>cases q'<;>first|rfl|simp [gQ] at h
  |_=>rfl
 |dead _ h=>cases k'<;>first|rfl|simp [gQ] at h
 |_=>rfl
theorem tT {k k':Wx}:∀ {l l':List MapEntry}{ρ:Ren}(i:Nat),RV ρ k k'->RMs ρ l l'->(Instr.findNow .string k l i=none/\Instr.findNow .string k' l' i=none)\/∃a b,Instr.findNow .string k l i=some a/\Instr.findNow .string k' l' i=some b/\QF k l i ρ a b:=by
 intro l;induction l with
 |nil=>intro l' ρ i _ h;cases h;exact .inr ⟨none,none,rfl,rfl,.inl ⟨rfl,rfl⟩⟩
 |cons e l ih=>
  intro l' ρ i hk h;cases h with
  | @cons b q q' v v' _ l' hq hv hl=>
   have hs:=tR hk hq;unfold Instr.findNow;simp only [<-hs];cases hx:Instr.sameNow .string k q with
   |none=>exact .inl ⟨rfl,rfl⟩
   |some c=>
    cases c with
    |true=>
     refine .inr ⟨_,_,rfl,rfl,.inr ?_⟩;have:∃s,k=.string s/\q=.string s:=by
      cases k<;>cases q<;>simp [Instr.sameNow] at hx
      .exact ⟨_,rfl,by rw [F5 hx]⟩
     obtain ⟨s,h1,h2⟩:=this;exact ⟨i,v,v',s,rfl,rfl,hv,h1,lR _,⟨q,v,b⟩,by simp,h2⟩
    |false=>
     rcases ih (i+1) hk hl with h|⟨a,b,h1,h2,h3⟩
     .exact .inl h
     .exact .inr ⟨a,b,h1,h2,h3.tail⟩
theorem oj {ρ:Ren}(t:Ww)(ht:P.underlying t=some .string){k k':Wx}(hk:RV ρ k k'){l l':List MapEntry}(h:RMs ρ l l'):RS P (QF k l 0) ρ (Instr.findKey t k l) (Instr.findKey t k' l'):=by
 unfold Instr.findKey;refine ah (aT t) (fun ρ1 l1 ty ty' hd=>?_);obtain ⟨rfl,hd⟩:=hd;rw [ht] at hd;cases hd;rcases tT 0 (hk.mono l1) (h.mono l1) with ⟨h1,h2⟩|⟨a,b,h1,h2,h3⟩
 .rw [h1,h2];exact pI t ht 0 (hk.mono l1) (h.mono l1)
 .rw [h1,h2];exact aa h3
theorem nd {ρ:Ren}(e e':Bool)(n:Nat)(t:Ww)(ht:P.underlying t=some .string)(k k':Wx):RS P QU ρ (Instr.checkKey e (n+1) t k) (Instr.checkKey e' (n+1) t k'):=by
 unfold Instr.checkKey;refine ah (aT t) (fun ρ1 l1 ty ty' hd=>?_);obtain ⟨rfl,hd⟩:=hd;rw [ht] at hd;cases hd;exact aa trivial
variable {ρ:Ren}
theorem zp (A:bM P)(t:Ww)(ht:wJ P t=true){x x' i i':Wx}(hx:RV ρ x x')(r:RV ρ i i')(ok:Bool):RS P QV ρ (Instr.lookup t x i ok) (Instr.lookup t x' i' ok):=by
 obtain ⟨k,e,h1,h2⟩:=vq ht;unfold Instr.lookup;refine ah (aT t) (fun u l1 ty ty' hd=>?_);obtain ⟨rfl,hd⟩:=hd;rw [h1] at hd;cases hd;have hx1:=hx.mono l1;have hi1:=r.mono l1;have fin:∀ (l:Ren),u.le l->∀ (es es':Array MapEntry),RMs l es.toList es'.toList->RS P QV l (do
   Instr.checkKey es.isEmpty 10000 k i
   let (v,o) <-match <-Instr.findKey k i es.toList with
    |some (_,v)=>pure (v,true)
    |none=>pure (<-zeroValue e,false)
   pure (if ok then .tuple #[v,.bool o] else v)) (do
   Instr.checkKey es'.isEmpty 10000 k i'
   let (v,o) <-match <-Instr.findKey k i' es'.toList with
    |some (_,v)=>pure (v,true)
    |none=>pure (<-zeroValue e,false)
   pure (if ok then .tuple #[v,.bool o] else v)):=by
  intro l l2 es es' n;refine ah (nd _ _ 9999 k h2 _ _) (fun p l3 _ _ _=>?_);refine ah (oj k h2 ((hi1.mono l2).mono l3) (n.mono l3)) (fun ρ4 l4 a b m=>?_);have d:∀ (f:Ren) (v v':Wx) (o:Bool),RV f v v'->RS P QV f (pure (if ok then .tuple #[v,.bool o] else v):Sem Wx) (pure (if ok then .tuple #[v',.bool o] else v')):=by
   intro f v v' o hv;cases ok with
   |false=>exact aa hv
   |true=>
    have:=(RVs.nil.push hv).push (.bool o);exact aa (.tuple this.size this.at_)
  rcases m with ⟨rfl,rfl⟩|⟨j,v,v',s,rfl,rfl,hv,-⟩
  .refine ah (bz A e) (fun ρ6 l6 z z' hz=>?_);refine ah (Q:=fun ρ (x y:Wx×Bool)=>RV ρ x.1 y.1/\x.2=y.2) (aa ⟨hz,rfl⟩) (fun f l5 a b h=>?_);obtain ⟨a1,a2⟩:=a;obtain ⟨b1,q⟩:=b;obtain ⟨h3,h4⟩:=h;simp only at h3 h4;subst h4;exact d f a1 b1 a2 h3
  .refine ah (Q:=fun ρ (x y:Wx×Bool)=>RV ρ x.1 y.1/\x.2=y.2) (aa ⟨hv,rfl⟩) (fun f l5 a b h=>?_);obtain ⟨a1,a2⟩:=a;obtain ⟨b1,q⟩:=b;obtain ⟨h3,h4⟩:=h;simp only at h3 h4;subst h4;exact d f a1 b1 a2 h3
 cases hx1 with
 |map hr=>
  cases hr with
  |none=>exact ah (Q:=fun ρ (x y:Array MapEntry)=>RMs ρ x.toList y.toList) (aa .nil) (fun l l2 a b h=>fin l l2 a b h)
  |some hr=>
   refine ah (dx hr) (fun l l2 o o' ho=>?_);obtain ⟨ho,-,-⟩:=ho;cases ho with
   |map c hm=>exact ah (Q:=fun ρ (x y:Array MapEntry)=>RMs ρ x.toList y.toList) (aa hm) (fun p l3 a b h=>fin p (Ren.le_trans l2 l3) a b h)
   |_=>exact .lost (cZ.bind (.halt rfl) _) _
 |_=>exact .lost (cZ.bind (.halt rfl) _) _
theorem RMs.push {l l':List MapEntry}(h:RMs ρ l l')(b:Nat){k k' v v':Wx}(hk:RV ρ k k')(hv:RV ρ v v'):RMs ρ (l++[⟨k,v,b⟩]) (l'++[⟨k',v',b⟩]):=by
 induction h with
 |nil=>exact .cons b hk hv .nil
 |cons c hq h _ ih=>exact .cons c hq h ih
theorem RMs.modify {l l':List MapEntry}(h:RMs ρ l l'){k k' v v':Wx}(hk:RV ρ k k')(hv:RV ρ v v'):∀i,RMs ρ (l.modify i (fun e=>{e with key:=k,val:=v})) (l'.modify i (fun e=>{e with key:=k',val:=v'})):=by
 induction h with
 |nil=>intro i;cases i<;>exact .nil
 |cons c hq h hl ih=>
  intro i;cases i with
  |zero=>exact .cons c hk hv hl
  |succ i=>exact .cons c hq h (ih i)
theorem RMs.at_ {l l':List MapEntry}(h:RMs ρ l l'):∀ (i:Nat) e,l[i]?=some e->∃e',l'[i]?=some e'/\RV ρ e.key e'.key:=by
 induction h with
 |nil=>intro i e h;simp at h
 |cons c hq h hl ih=>
  intro i e he;cases i with
  |zero=>simp at he;subst he;exact ⟨_,rfl,hq⟩
  |succ i=>exact ih i e he
theorem qX (t:Ww)(ht:wJ P t=true){m m' k k' v v':Wx}(hm:RV ρ m m')(hk:RV ρ k k')(hv:RV ρ v v'):RS P QU ρ (Instr.mapUpdate t m k v) (Instr.mapUpdate t m' k' v'):=by
 obtain ⟨y,e,h1,h2⟩:=vq ht;unfold Instr.mapUpdate;refine ah (aT t) (fun ρ1 l1 ty ty' hd=>?_);obtain ⟨rfl,hd⟩:=hd;rw [h1] at hd;cases hd;have hm1:=hm.mono l1;cases hm1 with
 |map hr=>
  cases hr with
  |none=>exact mC _
  | @some r r' hr=>
   refine ah (dx hr) (fun A l2 o o' ho=>?_);obtain ⟨ho,k1,k2⟩:=ho;cases ho with
   | @map es es' c hm=>
    have B:¬A.old r:=fun k=>by cases k1 k
    have n2:A.ch r->False:=fun k=>by have:=k2 k;simp [Obj.isChan] at this
    refine ah (nd _ _ 9999 y h2 _ _) (fun ρ3 l3 _ _ _=>?_);have hk3:=((hk.mono l1).mono l2).mono l3;refine ah (oj y h2 hk3 (hm.mono l3)) (fun q l4 a b u=>?_);have hk4:=hk3.mono l4;have hv4:=(((hv.mono l1).mono l2).mono l3).mono l4;have hm4:=(hm.mono l3).mono l4;have n:q r r':=l4 _ _ (l3 _ _ (l2 _ _ hr));have n3:¬q.old r:=by rw [l4.old,l3.old];exact B
    have n4:q.ch r->False:=by rw [l4.ch,l3.ch];exact n2
    rcases u with ⟨rfl,rfl⟩|⟨i,x,x',s,rfl,rfl,-,rfl,-,en,f,d⟩
    .refine .setObj n (.map (c+1) ?_) n3 (fun h=>(n4 h).elim) (.pure trivial);simp only [Array.toList_push];exact hm4.push c hk4 hv4
    .cases hk4;rw [Nat.sub_zero] at f;obtain ⟨l,p,hke⟩:=hm4.at_ i en f;rw [d] at hke;have j:l.key=.string s:=by
      generalize l.key=z at hke;cases hke;rfl
     have e1:((es[i]?).map (·.key)).getD (.string s)=.string s:=by
      rw [<-gT,f];exact d
     have e2:((es'[i]?).map (·.key)).getD (.string s)=.string s:=by
      rw [<-gT,p];exact j
     dsimp only;rw [e1,e2];have e3:Instr.keyThatStays (.string s) (.string s)=pure (.string s):=by
      unfold Instr.keyThatStays;have:Instr.sameBits 10000 (.string s) (.string s)=true:=by simp only [Instr.sameBits];exact Ey s
      rw [this];rfl
     rw [e3];refine ah (aa (Q:=QV) (.string s)) (fun ρ5 l5 z z' hz=>?_);refine .setObj (l5 _ _ n) (.map c ?_) (by rw [l5.old];exact n3) (by rw [l5.ch];exact fun h=>(n4 h).elim) (.pure trivial);simp only [Array.toList_modify];exact (hm4.mono l5).modify hz (hv4.mono l5) i
   |_=>exact ae _
 |_=>exact ae _
theorem wZ (t:Ww):RS P QV ρ (Instr.makeMap t none) (Instr.makeMap t none):=by
 unfold Instr.makeMap;exact .new (.map 0 .nil) (fun r r' _ _ _=>.pure (.map (.some (.inr ⟨rfl,rfl⟩))))
theorem qY:∀ (n:Nat){ρ:Ren}{a a':Wu}(c:ByteArray),RA ρ a a'->RS P QE ρ (loadBytes a c n) (loadBytes a' c n):=by
 intro n;induction n with
 |zero=>intro ρ a a' c _;exact aa rfl
 |succ n ih=>
  intro ρ a a' c h;unfold loadBytes;refine ah (mV h _) (fun ρ1 l1 v v' hv=>?_);cases hv with
  |int k b=>cases k<;>first|exact ae _|exact ih _ ((h.mono l1).add 1)
  |_=>exact ae _
theorem n7 {a a':Wu}(h:RA ρ a a')(u:Ww)(n:Nat):RS P QE ρ (variablesAt a u n) (variablesAt a' u n):=by
 unfold variablesAt;refine aY ?_ (by simp only [wY,gY,dE]);refine ag (eE h.1) (fun ρ1 l1 s=>?_);rw [<-h.2.1];rcases s with - |⟨e,z⟩<;>exact aa rfl
theorem nf (hno:∀a,¬ρ.old a)(at_:Array Ww)(t:Ww){a a':Array Wx}(h:RVs ρ a a'):RS P QV ρ (Builtin.unsafeString_ at_ t a) (Builtin.unsafeString_ at_ t a'):=by
 obtain ⟨l⟩:=a;obtain ⟨l'⟩:=a';have hl:l.length=l'.length:=by simpa using h.size
 unfold Builtin.unsafeString_;rcases l with - |⟨x,- |⟨y,- |⟨z,l⟩⟩⟩<;>rcases l' with - |⟨x',- |⟨e,- |⟨z',l'⟩⟩⟩<;>(try (simp at hl;done))
 .exact ae _
 .exact ae _
 .have hx:=h.at_ 0 x x' rfl rfl;have hy:=h.at_ 1 y e rfl rfl;cases hx with
  |pointer hp=>
   refine ag (fm hy) (fun ρ1 l1 n=>?_);cases at_[0]? with
   |none=>exact ae _
   |some d=>
    refine aC (fun _=>aV (bu _)) (fun _=>?_);refine aC (fun _=>aV (aj _)) (fun _=>?_);have hp1:=hp.mono l1;cases hp1 with
    |none=>exact aC (fun _=>aa (.string _)) (fun _=>bu _)
    | @some b b' hb=>
     refine aC (fun _=>aa (.string _)) (fun _=>?_);refine ag (qW d) (fun ρ2 l2 f=>?_);refine ag (n7 (hb.mono l2) f n.toNat) (fun ρ3 l3 c=>?_);refine aC (fun _=>?_) (fun _=>aj _);refine ag (qY n.toNat _ ((hb.mono l2).mono l3)) (fun ρ4 l4 s=>?_);refine .freeze _ (((hb.mono l2).mono l3).mono l4) (by rw [l4.old,l3.old,l2.old,l1.old];exact hno _) (.pure (.string _))
  |_=>exact ae _
 .exact ae _
theorem Ez {x x' y a:Wx}(hx:RV ρ x x')(hy:RV ρ y a):RS P QV ρ (Builtin.min2 x y) (Builtin.min2 x' a):=by
 cases hx with
 |int k n=>
  cases hy with
  |int k' n'=>exact aa (.int _ _)
  |pointer h=>cases h<;>first|exact ae _|exact aj _
  |_=>exact ae _
 |string s=>
  cases hy with
  |string s'=>
   unfold Builtin.min2;refine ah (mY _ _ _) (fun ρ1 l1 v v' hv=>?_);exact ag (qR hv) (fun ρ2 l2 b=>aa (.string _))
  |pointer h=>cases h<;>first|exact ae _|exact aj _
  |_=>exact ae _
 |pointer h=>
  cases h with
  |none=>
   cases hy with
   |pointer k=>cases k<;>first|exact ae _|exact aj _
   |_=>exact ae _
  |some h=>exact aj _
 |_=>
  cases hy with
  |pointer k=>cases k<;>first|exact ae _|exact aj _
  |_=>exact ae _
theorem xd:∀ (l l':List Wx){ρ:Ren}{x x':Wx},RV ρ x x'->l.length=l'.length->(∀ (j:Nat) v v',l[j]?=some v->l'[j]?=some v'->RV ρ v v')->RS P QV ρ (l.foldlM Builtin.min2 x) (l'.foldlM Builtin.min2 x'):=by
 intro l;induction l with
 |nil=>intro l' ρ x x' hx hl _;cases l' with
  |nil=>exact aa hx
  |cons _ _=>simp at hl
 |cons y l ih=>
  intro l' ρ x x' hx hl b;cases l' with
  |nil=>simp at hl
  |cons c l'=>
   simp only [List.foldlM_cons];exact ah (Ez hx (b 0 y c rfl rfl)) (fun ρ1 l1 v v' hv=>ih l' hv (by simpa using hl) (fun j a a' h1 h2=>(b (j+1) a a' h1 h2).mono l1))
theorem F6 (at_:Array Ww)(t:Ww){a a':Array Wx}(h:RVs ρ a a'):RS P QV ρ (Builtin.min_ at_ t a) (Builtin.min_ at_ t a'):=by
 obtain ⟨l⟩:=a;obtain ⟨l'⟩:=a';have hl:l.length=l'.length:=by simpa using h.size
 unfold Builtin.min_;cases l with
 |nil=>cases l' with
  |nil=>exact ae _
  |cons _ _=>simp at hl
 |cons x l=>cases l' with
  |nil=>simp at hl
  |cons x' l'=>exact xd l l' (h.at_ 0 x x' rfl rfl) (by simpa using hl) (fun j v v' h1 h2=>h.at_ (j+1) v v' (by simpa using h1) (by simpa using h2))
theorem Cm {x x':Wx}(hx:RV ρ x x'):RS P QV ρ (Instr.panic x) (Instr.panic x'):=by
 unfold Instr.panic;cases hx with
 |iface t h=>exact kj (.iface t h)
 |nilIface=>
  unfold Instr.panicnil;refine ag (ag (.env (fun r=>.pure rfl)) (fun a l1 r=>?_)) (fun a l1 n=>?_)
  .cases r with
   |strings env=>exact aY (aa rfl)
   |_=>exact ae _
  .refine aC (fun _=>kj .nilIface) (fun _=>?_);unfold runtimePanic;refine aY ?_;refine ag (qW _) (fun ρ2 l2 t=>?_);refine ah (mW t (.agg rfl (fun i v v' h=>by simp at h))) (fun ρ3 l3 r r' hr=>?_);exact kj (.iface _ (.pointer (.some hr)))
 |_=>exact ae _
end
