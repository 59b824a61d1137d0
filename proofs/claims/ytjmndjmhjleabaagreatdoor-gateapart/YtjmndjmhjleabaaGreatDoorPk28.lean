/- Small texts, one behind the other: TdB, TdC, TdD. -/
import Derived.Test.YtjmndjmhjleabaaGreatDoorAl
import Derived.Test.YtjmndjmhjleabaaGreatDoorAm
import Derived.Test.YtjmndjmhjleabaaGreatDoorPk25
import Derived.Deep.RegionLaw
import Derived.Deep.AppendLies
set_option maxHeartbeats 4000000
set_option maxRecDepth 100000
open Go.Proofs.Tryz
namespace Go.Proofs.YtjmndjmhjleabaaGreatDoor
open Go.RowKit
theorem Mh:(prog.info? 72).map (fun i=>(i.zero,i.size,i.bytes))=some (some (.agg #[.int .i64 0,.string ⟨#[]⟩,.string ⟨#[]⟩,.int .i64 0,.slice none 0 0,.int .i64 0,.slice none 0 0,.string ⟨#[]⟩,.string ⟨#[]⟩,.string ⟨#[]⟩,.slice none 0 0,.int .i64 0]),12,184):=by kernel_rfl
theorem Xi {w3:World}{S:Nat->Prop}{g:Nat}{x y:Value}{gW:ak}{cap' n:Nat}{es:List iN}(hr:w3.heap[g]? = some (.cells #[x,y] 268 (0,0)))(hS:S g)(ha:pG w3 (fun k=>S k∧k≠g) 72 gW cap' es)(hn:n=es.length):
 jT ((w3.setCell ⟨g,0,none⟩ (.slice gW n cap')).setCell ⟨g,1,none⟩ (.slice none 0 0)) S g gW cap' none 0 ⟨es,[]⟩∧Turns (fun k=>k=g) w3 ((w3.setCell ⟨g,0,none⟩ (.slice gW n cap')).setCell ⟨g,1,none⟩ (.slice none 0 0)):=by
 subst hn;have hT:Turns (fun k=>k=g) w3 ((w3.setCell ⟨g,0,none⟩ (.slice gW es.length cap')).setCell ⟨g,1,none⟩ (.slice none 0 0)):=(Turns.setCell (fun k=>k=g) w3 ⟨g,0,none⟩ _ rfl).trans (Turns.setCell (fun k=>k=g) _ ⟨g,1,none⟩ _ rfl) (fun _ e _=>e);refine⟨⟨?_,?_,iF.nil _ _ _,fun a e=>(by cases e),hS⟩,hT⟩
 . have h1:(w3.setCell ⟨g,0,none⟩ (.slice gW es.length cap')).heap[g]? = some (.cells #[.slice gW es.length cap',y] 268 (0,0)):=by rw[fO w3 g 0 _ _ _ hr];rfl
   rw[fO _ g 1 _ _ _ h1];rfl
 . exact(ha.turns hT (fun k e=>e.2)).mono (fun k _ e=>⟨e,by simp[gL]⟩)
theorem OV (w:World)(S:Nat->Prop)(g:Nat)(ao:ak)(cap:Nat)(bo:ak)(bc:Nat)(es:List iN)(h:jT w S g ao cap bo bc ⟨es,[]⟩):
 Calls prog 235 #[.pointer (some ⟨g,0,none⟩)] w fun e w'=>e=.returned (.slice ao es.length cap)∧w'=w:=by
 have c0:w.cell? ⟨g,0,none⟩=some (.slice ao es.length cap):=h.c0;have c1:w.cell? ⟨g,1,none⟩=some (.slice bo 0 bc):=h.c1;clear h;generalize es.length=n at *;go_enter func235,ntmps235;go_wp2;go_ret;exact⟨rfl,rfl⟩
theorem OW (w:World)(S:Nat->Prop)(g:Nat)(ao:ak)(cap:Nat)(bo:ak)(bc n nb:Nat)(t:Fm.Td)(h:jT w S g ao cap bo bc t)(hb:t.bs≠[])(hn:t.es.length=n)(hl:n<=100000)(hnb:t.bs.length=nb):
 Calls prog 235 #[.pointer (some ⟨g,0,none⟩)] w fun e w'=>∃gW cap',e=.returned (.slice gW (n+1) cap')∧jT w' (gN S w) g gW cap' none 0 ⟨t.es++[jY t.bs],[]⟩∧Turns S w w':=by
 have c0:w.cell? ⟨g,0,none⟩=some (.slice ao n cap):=hn▸h.c0;have c1:w.cell? ⟨g,1,none⟩=some (.slice bo nb bc):=hnb▸h.c1;have hnp:0<nb:=by rw[<-hnb];exact fE.2 hb
 have t0:decide ((nb:Int) > 0)=true:=aI (by omega);obtain⟨ps,hO,hp⟩:=h.all.push (.cells #[.int .i64 2,.string ⟨#[]⟩,.string ⟨#[]⟩,.int .i64 0,.slice none 0 0,.int .i64 0,.slice bo nb bc,.string ⟨#[]⟩,.string ⟨#[]⟩,.string ⟨#[]⟩,.slice none 0 0,.int .i64 0] 72);rw[hn] at hO hp;have hgA:∀k,gL ao=some k->(S k∧k≠g)∧gL bo≠some k:=fun k e=>by
  obtain⟨_,_,_,hm,_⟩:=h.all;cases ao with
  | none=>cases e
  | some a=>injection e with e;subst e;exact hm a rfl
 have HK:Hid (∀W3,(w.alloc (.cells #[.int .i64 2,.string ⟨#[]⟩,.string ⟨#[]⟩,.int .i64 0,.slice none 0 0,.int .i64 0,.slice bo nb bc,.string ⟨#[]⟩,.string ⟨#[]⟩,.string ⟨#[]⟩,.slice none 0 0,.int .i64 0] 72)).drew.grownBy W3 (Value.slice ao n cap).ownBlock->W3.heap[g]? = some (.cells #[.slice ao n cap,.slice bo nb bc] 268 (0,0))):=fun W3 hG=>by
  rw[gP] at hG;have h1:=((fJ _ w).alloc (aM _) (.cells #[.int .i64 2,.string ⟨#[]⟩,.string ⟨#[]⟩,.int .i64 0,.slice none 0 0,.int .i64 0,.slice bo nb bc,.string ⟨#[]⟩,.string ⟨#[]⟩,.string ⟨#[]⟩,.slice none 0 0,.int .i64 0] 72)).block g h.lt;have h2:=hG.block g (by show g<(w.alloc _).heap.size;rw[fZ];have:=h.lt;omega) (fun e=>(hgA g e.symm).1.2 rfl);have h3:=h.row;rw[hn,hnb] at h3;exact h2.trans (h1.trans h3)
 have jq:=(fJ _ w).alloc (aM _) (.cells #[.int .i64 2,.string ⟨#[]⟩,.string ⟨#[]⟩,.int .i64 0,.slice none 0 0,.int .i64 0,.slice bo nb bc,.string ⟨#[]⟩,.string ⟨#[]⟩,.string ⟨#[]⟩,.slice none 0 0,.int .i64 0] 72);have c0a:=(jq.cell (p:=⟨g,0,none⟩) h.lt).trans c0;have c1a:=(jq.cell (p:=⟨g,1,none⟩) h.lt).trans c1;clear jq;have HO:=H9 (gV.stay hO (gQ _ _));have UW:Hid (∀j u,((jY t.bs).cells ⟨none,0,bo,bc,none,0⟩)[j]? = some u->(w.alloc (.cells #[.int .i64 2,.string ⟨#[]⟩,.string ⟨#[]⟩,.int .i64 0,.slice none 0 0,.int .i64 0,.slice bo nb bc,.string ⟨#[]⟩,.string ⟨#[]⟩,.string ⟨#[]⟩,.slice none 0 0,.int .i64 0] 72)).drew.cell? (Addr.add ⟨w.heap.size,0,none⟩ j)=some u):=fun j u hu=>by
  rw[gI,bq];show(w.alloc _).cell? _=_;rw[World.cell?_alloc_at _ _ _ _ rfl,<-hnb,dH];exact hu
 have HIn:Hid (xZ w (fun k=>gL bo=some k) (jY t.bs) ⟨none,0,bo,bc,none,0⟩):=⟨nE.nil _ _,⟨h.own.xg,fun _ a e=>by have e:bo=some a:=e;rw[e];rfl⟩,ko.nil _ _⟩;have HP:=H9 hp;have HH:=H9 h;obtain⟨i0,hi0,hz0,hz1,hz2⟩:=info_parts Mh;have Hi:=H9 hi0;have kK:=H9 hz0;have kH:=H9 hz1;have kL:=H9 hz2
 have HN:Hid (n+1<=maxLen∧(n+1)*184<=140737488355328):=⟨by unfold maxLen;omega,by omega⟩;clear hi0 hz0 hz1 hz2 hO hp hgA h hb hn hnb;go_enter func235,ntmps235;go_wp2;go_region_law
  ((refine step_append_lies _ (by rfl) _ _ _ (by rfl) 0 72 i0 (.agg #[.int .i64 0,.string ⟨#[]⟩,.string ⟨#[]⟩,.int .i64 0,.slice none 0 0,.int .i64 0,.slice none 0 0,.string ⟨#[]⟩,.string ⟨#[]⟩,.string ⟨#[]⟩,.slice none 0 0,.int .i64 0]) 12 184 underlying58 Hi.o kK.o kH.o kL.o (by rfl) (by decide) (.slice ao n cap) n _ (by rfl) HO.o ⟨w.heap.size,0,none⟩ 1 1 ((jY t.bs).cells ⟨none,0,bo,bc,none,0⟩) (by rfl) (by rfl) UW.o (cells_one _ _) (by decide) HN.o.1 HN.o.2 (aA _) (w.heap.size+1) (by simp) ?_;intro g3 gX w3 hown3 hgrow kC hlt3;have h3:=HK.o _ hgrow;have q0:w3.cell? ⟨g,0,none⟩=some (.slice ao n cap):=fK w3 g 0 _ _ _ h3;have q1:w3.cell? ⟨g,1,none⟩=some (.slice bo nb bc):=fK w3 g 1 _ _ _ h3;have f0:w3.frozen? ⟨g,0,none⟩=false:=fM w3 g 0 _ _ h3;have f1:w3.frozen? ⟨g,1,none⟩=false:=fM w3 g 1 _ _ h3;have HR3:=H9 h3;have sG:=H9 hgrow;have oD:=H9 hown3;have Jh:=H9 kC;clear hgrow hown3 kC h3))
 all_goals
  go_wp2;go_ret;have hG:=sG.o;have hat:=Jh.o;rw[gP] at hG hat;obtain⟨r1,r2⟩:=HP.o (some ⟨g3,0,none⟩) gX w3 (jY t.bs) ⟨none,0,bo,bc,none,0⟩ (fun k=>gL bo=some k) _ rfl HIn.o ⟨rfl,rfl⟩ (fun k e=>e.2) oD.o (jW (rA _ _) hG) (by
   rcases hat with e | e
   . exact Or.inl e.symm
   . exact Or.inr (by rw[fZ,e];rfl))
  have hlt:=HH.o.lt;have r3:pG w3 (fun k=>gN S w k∧k≠g) 72 (some ⟨g3,0,none⟩) gX (t.es++[jY t.bs]):=r1.mono (fun k _ e=>by
   rcases e with e | e | e
   . exact⟨Or.inl e.1.1,e.1.2⟩
   . cases bo with
     | none=>cases e
     | some a=>injection e with e;subst e;exact⟨Or.inl (HH.o.mem a rfl).1,(HH.o.mem a rfl).2⟩
   . exact⟨Or.inr e,by omega⟩)
  have r4:=Xi HR3.o (S:=gN S w) (Or.inl HH.o.me) r3 (n:=n+1) (by rw[aW];exact bE (·+1) (by obtain⟨qs,hq,hw,_⟩:=HH.o.all;have h1:=HH.o.row;have h2:=HR3.o;have:=HH.o.c0;have h4:=q0;exact(by
   have hT:=r2.row HH.o.row (fun e=>e.1.2 rfl);rw[HR3.o] at hT;injection hT with hT;injection hT with hT;have:=bE (fun a:Array Value=>a[0]?) hT;simpa using this)))
  exact⟨_,_,rfl,r4.1,(r2.mono (fun k e=>e.1.1)).trans (r4.2.mono (S':=S) (fun k e=>by subst e;exact HH.o.me)) (fun _ e _=>e)⟩
theorem TD {w w3:World}{S:Nat->Prop}{g:Nat}{ao bo oG:ak}{cap bc bc' n:Nat}{t:Fm.Td}{l:av}(h:jT w S g ao cap bo bc t)(hO:iF w3 0 5 oG bc' (t.bs++l))(hG:w.grownBy w3 (gL bo))(hat:gL oG=gL bo∨gL oG=some w.heap.size)(hn:n=(t.bs++l).length):
 jT (w3.setCell ⟨g,1,none⟩ (.slice oG n bc')) (gN S w) g ao cap oG bc' ⟨t.es,t.bs++l⟩∧Turns S w (w3.setCell ⟨g,1,none⟩ (.slice oG n bc')):=by
 subst hn;have hlt:=h.lt;have hT1:Turns (fun k=>gL bo=some k) w w3:=Turns.iZ hG (fun k e=>e);have hbS:∀k,gL bo=some k->S k∧k≠g:=fun k e=>by
  cases bo with
  | none=>cases e
  | some a=>injection e with e;subst e;exact h.mem a rfl
 have hr:=hT1.row h.row (fun e=>(hbS g e).2 rfl);have jV:Turns (fun k=>k=g) w3 (w3.setCell ⟨g,1,none⟩ (.slice oG (t.bs++l).length bc')):=Turns.setCell (fun k=>k=g) w3 ⟨g,1,none⟩ _ rfl;have hbk:∀a,oG=some a->gN S w a.block∧a.block≠g:=fun a e=>by
  rw[e] at hat;rcases hat with e2 | e2
  . have:=hbS a.block e2.symm;exact⟨Or.inl this.1,this.2⟩
  . injection e2 with e2;exact⟨Or.inr (by omega),by omega⟩
 refine⟨⟨?_,?_,hO.turns jV (fun a e=>(hbk a e).2),hbk,Or.inl h.me⟩,(hT1.mono (fun k e=>(hbS k e).1)).trans (jV.mono (S':=S) (fun k e=>by subst e;exact h.me)) (fun _ e _=>e)⟩
 . rw[fO w3 g 1 _ _ _ hr];rfl
 . have h1:=(h.all.mono (S':=fun k=>((S k∧k≠g)∧gL bo≠some k)∧k<w.heap.size) (fun k hk e=>⟨e,hk⟩)).turns hT1 (fun k e=>e.1.2);refine(h1.turns jV (fun k e=>e.1.1.2)).mono (fun k _ e=>⟨⟨Or.inl e.1.1.1,e.1.1.2⟩,fun e2=>?_⟩);rcases hat with e3 | e3
   . exact e.1.2 (e3.symm.trans e2)
   . rw[e2] at e3;injection e3 with e3;have:=e.2;omega
theorem JI (w:World)(S:Nat->Prop)(g:Nat)(t:Fm.Td)(so:ak)(sc m:Nat)(l:av)(h:nu w S g t)(hs:iH w so sc l)(hm:l.length=m)(hl:t.bs.length+m<=1000000):
 Calls prog 293 #[.pointer (some ⟨g,0,none⟩),.slice so m sc] w fun e w'=>e=.returned (.tuple #[])∧nu w' (gN S w) g ⟨t.es,t.bs++l⟩∧Turns S w w':=by
 obtain⟨ao,cap,bo,bc,h⟩:=h;obtain⟨nb,hnb⟩:∃nb,t.bs.length=nb:=⟨_,rfl⟩;have c1:w.cell? ⟨g,1,none⟩=some (.slice bo nb bc):=hnb▸h.c1;have HH:=H9 h;have HS:=H9 hs;have HM:=H9 hm;have WE:=H9 hnb
 have hne:gL bo≠some g:=fun e=>by
  cases bo with
  | none=>cases e
  | some a=>injection e with e;exact(h.mem a rfl).2 e
 have HK:Hid (∀W3,w.grownBy W3 (gL bo)->W3.cell? ⟨g,1,none⟩=some (.slice bo nb bc)∧W3.frozen? ⟨g,1,none⟩=false):=fun W3 hG=>by
  have h1:=hG.block g h.lt (fun e=>hne e.symm);have h2:=h1.trans h.row;exact⟨(hG.cell c1 (fun e=>hne e.symm)),fM W3 g 1 _ _ h2⟩
 rw[hnb] at hl;obtain⟨i0,hi0,hz0,hz1,hz2⟩:=info_parts jO;have Hi:=H9 hi0;have kK:=H9 hz0;have kH:=H9 hz1;have kL:=H9 hz2
 clear hi0 hz0 hz1 hz2 h hs hm hnb hne;go_enter func293,ntmps293;go_wp2_with (at_builtin;refine iJ rfl (.tmp 8) (.tmp 9) 31 rfl 0 5 i0 underlying31 Hi.o kK.o kH.o kL.o (l:=t.bs) (l2:=l) rfl WE.o HH.o.own rfl HM.o HS.o (by omega) (aA _) ?_;intro jQ gX w3 hO3 hG3 kC;have q1:=(HK.o w3 hG3).1;have qf:=(HK.o w3 hG3).2;have oD:=H9 hO3;have sG:=H9 hG3;have Jh:=H9 kC;clear hO3 hG3 kC)
 have hr:=TD HH.o oD.o sG.o Jh.o (n:=nb+m) (by rw[aW,WE.o,HM.o]);go_end0
 exact⟨rfl,⟨_,_,_,_,hr.1⟩,hr.2⟩
def vK (k:Int)(pn pf pt:ay)(c:Int):iN:=⟨k,⟨#[]⟩,⟨#[]⟩,0,[],0,[],pn,pf,pt,[],c⟩
theorem II (w:World)(S:Nat->Prop)(g:Nat)(t:Fm.Td)(h:nu w S g t)(hl:t.es.length<=100000):
 Calls prog 235 #[.pointer (some ⟨g,0,none⟩)] w fun e w'=>∃ao cap bo bc,e=.returned (.slice ao (Fm.flush t).length cap)∧jT w' (gN S w) g ao cap bo bc ⟨Fm.flush t,[]⟩∧Turns S w w':=by
 obtain⟨ao,cap,bo,bc,h⟩:=h;obtain⟨es,bs⟩:=t;by_cases hb:bs=[]
 . subst hb;have e1:Fm.flush ⟨es,[]⟩=es:=by unfold Fm.flush Fm.nT;simp
   rw[e1];refine(OV w S g ao cap bo bc es h).mono ?_;rintro e w' ⟨he,hw⟩;subst hw;exact⟨ao,cap,bo,bc,he,h.mono (fun k _ e=>Or.inl e),Turns.refl _ _⟩
 . have e1:Fm.flush ⟨es,bs⟩=es++[jY bs]:=by unfold Fm.flush Fm.nT;simp[hb]
   rw[e1];refine(OW w S g ao cap bo bc es.length bs.length ⟨es,bs⟩ h hb rfl hl rfl).mono ?_;rintro e w' ⟨gW,cap',he,hR,hT⟩;exact⟨gW,cap',none,0,by rw[he];simp,hR,hT⟩
theorem pG.grow {W:World}{S:Nat->Prop}{tE:Nat}{ao:ak}{cap:Nat}{es:List iN}(h:pG W S tE ao cap es):∃ps:List (iN×EvS),gV W 0 tE 12 ao cap es.length (iX ps) ∧
 ∀gW cap' w' (e:iN) s (N:Nat->Prop) ys,e.cells s=ys->xZ W N e s->s.po=none∧s.jA=0->(∀k,S k->¬N k)->gV w' 0 tE 12 gW cap' (es.length+1) (iX ps++ys)->W.grownBy w' (gL ao)->(gL gW=gL ao∨gL gW=some W.heap.size)->pG w' (fun k=>S k∨N k∨W.heap.size<=k) tE gW cap' (es++[e])∧Turns S W w':=by
 obtain⟨ps,hes,hO,hm,hI,hX⟩:=h;refine⟨ps,hO,fun gW cap' w' e s N ys hy hE hpn hN Ao hG hat=>?_⟩;subst hy;have e1:iX [(e,s)]=e.cells s:=by simp[iX]
 rw[<-e1] at Ao;have:=pG.more (N:=N) hm hI (ps2:=[(e,s)]) (fun p hp=>by rw[bC.1 hp];exact hE) hN Ao (by rw[<-hes,aF];rfl) hG hat hX (fun p hp=>by rw[bC.1 hp];exact hpn);refine⟨?_,Turns.iZ (S:=S) hG (fun k e=>?_)⟩
 . rw[hes] at this;refine this.mono (fun k hk e=>?_);rcases e with e | e | e
   . exact Or.inl e
   . exact Or.inr (Or.inl e)
   . exact Or.inr (Or.inr (by omega))
 . cases ao with
   | none=>cases e
   | some a=>injection e with e;subst e;exact hm a rfl
theorem jT.grow {W:World}{S:Nat->Prop}{g:Nat}{ao bo:ak}{cap bc:Nat}{es:List iN}(h:jT W S g ao cap bo bc ⟨es,[]⟩):∃xs,gV W 0 72 12 ao cap es.length xs ∧
 ∀g3 gX w3 k pn pf pt c, gV w3 0 72 12 (some ⟨g3, 0, none⟩) gX (es.length + 1) (xs ++ (vK k pn pf pt c).cells ⟨none, 0, none, 0, none, 0⟩) -> W.grownBy w3 (gL ao) -> (gL ao = some g3 ∨ g3 = W.heap.size) ->
   w3.heap[g]? = some (.cells #[.slice ao es.length cap,.slice bo 0 bc] 268 (0,0))∧jT (w3.setCell ⟨g,0,none⟩ (.slice (some ⟨g3,0,none⟩) (es.length+1) gX)) (gN S W) g (some ⟨g3,0,none⟩) gX bo bc ⟨es++[vK k pn pf pt c],[]⟩∧Turns S W (w3.setCell ⟨g,0,none⟩ (.slice (some ⟨g3,0,none⟩) (es.length+1) gX)):=by
 obtain⟨ps,hO,hq⟩:=h.all.grow;refine⟨iX ps,hO,fun g3 gX w3 k pn pf pt c hO3 hG hat=>?_⟩;obtain⟨r1,r2⟩:=hq (some ⟨g3,0,none⟩) gX w3 (vK k pn pf pt c) ⟨none,0,none,0,none,0⟩ (fun _=>False) _ rfl ⟨nE.nil _ _,ko.nil _ _,ko.nil _ _⟩ ⟨rfl,rfl⟩ (fun _ _ e=>e) hO3 hG (by
  rcases hat with e | e
  . exact Or.inl e.symm
  . exact Or.inr (by rw[e];rfl))
 have hlt:=h.lt;have hr:=r2.row h.row (fun e=>e.1.2 rfl);have hT:Turns (fun i=>i=g) w3 (w3.setCell ⟨g,0,none⟩ (.slice (some ⟨g3,0,none⟩) (es.length+1) gX)):=Turns.setCell (fun i=>i=g) w3 ⟨g,0,none⟩ _ rfl;refine⟨hr,⟨?_,?_,?_,fun a e=>⟨Or.inl (h.mem a e).1,(h.mem a e).2⟩,Or.inl h.me⟩,(r2.mono (fun i e=>e.1.1)).trans (hT.mono (S':=S) (fun i e=>by subst e;exact h.me)) (fun _ e _=>e)⟩
 . rw[fO w3 g 0 _ _ _ hr];show some (Obj.cells #[.slice (some ⟨g3,0,none⟩) (es.length+1) gX,.slice bo 0 bc] _ _)=some (Obj.cells #[.slice (some ⟨g3,0,none⟩) (es++[vK k pn pf pt c]).length gX,.slice bo 0 bc] _ _);rw[aW];rfl
 . have h1:pG w3 (fun i=>(gN S W i∧i≠g)∧gL bo≠some i) 72 (some ⟨g3,0,none⟩) gX (es++[vK k pn pf pt c]):=r1.mono (fun i _ e=>by
    rcases e with e | e | e
    . exact⟨⟨Or.inl e.1.1,e.1.2⟩,e.2⟩
    . exact e.elim
    . refine⟨⟨Or.inr e,by omega⟩,fun e2=>?_⟩;cases bo with
      | none=>cases e2
      | some a=>injection e2 with e2;have:=(h.own.block a rfl).2;omega)
   exact h1.turns hT (fun i e=>e.1.2)
 . exact(h.own.turns r2 (fun a e k=>k.2 (by rw[e];rfl))).turns hT (fun a e=>(h.mem a e).2)
theorem Mi {w W w2 W' wF:World}{S:Nat->Prop}{g:Nat}{t:Fm.Td}{ao bo:ak}{cap bc:Nat}(hb:aj w W)(hT:Turns (fun i=>S i∧i<w.heap.size) W w2)(hb2:aj w2 W')(h3:jT wF (gN (gN (fun i=>S i∧i<w.heap.size) W) W') g ao cap bo bc t)(pF:Turns (gN (fun i=>S i∧i<w.heap.size) W) W' wF):nu wF (gN S w) g t∧Turns S w wF:=by
 have s1:=hb.size;have s2:=hT.size;have s3:=hb2.size
 refine⟨⟨_,_,_,_,h3.mono (fun k _ e=>?_)⟩,?_⟩
 . rcases e with e | e
   . rcases e with e | e
     . exact Or.inl e.1
     . exact Or.inr (by omega)
   . exact Or.inr (by omega)
 . refine(((Turns.of_below (S:=S) hb).trans (hT.mono (S':=S) (fun i e=>e.1)) (fun _ e _=>e)).trans (Turns.of_below (S:=S) hb2) (fun _ e _=>e)).trans pF (fun i e hi=>?_);rcases e with e | e
   . exact e.1
   . omega
theorem xV (w:World)(S:Nat->Prop)(g:Nat)(t:Fm.Td)(k:Int)(pn pf pt:ay)(c:Int)(h:nu w S g t)(hk:k≠2)(hl:t.es.length<=90000):
 Calls prog 234 #[.pointer (some ⟨g,0,none⟩),.agg #[.int .i64 k,.string ⟨#[]⟩,.string ⟨#[]⟩,.int .i64 0,.slice none 0 0,.int .i64 0,.slice none 0 0,.string pn,.string pf,.string pt,.slice none 0 0,.int .i64 c]] w fun e w'=>e=.returned (.tuple #[])∧nu w' (gN S w) g (Fm.tell t (vK k pn pf pt c))∧Turns S w w':=by
 have HE:Hid (Fm.tell t (vK k pn pf pt c)=⟨Fm.flush t++[vK k pn pf pt c],[]⟩):=by unfold Hid Fm.tell;exact if_neg hk
 have hfl:(Fm.flush t).length<=90001:=by
  unfold Fm.flush Fm.nT;rw[aW];split <;> simp <;> omega
 have HA:Hid (∀W,nu W (fun i=>S i∧i<w.heap.size) g t->Calls prog 235 #[.pointer (some ⟨g,0,none⟩)] W fun e w'=>∃ao cap bo bc,e=.returned (.slice ao (Fm.flush t).length cap)∧jT w' (gN (fun i=>S i∧i<w.heap.size) W) g ao cap bo bc ⟨Fm.flush t,[]⟩∧Turns (fun i=>S i∧i<w.heap.size) W w'):=fun W hW=>II W _ g t hW (by omega);have h0:nu w (fun i=>S i∧i<w.heap.size) g t:=h.mono (fun i hi e=>⟨e,hi⟩);have hb1:aj w (w.alloc (.cells #[.int .i64 k,.string ⟨#[]⟩,.string ⟨#[]⟩,.int .i64 0,.slice none 0 0,.int .i64 0,.slice none 0 0,.string pn,.string pf,.string pt,.slice none 0 0,.int .i64 c] 72)).drew:=((fJ _ w).alloc (aM _) _).trans (gQ _ _);have hb2:aj w ((w.alloc (.cells #[.int .i64 k,.string ⟨#[]⟩,.string ⟨#[]⟩,.int .i64 0,.slice none 0 0,.int .i64 0,.slice none 0 0,.string pn,.string pf,.string pt,.slice none 0 0,.int .i64 c] 72)).alloc (.cells #[.int .i64 k,.string ⟨#[]⟩,.string ⟨#[]⟩,.int .i64 0,.slice none 0 0,.int .i64 0,.slice none 0 0,.string pn,.string pf,.string pt,.slice none 0 0,.int .i64 c] 72)).drew:=(((fJ _ w).alloc (aM _) _).alloc (by rw[fZ];omega) _).trans (gQ _ _);have HT1:=H9 (h0.stay hb1);have HT2:=H9 (h0.stay hb2)
 have ZL:Hid (S g):=by obtain⟨_,_,_,_,h⟩:=h;exact h.me
 have HB1:=H9 hb1;have HB2:=H9 hb2
 have Tm:Hid (∀w2,Turns (fun i=>S i∧i<w.heap.size) (w.alloc (.cells #[.int .i64 k,.string ⟨#[]⟩,.string ⟨#[]⟩,.int .i64 0,.slice none 0 0,.int .i64 0,.slice none 0 0,.string pn,.string pf,.string pt,.slice none 0 0,.int .i64 c] 72)).drew w2->w2.heap[w.heap.size]? = some (.cells #[.int .i64 k,.string ⟨#[]⟩,.string ⟨#[]⟩,.int .i64 0,.slice none 0 0,.int .i64 0,.slice none 0 0,.string pn,.string pf,.string pt,.slice none 0 0,.int .i64 c] 72 (0,0))):=fun w2 hT=>hT.row (fI w _) (fun e=>by have:=e.2;omega);have WV:Hid (∀w2,Turns (fun i=>S i∧i<w.heap.size) ((w.alloc (.cells #[.int .i64 k,.string ⟨#[]⟩,.string ⟨#[]⟩,.int .i64 0,.slice none 0 0,.int .i64 0,.slice none 0 0,.string pn,.string pf,.string pt,.slice none 0 0,.int .i64 c] 72)).alloc (.cells #[.int .i64 k,.string ⟨#[]⟩,.string ⟨#[]⟩,.int .i64 0,.slice none 0 0,.int .i64 0,.slice none 0 0,.string pn,.string pf,.string pt,.slice none 0 0,.int .i64 c] 72)).drew w2->∀j u,((vK k pn pf pt c).cells ⟨none,0,none,0,none,0⟩)[j]? = some u->w2.cell? (Addr.add ⟨w.heap.size+1,0,none⟩ j)=some u):=fun w2 hT j u hu=>by
  have h1:((w.alloc (.cells #[.int .i64 k,.string ⟨#[]⟩,.string ⟨#[]⟩,.int .i64 0,.slice none 0 0,.int .i64 0,.slice none 0 0,.string pn,.string pf,.string pt,.slice none 0 0,.int .i64 c] 72)).alloc (.cells #[.int .i64 k,.string ⟨#[]⟩,.string ⟨#[]⟩,.int .i64 0,.slice none 0 0,.int .i64 0,.slice none 0 0,.string pn,.string pf,.string pt,.slice none 0 0,.int .i64 c] 72)).drew.heap[w.heap.size+1]? = some (.cells #[.int .i64 k,.string ⟨#[]⟩,.string ⟨#[]⟩,.int .i64 0,.slice none 0 0,.int .i64 0,.slice none 0 0,.string pn,.string pf,.string pt,.slice none 0 0,.int .i64 c] 72 (0,0)):=by
   have:=fI (w.alloc (.cells #[.int .i64 k,.string ⟨#[]⟩,.string ⟨#[]⟩,.int .i64 0,.slice none 0 0,.int .i64 0,.slice none 0 0,.string pn,.string pf,.string pt,.slice none 0 0,.int .i64 c] 72)) (.cells #[.int .i64 k,.string ⟨#[]⟩,.string ⟨#[]⟩,.int .i64 0,.slice none 0 0,.int .i64 0,.slice none 0 0,.string pn,.string pf,.string pt,.slice none 0 0,.int .i64 c] 72);rw[fZ] at this;exact this
  have h2:=hT.row h1 (fun e=>by have:=e.2;omega);rw[gI,bq,fK w2 (w.heap.size+1) j _ _ _ h2,dH];exact hu
 have HX3:Hid (∀(w2:World) j u,((vK k pn pf pt c).cells ⟨none,0,none,0,none,0⟩)[j]? = some u->(w2.alloc (.cells #[.int .i64 k,.string ⟨#[]⟩,.string ⟨#[]⟩,.int .i64 0,.slice none 0 0,.int .i64 0,.slice none 0 0,.string pn,.string pf,.string pt,.slice none 0 0,.int .i64 c] 72)).cell? (Addr.add ⟨w2.heap.size,0,none⟩ j)=some u):=fun w2 j u hu=>by
  rw[gI,bq,World.cell?_alloc_at _ _ _ _ rfl,dH];exact hu
 obtain⟨i0,hi0,hz0,hz1,hz2⟩:=info_parts Mh;have Hi:=H9 hi0;have kK:=H9 hz0;have kH:=H9 hz1;have kL:=H9 hz2
 have IJ:Hid ((Fm.flush t).length+1<=maxLen∧((Fm.flush t).length+1)*184<=140737488355328):=⟨by unfold maxLen;omega,by omega⟩;generalize (Fm.flush t)=fl at *;obtain⟨n,hn⟩:∃n,fl.length=n:=⟨_,rfl⟩;rw[hn] at HA IJ;have HNl:=H9 hn;clear hi0 hz0 hz1 hz2 h h0 hb1 hb2 hl hfl hn hk;go_enter func234,ntmps234;go_wp2;go_region_law (first
  | (go_simp;go_at_call 235;refine(HA.o _ HT1.o).mono ?_;rintro e w2 ⟨ao,cap,bo,bc,rfl,hR,hT⟩;have hx:=Tm.o _ hT;have x0:w2.cell? ⟨w.heap.size,0,none⟩=_:=fK w2 _ 0 _ _ _ hx;have x1:w2.cell? ⟨w.heap.size,1,none⟩=_:=fK w2 _ 1 _ _ _ hx;have x2:w2.cell? ⟨w.heap.size,2,none⟩=_:=fK w2 _ 2 _ _ _ hx;have x3:w2.cell? ⟨w.heap.size,3,none⟩=_:=fK w2 _ 3 _ _ _ hx;have x4:w2.cell? ⟨w.heap.size,4,none⟩=_:=fK w2 _ 4 _ _ _ hx;have x5:w2.cell? ⟨w.heap.size,5,none⟩=_:=fK w2 _ 5 _ _ _ hx;have x6:w2.cell? ⟨w.heap.size,6,none⟩=_:=fK w2 _ 6 _ _ _ hx;have x7:w2.cell? ⟨w.heap.size,7,none⟩=_:=fK w2 _ 7 _ _ _ hx;have x8:w2.cell? ⟨w.heap.size,8,none⟩=_:=fK w2 _ 8 _ _ _ hx;have x9:w2.cell? ⟨w.heap.size,9,none⟩=_:=fK w2 _ 9 _ _ _ hx;have x10:w2.cell? ⟨w.heap.size,10,none⟩=_:=fK w2 _ 10 _ _ _ hx;have x11:w2.cell? ⟨w.heap.size,11,none⟩=_:=fK w2 _ 11 _ _ _ hx;simp only[dH,List.getElem?_cons_zero,List.getElem?_cons_succ] at x0 x1 x2 x3 x4 x5 x6 x7 x8 x9 x10 x11;have HT:=H9 hT;obtain⟨xs,hOw,hgr⟩:=(hR.stay ((fJ _ _).alloc (aM _) (.cells #[.int .i64 k,.string ⟨#[]⟩,.string ⟨#[]⟩,.int .i64 0,.slice none 0 0,.int .i64 0,.slice none 0 0,.string pn,.string pf,.string pt,.slice none 0 0,.int .i64 c] 72))).grow;have HOw:=H9 hOw;have HGr:=H9 hgr;clear hT hx hR hOw hgr)
  | (go_simp;go_at_call 235;refine(HA.o _ HT2.o).mono ?_;rintro e w2 ⟨ao,cap,bo,bc,rfl,hR,hT⟩;have HXc:=H9 (WV.o _ hT);have HT:=H9 hT;obtain⟨xs,hOw,hgr⟩:=hR.grow;have HOw:=H9 hOw;have HGr:=H9 hgr;clear hT hR hOw hgr)
  | (refine step_append_lies _ (by rfl) _ _ _ (by rfl) 0 72 i0 (.agg #[.int .i64 0,.string ⟨#[]⟩,.string ⟨#[]⟩,.int .i64 0,.slice none 0 0,.int .i64 0,.slice none 0 0,.string ⟨#[]⟩,.string ⟨#[]⟩,.string ⟨#[]⟩,.slice none 0 0,.int .i64 0]) 12 184 underlying58 Hi.o kK.o kH.o kL.o (by rfl) (by decide) (.slice ao n cap) n _ (by rfl) (HNl.o▸HOw.o) ⟨w2.heap.size,0,none⟩ 1 1 ((vK k pn pf pt c).cells ⟨none,0,none,0,none,0⟩) (by rfl) (by rfl) (HX3.o w2) (cells_one _ _) (by decide) IJ.o.1 IJ.o.2 (aA _) (w2.heap.size+1) (by simp) ?_;intro g3 gX w3 hown3 hgrow kC hlt3;rw[gP] at hgrow kC;have hq:=HGr.o g3 gX w3 k pn pf pt c (HNl.o.symm▸hown3) hgrow (by simpa using kC);have q0:w3.cell? ⟨g,0,none⟩=_:=fK w3 g 0 _ _ _ hq.1;have f0:w3.frozen? ⟨g,0,none⟩=false:=fM w3 g 0 _ _ hq.1;rw[HNl.o] at q0 hq;have HQ:=H9 hq;clear hq hgrow hown3 kC)
  | (refine step_append_lies _ (by rfl) _ _ _ (by rfl) 0 72 i0 (.agg #[.int .i64 0,.string ⟨#[]⟩,.string ⟨#[]⟩,.int .i64 0,.slice none 0 0,.int .i64 0,.slice none 0 0,.string ⟨#[]⟩,.string ⟨#[]⟩,.string ⟨#[]⟩,.slice none 0 0,.int .i64 0]) 12 184 underlying58 Hi.o kK.o kH.o kL.o (by rfl) (by decide) (.slice ao n cap) n _ (by rfl) (HNl.o▸HOw.o) ⟨w.heap.size+1,0,none⟩ 1 1 ((vK k pn pf pt c).cells ⟨none,0,none,0,none,0⟩) (by rfl) (by rfl) HXc.o (cells_one _ _) (by decide) IJ.o.1 IJ.o.2 (aA _) w2.heap.size (by rfl) ?_;intro g3 gX w3 hown3 hgrow kC hlt3;rw[gP] at hgrow kC;have hq:=HGr.o g3 gX w3 k pn pf pt c (HNl.o.symm▸hown3) hgrow (by simpa using kC);have q0:w3.cell? ⟨g,0,none⟩=_:=fK w3 g 0 _ _ _ hq.1;have f0:w3.frozen? ⟨g,0,none⟩=false:=fM w3 g 0 _ _ hq.1;rw[HNl.o] at q0 hq;have HQ:=H9 hq;clear hq hgrow hown3 kC))
 all_goals
  go_wp2;go_end0
  rw[HE.o];first
   | exact⟨rfl,Mi HB1.o HT.o ((fJ _ _).alloc (aM _) _) HQ.o.2.1 HQ.o.2.2⟩
   | exact⟨rfl,Mi HB2.o HT.o (fJ _ _) HQ.o.2.1 HQ.o.2.2⟩
end Go.Proofs.YtjmndjmhjleabaaGreatDoor