import Derived.Test.YtoflhbghdlaeaaaGreatDoorG14
namespace Go.Proofs.YtoflhbghdlaeaaaGreatDoor
open Go.RowKit
section
set_option linter.unusedVariables false
theorem RL.vs {w:World} {v:Value} {ls:List (LI)} (h:RL w v ls) (nc:NoCap v):∃vs,VS w v vs∧vs.length=ls.length∧∀j u,vs[j]? = some u->Bs .u8 w u (ls.getD j [])∧NoCap u:=by
 obtain⟨ao,cap,rfl,hc,hr⟩:=h
 by_cases h0:ls=[]
 ·subst h0
  exact⟨[],⟨ao,cap,rfl,nc,by simp,λ_=>rfl,λad _ j y hy=>by simp at hy⟩,rfl,λj u hu=>by simp at hu⟩
 ·obtain⟨b,off,rfl,h4⟩:=hr h0
  refine⟨(List.range ls.length).map (λj=>(w.cell? ⟨b,off+j,none⟩).getD undef),⟨some ⟨b,off,none⟩,cap,by simp,nc,?_,(λe=>by cases e),?_⟩,by simp,?_⟩
  ·intro y hy
   simp only[List.mem_map,List.mem_range] at hy;obtain⟨j,hj,rfl⟩:=hy;obtain⟨u,h1,h2,_⟩:=h4 j hj;obtain⟨ao',c',rfl⟩:=h2.len;rw[h1];rfl
  ·intro ad had j y hy
   cases had
   have hj:j<ls.length:=by
    have:=(List.getElem?_eq_some_iff.1 hy).1
    simpa using this
   obtain⟨u,h1,h2,_⟩:=h4 j hj;rw[Go.WideShapes.add_plain,h1,<-hy];simp[hj,h1]
  ·intro j u hu
   have hj:j<ls.length:=by
    have:=(List.getElem?_eq_some_iff.1 hu).1
    simpa using this
   obtain⟨u',h1,h2,h3⟩:=h4 j hj;simp[hj,h1] at hu;subst hu;exact⟨h2,h3⟩
theorem SR {w:World} {vs us:List Value} {ls ms:List (LI)} (hl:vs.length=ls.length) (h:∀j u,vs[j]? = some u->Bs .u8 w u (ls.getD j [])∧NoCap u) (k:∀j u,us[j]? = some u->Bs .u8 w u (ms.getD j [])∧NoCap u) :
 ∀j u,(vs++us)[j]? = some u->Bs .u8 w u ((ls++ms).getD j [])∧NoCap u:=λj u hu=>by
 by_cases hj:j<vs.length
 ·rw[List.getElem?_append_left hj] at hu
  rw[Qd,List.getElem?_append_left (by omega),<-Qd];exact h j u hu
 ·rw[List.getElem?_append_right (by omega)] at hu
  rw[Qd,List.getElem?_append_right (by omega),<-Qd,<-hl];exact k _ u hu
theorem IK {w w':World} {vs:List Value} {ls:List (LI)} (h:∀j u,vs[j]? = some u->Bs .u8 w u (ls.getD j [])∧NoCap u) (o:N0 w w'):∀j u,vs[j]? = some u->Bs .u8 w' u (ls.getD j [])∧NoCap u:=λj u hu=>⟨(h j u hu).1.past o,(h j u hu).2⟩
end
end Go.Proofs.YtoflhbghdlaeaaaGreatDoor
