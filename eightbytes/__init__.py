"""A reference in eight bytes: a place in a memory, its stretch, and what may be done there."""
